import Derived.Test.YtnmplldhdfingaaGreatDoorFG16
set_option maxRecDepth 10000
set_option maxHeartbeats 8000000
set_option linter.unusedVariables false
namespace Go.Proofs.YtnmplldhdfingaaGreatDoor
open Go.RowKit
def endS (seed leaf:Int)(bs:List Int)(i:Nat):Int:=stepsN (startN seed leaf i) ((diL (hashL bs)).getD i 0).toNat
def endSs (seed leaf:Int)(bs:List Int):List Int:=(List.range 18).map (endS seed leaf bs)
theorem endSs_len (seed leaf:Int)(bs:List Int):(endSs seed leaf bs).length=18:=by simp [endSs]
theorem endSs_get (seed leaf:Int)(bs:List Int)(d:Nat)(h:d<18):(endSs seed leaf bs).getD d 0=endS seed leaf bs d:=by simp [endSs,h]
theorem endSs_bd (seed leaf:Int)(bs:List Int):∀ k,U64 ((endSs seed leaf bs).getD k 0):=by
 intro k
 by_cases h:k<18
 ·rw [endSs_get seed leaf bs k h]; exact stepsN_bd _ (startN_bd _ _ _) _
 ·rw [List.getD_eq_getElem?_getD,List.getElem?_eq_none (by rw [endSs_len]; omega)]; simp [U64]
theorem results_tsg {fn:Func}{t u v:Tmp}(h:fn.results=#[.cell t 85,.cell u 87,.tmp v])(tmps:Array Value)(g g':Nat)(ht:tmps.getD t undef=.pointer (some ⟨g,0,none⟩))(hu:tmps.getD u undef=.pointer (some ⟨g',0,none⟩))(x:Value)(hv:tmps.getD v undef=x)(w:World)(c0 c1 c2 e0 e1 e2:Value)
  (hb:w.heap[g]? = some (.cells #[c0,c1,c2] 85 (0,0))) (hb':w.heap[g']? = some (.cells #[e0,e1,e2] 87 (0,0))):(results fn tmps).run Tryz.prog w=.ok (.tuple #[.agg #[c0,c1,c2],.agg #[e0,e1,e2],x]) w:=by
 have d0:w.cell? ⟨g,0,none⟩=some c0:=qk hb rfl
 have d1:w.cell? ⟨g,1,none⟩=some c1:=qk hb rfl
 have d2:w.cell? ⟨g,2,none⟩=some c2:=qk hb rfl
 have k0:w.cell? ⟨g',0,none⟩=some e0:=(cell_of_row _ g' 0 _ 87 (0,0) hb').trans rfl
 have k1:w.cell? ⟨g',1,none⟩=some e1:=(cell_of_row _ g' 1 _ 87 (0,0) hb').trans rfl
 have k2:w.cell? ⟨g',2,none⟩=some e2:=(cell_of_row _ g' 2 _ 87 (0,0) hb').trans rfl
 clear hb hb'
 have ht':tmps[t]?.getD undef=.pointer (some ⟨g,0,none⟩):=by rw [← ht]; simp
 have hu':tmps[u]?.getD undef=.pointer (some ⟨g',0,none⟩):=by rw [← hu]; simp
 have hv':tmps[v]?.getD undef=x:=by rw [← hv]; simp
 simp [results,h,go_sem,ht',hu',hv',d0,d1,d2,k0,k1,k2]
inductive SgR (seed h next:Int) (bs:List Int) (B:Nat) (w':World):Value→Prop
 | bad (hk:¬ kP h next):SgR seed h next bs B w' (.tuple #[tsv 0 none 0 0 none 0 0,tkv 0 0 0,.int .i64 1])
 | used (hk:kP h next) (hu:next=((2 ^ h.toNat:Nat):Int)):SgR seed h next bs B w' (.tuple #[tsv 0 none 0 0 none 0 0,tkv seed h next,.int .i64 2])
 | made (hk:kP h next) (hu:¬ (next=((2 ^ h.toNat:Nat):Int))) (a1:Option Addr) (c1:Nat) (a2:Option Addr) (c2:Nat) (M:Nat) (h1:OwnU B w' a1 18 c1 (endSs seed next bs)) (hM:∀ x,a1=some x→x.block<M) (hB:B≤M) (h2:OwnU M w' a2 h.toNat c2 (pathN (leavesN seed (2 ^ h.toNat)) next.toNat h.toNat)):SgR seed h next bs B w' (.tuple #[tsv next a1 18 c1 a2 h.toNat c2,tkv seed h (next+1),.int .i64 0])
structure Bx3 (w w1:World)(seed h next:Int):Prop where
 k:w1.heap[w.heap.size]? = some (.cells #[.int .u64 seed,.int .i64 h,.int .i64 next] 87)
 s:w1.heap[w.heap.size+1]? = some (.cells #[.int .i64 0,.slice none 0 0,.slice none 0 0] 85)
 r:w1.heap[w.heap.size+1+1]? = some (.cells #[.int .u64 0,.int .i64 0,.int .i64 0] 87)
theorem bx3_new (w:World)(seed h next:Int):Bx3 w (((w.alloc (.cells #[.int .u64 seed,.int .i64 h,.int .i64 next] 87)).alloc (.cells #[.int .i64 0,.slice none 0 0,.slice none 0 0] 85)).alloc (.cells #[.int .u64 0,.int .i64 0,.int .i64 0] 87)) seed h next:=by
 have s1:(w.alloc (.cells #[.int .u64 seed,.int .i64 h,.int .i64 next] 87)).heap.size=w.heap.size+1:=by simp
 refine ⟨(alloc_oldT _ _ _ (by simp; omega)).trans ((alloc_oldT _ _ _ (by simp)).trans (heap_alloc_new w _)),(alloc_oldT _ _ _ (by simp)).trans (by rw [← s1]; exact heap_alloc_new _ _),?_⟩
 rw [← s1]
 exact heap_alloc2_new _ _ _
theorem Bx3.kept {w w1 w2:World}{seed h next:Int}(b:Bx3 w w1 seed h next)(hb:Below w1.heap.size w1 w2):Bx3 w w2 seed h next :=
 ⟨(hb.block _ (Array.getElem?_eq_some_iff.1 b.k).1).trans b.k,(hb.block _ (Array.getElem?_eq_some_iff.1 b.s).1).trans b.s,(hb.block _ (Array.getElem?_eq_some_iff.1 b.r).1).trans b.r⟩
def six (W:World)(g:Nat)(v0 v1 v2 e0 e1 e2:Value):World:=(((((W.setCell ⟨g+1,0,none⟩ v0).setCell ⟨g+1,1,none⟩ v1).setCell ⟨g+1,2,none⟩ v2).setCell ⟨g+1+1,0,none⟩ e0).setCell ⟨g+1+1,1,none⟩ e1).setCell ⟨g+1+1,2,none⟩ e2
theorem Bx3.out {w w2:World}{seed h next:Int}(b:Bx3 w w2 seed h next)(hB:Below w.heap.size w w2)(v0 v1 v2 e0 e1 e2:Value) :
  (six w2 w.heap.size v0 v1 v2 e0 e1 e2).heap[w.heap.size+1]? = some (.cells #[v0,v1,v2] 85 (0,0))∧(six w2 w.heap.size v0 v1 v2 e0 e1 e2).heap[w.heap.size+1+1]? = some (.cells #[e0,e1,e2] 87 (0,0))∧Below w.heap.size w (six w2 w.heap.size v0 v1 v2 e0 e1 e2):=by
 unfold six
 refine ⟨?_,?_,?_⟩
 ·refine (Below.heap_setCell _ _ _ _ (by simp)).trans ((Below.heap_setCell _ _ _ _ (by simp)).trans ((Below.heap_setCell _ _ _ _ (by simp)).trans ?_))
  exact heap_setCell_same _ _ 2 _ 85 _ (heap_setCell_same _ _ 1 _ 85 _ (heap_setCell_same _ _ 0 _ 85 _ b.s))
 ·exact heap_setCell_same _ _ 2 _ 87 _ (heap_setCell_same _ _ 1 _ 87 _ (heap_setCell_same _ _ 0 _ 87 _ ((Below.heap_setCell _ _ _ _ (by simp)).trans ((Below.heap_setCell _ _ _ _ (by simp)).trans ((Below.heap_setCell _ _ _ _ (by simp)).trans b.r)))))
 ·exact (((((hB.setCell (by simp) _).setCell (by simp) _).setCell (by simp) _).setCell (by simp; omega) _).setCell (by simp; omega) _).setCell (by simp; omega) _
theorem OwnU.six {B g:Nat}{W:World}{a:Option Addr}{n cap:Nat}{zs:List Int}(h:OwnU B W a n cap zs)(hg:g+1+1<B)(v0 v1 v2 e0 e1 e2:Value):OwnU B (six W g v0 v1 v2 e0 e1 e2) a n cap zs :=
 (((((h.set (by omega) _ _).set (by omega) _ _).set (by omega) _ _).set hg _ _).set hg _ _).set hg _ _
structure Fx3 (w w2:World):Prop where
 r0:w2.cell? ⟨w.heap.size+1,0,none⟩=some (.int .i64 0)
 r1:w2.cell? ⟨w.heap.size+1,1,none⟩=some (.slice none 0 0)
 r2:w2.cell? ⟨w.heap.size+1,2,none⟩=some (.slice none 0 0)
 f0:w2.frozen? ⟨w.heap.size+1,0,none⟩=false
 f1:w2.frozen? ⟨w.heap.size+1,1,none⟩=false
 f2:w2.frozen? ⟨w.heap.size+1,2,none⟩=false
 s0:w2.cell? ⟨w.heap.size+1+1,0,none⟩=some (.int .u64 0)
 s1:w2.cell? ⟨w.heap.size+1+1,1,none⟩=some (.int .i64 0)
 s2:w2.cell? ⟨w.heap.size+1+1,2,none⟩=some (.int .i64 0)
 g0:w2.frozen? ⟨w.heap.size+1+1,0,none⟩=false
 g1:w2.frozen? ⟨w.heap.size+1+1,1,none⟩=false
 g2:w2.frozen? ⟨w.heap.size+1+1,2,none⟩=false
theorem Bx3.fx {w w2:World}{seed h next:Int}(hb:Bx3 w w2 seed h next):Fx3 w w2 :=
 ⟨(cell_of_row _ _ 0 _ 85 (0,0) hb.s).trans rfl,(cell_of_row _ _ 1 _ 85 (0,0) hb.s).trans rfl,(cell_of_row _ _ 2 _ 85 (0,0) hb.s).trans rfl,
  frozen_of_row w2 _ 0 _ 85 hb.s,frozen_of_row w2 _ 1 _ 85 hb.s,frozen_of_row w2 _ 2 _ 85 hb.s,
  (cell_of_row _ _ 0 _ 87 (0,0) hb.r).trans rfl,(cell_of_row _ _ 1 _ 87 (0,0) hb.r).trans rfl,(cell_of_row _ _ 2 _ 87 (0,0) hb.r).trans rfl,
  frozen_of_row w2 _ 0 _ 87 hb.r,frozen_of_row w2 _ 1 _ 87 hb.r,frozen_of_row w2 _ 2 _ 87 hb.r⟩
theorem implTreeSign_any (seed h next:Int)(am:Option Addr)(n c:Nat)(bs:List Int)(w:World)(hx:U64 seed)(hr:Row w am n bs)(hn:n≤1000000000000) :
  Calls Tryz.prog 194 #[tkv seed h next,.slice am n c] w fun e w'=>∃ v,e=.returned v∧SgR seed h next bs w.heap.size w' v∧Below w.heap.size w w':=by
 obtain ⟨i0,hi,hz0,hz1,hz2⟩:=info_parts Tryz.infoU
 obtain ⟨w1,hw1⟩:∃ w1,w1=((w.alloc (.cells #[.int .u64 seed,.int .i64 h,.int .i64 next] 87)).alloc (.cells #[.int .i64 0,.slice none 0 0,.slice none 0 0] 85)).alloc (.cells #[.int .u64 0,.int .i64 0,.int .i64 0] 87):=⟨_,rfl⟩
 have hbb:Below w.heap.size w w1:=by rw [hw1]; exact (((Below.refl _ _).alloc (Nat.le_refl _) _).alloc (by simp) _).alloc (by simp; omega) _
 have HBX:Hid (Bx3 w w1 seed h next):=by rw [hw1]; exact bx3_new w seed h next
 have HXD:∀ w7,Below w1.heap.size w1 w7→w7.cell? ⟨w.heap.size,0,none⟩=some (.int .u64 seed)∧w7.cell? ⟨w.heap.size,1,none⟩=some (.int .i64 h)∧w7.cell? ⟨w.heap.size,2,none⟩=some (.int .i64 next):=by
  intro w7 h7
  have hbx:=(HBX.out.kept h7).k
  exact ⟨(cell_of_row _ w.heap.size 0 _ 87 (0,0) hbx).trans rfl,(cell_of_row _ w.heap.size 1 _ 87 (0,0) hbx).trans rfl,(cell_of_row _ w.heap.size 2 _ 87 (0,0) hbx).trans rfl⟩
 have HW:Hid (_=_):=hw1
 clear hw1
 obtain ⟨q0,q1,q2⟩:=HXD _ (Below.refl _ _)
 rw [tkv]
 go_enter Tryz.func194,Tryz.ntmps194
 go_upto_region 1 with fail
 rw [← HW.out]
 clear HW
 go_wp2_with fail
 refine (isRight_any seed h next _).mono ?_
 rintro e w2 ⟨rfl,hb2⟩
 clear q0 q1 q2
 by_cases hk:kP h next
 ·obtain ⟨N,hN⟩:=HN.of hk.1.1 hk.1.2
  have HNP:Hid (_=_):=hN.pow.1
  have hNl:=hN.le
  obtain ⟨hk1,hk2⟩:0≤next∧next≤(N:Int):=by rw [HNP.out]; exact hk.2
  rw [decide_eq_true hk]
  go_upto_region 3 with fail
  have hdr:Below w2.heap.size w2 w2.drew:=(Below.refl _ _).drew
  have SS:=HXD _ hb2
  have SS1:=HXD _ (keepT hb2 hdr)
  go_region_held_law (fun w7=>w7.cell? ⟨w.heap.size,0,none⟩=some (.int .u64 seed)∧w7.cell? ⟨w.heap.size,1,none⟩=some (.int .i64 h)∧w7.cell? ⟨w.heap.size,2,none⟩=some (.int .i64 next)) (first | assumption | exact SS | exact SS1 | exact SS2)
   (first
    | (go_at_call 193; refine (leaves_any seed h next N _ hN).mono ?_; rintro e w3 ⟨rfl,hb3⟩; have hb23:=keepT hdr hb3; have SS2:=HXD _ (keepT hb2 hb23)))
  all_goals
   have hb13:=keepT hb2 hb23
   clear SS SS1 hdr
   by_cases hu:next=(N:Int)
   ·have hue:(next == (N:Int))=true:=by simp [hu]
    have HU:Hid (next=(N:Int)):=hu
    clear hu
    have hb:=HBX.out.kept hb13
    obtain ⟨r0,r1,r2,f0,f1,f2,s0,s1,s2,g0,g1,g2⟩:=hb.fx
    obtain ⟨q0,q1,q2⟩:=SS2
    have HB:Hid (_):=hb
    clear hb
    go_upto_region 4 with fail
    go_region
    all_goals
     go_wp2
     try simp only [Exit.inBlock,Exit.then]
     obtain ⟨o1,o2,o3⟩:=HB.out.out (keepT hbb hb13) (.int .i64 0) (.slice none 0 0) (.slice none 0 0) (.int .u64 seed) (.int .i64 h) (.int .i64 next)
     unfold six at o1 o2 o3
     exact bodyPost_ret (results_tsg rfl _ (w.heap.size+1) (w.heap.size+1+1) rfl rfl _ rfl _ _ _ _ _ _ _ (by rw [heap_drew]; exact o1) (by rw [heap_drew]; exact o2)) rfl ⟨_,rfl,.used hk (by rw [← HNP.out]; exact HU.out),o3.drew⟩
   ·have hue:(next == (N:Int))=false:=by simp [hu]
    have HU:Hid (¬ (next=((2 ^ h.toNat:Nat):Int))):=by show ¬ _; rw [← HNP.out]; exact hu
    have hlt:next<(N:Int):=by omega
    clear hu SS2
    obtain ⟨L,hL⟩:∃ L:Nat,L=next.toNat:=⟨_,rfl⟩
    have hLn:(L:Int)=next:=by omega
    have hLN:L<N:=by omega
    go_wp2_with (first | (at_make; refine wpList_make_full _ rfl _ _ 83 rfl w3.heap.size 29 i0 _ 1 Tryz.underlying83 hi hz0 hz1 _ _ _ _ 18 rfl rfl rfl rfl (by rw [hz2]; decide) (by unfold maxLen; decide) (by exact Nat.le_refl _) ?_; intro w4 hown hgrow))
    have hbl:Below w3.heap.size w3 w4:=(Below.refl _ _).grown hgrow (Nat.le_refl _) (by simp)
    have HST:Hid (OwnU w3.heap.size w4 (some ⟨w3.heap.size,0,none⟩) 18 18 (half (endSs seed next bs) 0)):=by
     show OwnU _ _ _ _ _ _
     rw [half_zero,endSs_len]
     exact ⟨madeU hown,u64_rep 18⟩
    have hB4:Below w.heap.size w w4:=keepT hbb (keepT hb13 hbl)
    clear hgrow hown
    refine (signedDigits_any am n c bs _ (hr.kept hB4) hn).mono ?_
    rintro e w5 ⟨rfl,hb5⟩
    have hb35:=keepT hbl hb5
    have HST5:Hid (_):=HST.out.kept hb5
    obtain ⟨dl,hdl⟩:∃ dl,dl=diL (hashL bs):=⟨_,rfl⟩
    have HDL:Hid (dl=diL (hashL bs)):=hdl
    rw [← hdl]
    clear hdl HST hb5 hbl hB4
    go_wp2
    go_loopw [8,9,28] (fun _ _ i wr=>∃ k:Nat,k≤18∧i=.int .i64 k∧Hid (OwnU w3.heap.size wr (some ⟨w3.heap.size,0,none⟩) 18 18 (half (endSs seed next bs) k))∧Below w3.heap.size w3 wr) (fun _ _ i _=>18 - (intOf i).toNat)
    case atStart=>exact ⟨0,by decide,rfl,HST5,hb35⟩
    case round =>
     obtain ⟨k,hkk,rfl,HO,hbr⟩:=hrel
     clear HST5 hb35
     by_cases hlt8:k<18
     ·have hlti:(k:Int)<18:=by omega
      have hix:∀ w',(Instr.index 220 (.agg (vA dl)) (.int .i64 (k:Int))).run Tryz.prog w'=.ok (.int .i64 (dl.getD k 0)) w':=fun w'=>run_index_vA w' dl (by rw [HDL.out,diL_len]) k hlt8
      have hdb:0≤dl.getD k 0∧dl.getD k 0≤15:=by rw [HDL.out]; exact diL_bd _ k
      obtain ⟨d,hd⟩:∃ d,d=dl.getD k 0:=⟨_,rfl⟩
      rw [← hd] at hix hdb
      obtain ⟨hd0,hd1⟩:=hdb
      obtain ⟨m,hm⟩:∃ m,m=d.toNat:=⟨_,rfl⟩
      have HDM:Hid (d=(m:Int)):=by show _=_; omega
      have hm15:m≤15:=by omega
      have HVV:Hid (stepsN (startN seed next (k:Int)) m=endS seed next bs k):=by show _=_; unfold endS; rw [hm,hd,HDL.out]
      clear hd hm
      obtain ⟨q0,q1,q2⟩:=HXD _ (keepT hb13 hbr)
      go_wp2_with fail
      refine (implStart_any seed h next next (k:Int) _ hx (by omega) (by omega)).mono ?_
      rintro e w6 ⟨rfl,hb6⟩
      clear q0 q1 q2
      go_wp2_with fail
      rw [HDM.out]
      refine (stepped_any (startN seed next (k:Int)) m _ (startN_bd _ _ _) (by omega)).mono ?_
      rintro e w7 ⟨rfl,hb7⟩
      rw [HVV.out]
      have hb67:=keepT hb6 hb7
      have hor:=HO.out.kept hb67
      have hB5:=keepT hbr hb67
      have f0:w7.frozen? ⟨w3.heap.size,k,none⟩=false:=hor.row.frozenAt _
      have hvl:((half (endSs seed next bs) k).map (Value.int .u64)).length=18 * 1:=hor.row.1
      obtain ⟨y0,hy0⟩:∃ y,w7.cell? ⟨w3.heap.size,k,none⟩=some y:=⟨_,(hor.row.cellAt _ (by omega)).trans (List.getElem?_eq_getElem (by omega))⟩
      have hs:=(hor.row.stored k (.int .u64 (endS seed next bs k))).1
      have e1:=half_set (endSs seed next bs) k (by rw [endSs_len]; exact hlt8)
      rw [endSs_get seed next bs k hlt8] at e1
      rw [← List.map_set,e1] at hs
      obtain ⟨vv,hvv⟩:∃ vv,vv=endS seed next bs k:=⟨_,rfl⟩
      rw [← hvv] at hs ⊢
      clear hvv
      have HNX:Hid (OwnU w3.heap.size (w7.setCell ⟨w3.heap.size,k,none⟩ (.int .u64 vv)) (some ⟨w3.heap.size,0,none⟩) 18 18 (half (endSs seed next bs) (k+1))):=⟨hs,u64_half (endSs_bd seed next bs) _⟩
      have HBN:Hid (Below w3.heap.size w3 (w7.setCell ⟨w3.heap.size,k,none⟩ (.int .u64 vv))):=hB5.setCell (Nat.le_refl _) _
      clear hs hor hB5 hb6 hb7 hb67 hbr HO hvl e1 hix HVV HDM
      go_wp2
      go_roundw
      case rel=>exact ⟨k+1,by omega,by go_num,HNX,HBN.out⟩
      case measure=>simp [intOf]; omega
     ·obtain rfl:k=18:=by omega
      have HE:Hid (OwnU w3.heap.size wr (some ⟨w3.heap.size,0,none⟩) 18 18 (endSs seed next bs)):=by
       have:=HO.out
       have e:=half_all (endSs seed next bs)
       rw [endSs_len] at e
       rwa [e] at this
      have hb1r:=keepT hb13 hbr
      clear HO
      go_upto_region 11 with fail
      obtain ⟨v,hv⟩:∃ v,v=(lev (leavesN seed N) h.toNat).getD 0 0:=⟨_,rfl⟩
      have HVV:Hid ((lev (leavesN seed N) h.toNat).getD 0 0=v):=hv.symm
      obtain ⟨H,hH⟩:∃ H,H=h.toNat:=⟨_,rfl⟩
      have HH:Hid (h.toNat=H):=hH.symm
      have HLX:Hid (L=next.toNat):=hL
      clear hv hH hL
      have hdr:Below wr.heap.size wr wr.drew:=(Below.refl _ _).drew
      have T0:=HXD _ hb1r
      have T1:=HXD _ (keepT hb1r hdr)
      go_region_held_law (fun w7=>w7.cell? ⟨w.heap.size,0,none⟩=some (.int .u64 seed)∧w7.cell? ⟨w.heap.size,1,none⟩=some (.int .i64 h)∧w7.cell? ⟨w.heap.size,2,none⟩=some (.int .i64 next)) (first | assumption | exact T0 | exact T1 | exact T2 | exact T3)
       (first
        | (go_at_call 193; refine (leaves_any seed h next N _ hN).mono ?_; rintro e wx ⟨rfl,hbx⟩; have hbX:=keepT hdr hbx; have T2:=HXD _ (keepT hb1r hbX))
        | (go_at_call 200; refine (wayUp_v seed h next N L next _ hx hN hLN hLn v H HVV.out HH.out).mono ?_; rintro e wy ⟨ap,cp,rfl,HP,hby⟩; have hbY:=keepT hbX hby; have T3:=HXD _ (keepT hb1r hbY)))
      all_goals
       have hb1y:=keepT hb1r hbY
       have HE2:Hid (OwnU w3.heap.size wy (some ⟨w3.heap.size,0,none⟩) 18 18 (endSs seed next bs)):=HE.out.kept hbY
       have hlr:=hbX.size
       have hw3:=HE.out.shape (by decide)
       obtain ⟨q0,q1,q2⟩:=T3
       obtain ⟨w8,hw8⟩:∃ w8,w8=wy.alloc (.cells #[.int .u64 seed,.int .i64 h,.int .i64 (next+1)] 87):=⟨_,rfl⟩
       have hb8:Below wy.heap.size wy w8:=by rw [hw8]; exact (Below.refl _ _).alloc (Nat.le_refl _) _
       have B8:w8.heap[wy.heap.size]? = some (.cells #[.int .u64 seed,.int .i64 h,.int .i64 (next+1)] 87):=by rw [hw8]; exact heap_alloc_new wy _
       have HW8:Hid (_=_):=hw8
       clear hw8 T0 T1 T2 HE hdr hby
       go_upto_region 13 with fail
       rw [← HW8.out]
       clear HW8 q0 q1 q2
       have hb18:=keepT hb1y hb8
       have hb:=HBX.out.kept hb18
       obtain ⟨r0,r1,r2,f0,f1,f2,s0,s1,s2,g0,g1,g2⟩:=hb.fx
       obtain ⟨q0,q1,q2⟩:=HXD _ hb18
       have t0:w8.cell? ⟨wy.heap.size,0,none⟩=some (.int .u64 seed):=qk B8 rfl
       have t1:w8.cell? ⟨wy.heap.size,1,none⟩=some (.int .i64 h):=qk B8 rfl
       have t2:w8.cell? ⟨wy.heap.size,2,none⟩=some (.int .i64 (next+1)):=qk B8 rfl
       have HB:Hid (_):=hb
       have hsz1:=(Array.getElem?_eq_some_iff.1 HBX.out.r).1
       have hszy:w1.heap.size≤wy.heap.size:=hb1y.size
       have hn1:¬ (wy.heap.size=w.heap.size+1):=by omega
       have hn2:¬ (w.heap.size+1=wy.heap.size):=by omega
       have hn3:¬ (wy.heap.size=w.heap.size+1+1):=by omega
       have hn4:¬ (w.heap.size+1+1=wy.heap.size):=by omega
       have hs3:w1.heap.size≤w3.heap.size:=hb13.size
       have HE8:Hid (_):=HE2.out.kept hb8
       have HP8:Hid (_):=HP.out.kept hb8
       clear hb B8 HE2 HP
       go_region
       all_goals
        go_wp2
        try simp only [Exit.inBlock,Exit.then]
        obtain ⟨o1,o2,o3⟩:=HB.out.out (keepT hbb hb18) (.int .i64 next) (.slice (some ⟨w3.heap.size,0,none⟩) 18 18) (.slice ap H cp) (.int .u64 seed) (.int .i64 h) (.int .i64 (next+1))
        have HE9:=HE8.out.six (g:=w.heap.size) (by omega) (.int .i64 next) (.slice (some ⟨w3.heap.size,0,none⟩) 18 18) (.slice ap H cp) (.int .u64 seed) (.int .i64 h) (.int .i64 (next+1))
        have hsx:=hbX.size
        obtain ⟨g3,hg3,_,hw3r⟩:=hw3
        simp only [Option.some.injEq,Addr.mk.injEq,and_true] at hg3
        subst hg3
        have HP9:=HP8.out.six (g:=w.heap.size) (by omega) (.int .i64 next) (.slice (some ⟨w3.heap.size,0,none⟩) 18 18) (.slice ap H cp) (.int .u64 seed) (.int .i64 h) (.int .i64 (next+1))
        have h2':=HP9.kept ((Below.refl _ _).drew)
        have h1':=(HE9.kept ((Below.refl _ _).drew)).mono (show w.heap.size≤w3.heap.size by omega)
        unfold six at o1 o2 o3 h1' h2'
        have hm:=SgR.made (seed:=seed) (h:=h) (next:=next) (bs:=bs) (B:=w.heap.size) hk HU.out _ _ _ _ _ h1' (fun x hx=>by cases hx; exact Nat.lt_of_lt_of_le hw3r hsx) (by omega) (by rw [← HNP.out,← HLX.out,HH.out]; exact h2')
        rw [HH.out] at hm
        exact bodyPost_ret (results_tsg rfl _ (w.heap.size+1) (w.heap.size+1+1) rfl rfl (.int .i64 0) rfl _ (.int .i64 next) (.slice (some ⟨w3.heap.size,0,none⟩) 18 18) (.slice ap H cp) (.int .u64 seed) (.int .i64 h) (.int .i64 (next+1)) (by rw [heap_drew]; exact o1) (by rw [heap_drew]; exact o2)) rfl ⟨_,rfl,hm,o3.drew⟩
 ·rw [decide_eq_false hk]
  have hb:=HBX.out.kept hb2
  obtain ⟨r0,r1,r2,f0,f1,f2,s0,s1,s2,g0,g1,g2⟩:=hb.fx
  have HB:Hid (_):=hb
  clear hb
  go_wp2
  try simp only [Exit.inBlock,Exit.then]
  obtain ⟨o1,o2,o3⟩:=HB.out.out (keepT hbb hb2) (.int .i64 0) (.slice none 0 0) (.slice none 0 0) (.int .u64 0) (.int .i64 0) (.int .i64 0)
  unfold six at o1 o2 o3
  exact bodyPost_ret (results_tsg rfl _ (w.heap.size+1) (w.heap.size+1+1) rfl rfl _ rfl _ _ _ _ _ _ _ o1 o2) rfl ⟨_,rfl,.bad hk,o3⟩
end Go.Proofs.YtnmplldhdfingaaGreatDoor
