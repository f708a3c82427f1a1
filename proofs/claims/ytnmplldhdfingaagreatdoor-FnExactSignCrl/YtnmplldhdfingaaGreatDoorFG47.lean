import Derived.Test.YtnmplldhdfingaaGreatDoorFG17
set_option maxRecDepth 10000
set_option maxHeartbeats 8000000
set_option linter.unusedVariables false
namespace Go.Proofs.YtnmplldhdfingaaGreatDoor
open Go.RowKit
theorem l8Digits_own (a:Option Addr)(n c:Nat)(bs:List Int)(w:World)(hr:Row w a n bs)(hn:n≤1000000000000) :
  Calls Tryz.prog 89 #[.slice a n c] w fun e w'=>∃ ad cd,e=.returned (.slice ad 18 cd)∧w'.ownsRow w.heap.size 2 1 (.slice ad 18 cd) 18 ((diL (hashL bs)).map (Value.int .i64))∧Below w.heap.size w w':=by
 obtain ⟨i0,hi,hz0,hz1,hz2⟩:=info_parts Tryz.info2
 have hU:=hashL_bd bs
 obtain ⟨h,hh⟩:∃ h,h=hashL bs:=⟨_,rfl⟩
 have HH:Hid (hashL bs=h):=hh.symm
 rw [← hh] at hU ⊢
 clear hh
 have hoe:(w.alloc (.cells #[] 2)).ownsRow w.heap.size 2 1 (.slice (some ⟨w.heap.size,0,none⟩) 0 0) 0 []:=World.ownsRow_lit w #[] 0 (Nat.le_refl _) (Nat.zero_le _) rfl
 have hbe:Below w.heap.size w (w.alloc (.cells #[] 2)):=(Below.refl _ _).alloc (Nat.le_refl _) _
 go_enter Tryz.func89,Tryz.ntmps89
 go_upto_region 1 with fail
 go_wp2_with fail
 refine (specHash_any a n c bs _ hr hn).mono ?_
 rintro e w1 ⟨rfl,hw1⟩
 have hw2:=hw1.symm
 subst hw2
 rw [HH.out]
 clear hr HH
 go_wp2
 go_loopw [4,5,6,7] (fun o s i _ wr=>∃ (ao:Option Addr) (q len cap:Nat) (y:Int),q≤16∧len=16 - q∧i=.int .i64 ((q:Int) - 1)∧o=.slice ao len cap∧s=.int .i64 y∧Hid (y=sumU h (16 - q))∧wr.ownsRow w.heap.size 2 1 (.slice ao len cap) len (((diL h).take (16 - q)).map (Value.int .i64))∧Below w.heap.size w wr) (fun _ _ i _ _=>((intOf i)+1).toNat)
 case atStart=>exact ⟨_,16,0,0,0,Nat.le_refl _,rfl,rfl,rfl,rfl,rfl,hoe,hbe⟩
 case round =>
  obtain ⟨ao,q,len,cap,y,hq,hle,rfl,rfl,rfl,HY,hor,hbr⟩:=hrel
  have HLe:Hid (len=16 - q):=hle
  clear hle hoe hbe
  have hws:w.heap.size≤wr.heap.size:=hbr.size
  rcases q with _ | q
  ·obtain rfl:len=16:=HLe.out
   have hy:=sumU_bd h 16
   have HY2:Hid (y=sumF h 16):=by show _=_; rw [HY.out,← sum_same h]
   rw [← show y=sumU h 16 from HY.out] at hy
   obtain ⟨hy0,hy1⟩:=hy
   have hal:Below wr.heap.size wr (wr.alloc (.cells #[.int .i64 (y / 16),.int .i64 (y % 16)] 2)):=(Below.refl _ _).alloc (Nat.le_refl _) _
   have hor4:=ownsRow_below hor hal
   have hbr4:=keepT hbr hal
   have hcl:=cell_two64 wr (y / 16) (y % 16)
   have t1:y.tdiv 16=y / 16:=Int.tdiv_eq_ediv_of_nonneg hy0
   have t2:y.tmod 16=y % 16:=Int.tmod_eq_emod_of_nonneg hy0
   clear hal
   go_wp2_with (first | (at_builtin; refine wpList_append_own _ rfl (.tmp 30) (.tmp 35) 125 rfl w.heap.size 2 i0 _ 1 8 Tryz.underlying125 hi hz0 hz1 hz2 rfl (by decide) _ 16 _ rfl hor4 ⟨wr.heap.size,0,none⟩ 2 2 ([y / 16,y % 16].map (Value.int .i64)) rfl rfl hcl (ints_oneCell .i64 [y / 16,y % 16]) (by unfold maxLen; omega) (by omega) (by have:=hbr4.size; exact this) ?_; intro v5 w5 hv5 hg5 _))
   have hbr5:Below w.heap.size w w5:=hbr4.grown hg5 hbr4.size (fun k hk=>(hor4.lt k hk).1)
   have e1:((diL h).take (16 - 0)).map (Value.int .i64)++[y / 16,y % 16].map (Value.int .i64)=(diL h).map (Value.int .i64):=by
    rw [← List.map_append]
    congr 1
    rw [HY2.out]
    rfl
   rw [e1] at hv5
   obtain ⟨a5,c5,rfl⟩:=slice_of_owns hv5
   go_wp2
   go_ret
   exact ⟨a5,c5,rfl,hv5,hbr5⟩
  ·have e1:((q+1:Nat):Int) - 1=(q:Int):=by omega
   rw [e1]
   clear e1
   have hq16:q<16:=by omega
   have hl9:len≤18:=by have:=HLe.out; omega
   have hx0:0≤h / 2 ^ (4 * q):=Int.ediv_nonneg hU.1 (Int.le_of_lt (Int.pow_pos (by decide)))
   have hx1:h / 2 ^ (4 * q)≤18446744073709551615:=Int.le_trans (Int.ediv_le_self _ hU.1) hU.2
   have ha:=and15 _ hx0 hx1
   have hdd:h / 2 ^ (4 * q) % 16=digI h (15 - q):=by unfold digI; rw [show 15 - (15 - q)=q by omega,pow_16]
   obtain ⟨d,hd⟩:∃ d,d=digI h (15 - q):=⟨_,rfl⟩
   have hdb:=digI_bd h (15 - q)
   rw [hdd,← hd] at ha
   rw [← hd] at hdb
   obtain ⟨hd0,hd1⟩:=hdb
   have HD:Hid (d=digI h (15 - q)):=hd
   clear hd hdd hx0 hx1
   have hyb:=sumU_bd h (16 - (q+1))
   rw [← show y=sumU h (16 - (q+1)) from HY.out] at hyb
   obtain ⟨hy0,hy1⟩:=hyb
   have hy2:y≤1000:=by omega
   clear hy1
   have hal:Below wr.heap.size wr (wr.alloc (.cells #[.int .i64 d] 2)):=(Below.refl _ _).alloc (Nat.le_refl _) _
   have hor4:=ownsRow_below hor hal
   have hbr4:=keepT hbr hal
   have hcl:=cell_one64 wr d
   clear hal hor
   go_wp2_with (first | (at_builtin; refine wpList_append_own _ rfl (.tmp 22) (.tmp 24) 125 rfl w.heap.size 2 i0 _ 1 8 Tryz.underlying125 hi hz0 hz1 hz2 rfl (by decide) _ len _ rfl hor4 ⟨wr.heap.size,0,none⟩ 1 1 ([d].map (Value.int .i64)) rfl rfl hcl (ints_oneCell .i64 [d]) (by unfold maxLen; omega) (by omega) (by have:=hbr4.size; exact this) ?_; intro v5 w5 hv5 hg5 _))
   have hbr5:Below w.heap.size w w5:=hbr4.grown hg5 hbr4.size (fun k hk=>(hor4.lt k hk).1)
   have e1:((diL h).take (16 - (q+1))).map (Value.int .i64)++[d].map (Value.int .i64)=((diL h).take (16 - q)).map (Value.int .i64):=by
    rw [← List.map_append]
    congr 1
    have hg:(diL h).getD (16 - (q+1)) 0=d:=by rw [HD.out,show 16 - (q+1)=15 - q by omega,List.getD_eq_getElem?_getD,diL,List.getElem?_append_left (by simp; omega),List.getElem?_map,List.getElem?_range (by omega)]; rfl
    rw [show 16 - q=16 - (q+1)+1 by omega,take_snoc _ _ (by rw [diL_len]; omega),hg]
   rw [e1] at hv5
   obtain ⟨a5,c5,rfl⟩:=slice_of_owns hv5
   clear hor4 hbr4 hcl hg5
   go_roundw
   case rel=>exact ⟨a5,q,len+1,c5,_,by omega,by have:=HLe.out; omega,rfl,rfl,rfl,by show _=_; rw [HY.out,show 16 - q=16 - (q+1)+1 by omega,sumU,HD.out,show 16 - (q+1)=15 - q by omega]; omega,hv5,hbr5⟩
   case measure=>simp [intOf]
theorem Touch.and_below {lo hi:Nat}{a b c:World}(h:Touch lo hi a b)(k:Below a.heap.size b c):Touch lo hi a c :=
 ⟨k.os.trans h.os,k.tape.trans h.tape,k.output.trans h.output,Nat.le_trans h.size k.size,fun i hi' ho=>(k.block i hi').trans (h.block i hi' ho)⟩
theorem Touch.and_set {p:Nat}{a b:World}(h:Touch p (p+1) a b)(i:Nat)(v:Value):Touch p (p+1) a (b.setCell ⟨p,i,none⟩ v) :=
 h.trans ⟨rfl,rfl,rfl,by simp,fun k _ ho=>Below.heap_setCell _ _ _ _ (by simp; omega)⟩
theorem OwnU.touchU {p B:Nat}{w w':World}{a:Option Addr}{n cap:Nat}{zs:List Int}(h:OwnU B w a n cap zs)(hB:p<B)(ht:Touch p (p+1) w w'):OwnU B w' a n cap zs:=by
 refine ⟨⟨h.row.1,?_⟩,h.rng⟩
 rcases h.row.2 with h | ⟨g',cap',cur,hv,hb,hh,r⟩
 ·exact .inl h
 ·exact .inr ⟨g',cap',cur,hv,hb,(ht.block g' (Array.getElem?_eq_some_iff.1 hh).1 (by omega)).trans hh,r⟩
theorem Bx3.touch {w w1 w2:World}{seed h next:Int}(b:Bx3 w w1 seed h next)(ht:Touch (w.heap.size+1+1+1) (w.heap.size+1+1+1+1) w1 w2):Bx3 w w2 seed h next :=
 ⟨(ht.block _ (Array.getElem?_eq_some_iff.1 b.k).1 (by omega)).trans b.k,(ht.block _ (Array.getElem?_eq_some_iff.1 b.s).1 (by omega)).trans b.s,(ht.block _ (Array.getElem?_eq_some_iff.1 b.r).1 (by omega)).trans b.r⟩
def SigAt (w:World)(p:Nat)(leaf:Int)(e1 e2:Value):Prop:=w.heap[p]? = some (.cells #[.int .i64 leaf,e1,e2] 85 (0,0))
theorem SigAt.c0 {w:World}{p:Nat}{leaf:Int}{e1 e2:Value}(h:SigAt w p leaf e1 e2):w.cell? ⟨p,0,none⟩=some (.int .i64 leaf):=qk h rfl
theorem SigAt.c1 {w:World}{p:Nat}{leaf:Int}{e1 e2:Value}(h:SigAt w p leaf e1 e2):w.cell? ⟨p,1,none⟩=some e1:=qk h rfl
theorem SigAt.c2 {w:World}{p:Nat}{leaf:Int}{e1 e2:Value}(h:SigAt w p leaf e1 e2):w.cell? ⟨p,2,none⟩=some e2:=qk h rfl
theorem SigAt.fz {w:World}{p:Nat}{leaf:Int}{e1 e2:Value}(h:SigAt w p leaf e1 e2)(i:Nat):w.frozen? ⟨p,i,none⟩=false:=frozen_of_row w _ i _ 85 h
theorem SigAt.kept {B:Nat}{w w':World}{p:Nat}{leaf:Int}{e1 e2:Value}(h:SigAt w p leaf e1 e2)(hp:p<B)(hb:Below B w w'):SigAt w' p leaf e1 e2:=(hb.block _ hp).trans h
theorem SigAt.put1 {w:World}{p:Nat}{leaf:Int}{e1 e2:Value}(h:SigAt w p leaf e1 e2)(v:Value):SigAt (w.setCell ⟨p,1,none⟩ v) p leaf v e2:=heap_setCell_same w p 1 _ 85 v h
theorem SigAt.put2 {w:World}{p:Nat}{leaf:Int}{e1 e2:Value}(h:SigAt w p leaf e1 e2)(v:Value):SigAt (w.setCell ⟨p,2,none⟩ v) p leaf e1 v:=heap_setCell_same w p 2 _ 85 v h
theorem SigAt.put0 {w:World}{p:Nat}{leaf l:Int}{e1 e2:Value}(h:SigAt w p leaf e1 e2):SigAt (w.setCell ⟨p,0,none⟩ (.int .i64 l)) p l e1 e2:=heap_setCell_same w p 0 _ 85 _ h
theorem specTreeSign_any (seed h next:Int)(am:Option Addr)(n c:Nat)(bs:List Int)(w:World)(hx:U64 seed)(hr:Row w am n bs)(hn:n≤1000000000000) :
  Calls Tryz.prog 47 #[tkv seed h next,.slice am n c] w fun e w'=>∃ v,e=.returned v∧SgR seed h next bs w.heap.size w' v∧Below w.heap.size w w':=by
 obtain ⟨i0,hi,hz0,hz1,hz2⟩:=info_parts Tryz.infoU
 obtain ⟨w0,hw0⟩:∃ w0,w0=((w.alloc (.cells #[.int .u64 seed,.int .i64 h,.int .i64 next] 87)).alloc (.cells #[.int .i64 0,.slice none 0 0,.slice none 0 0] 85)).alloc (.cells #[.int .u64 0,.int .i64 0,.int .i64 0] 87):=⟨_,rfl⟩
 have hs0:w0.heap.size=w.heap.size+1+1+1:=by rw [hw0]; simp
 have hb00:Below w.heap.size w w0:=by rw [hw0]; exact (((Below.refl _ _).alloc (Nat.le_refl _) _).alloc (by simp) _).alloc (by simp; omega) _
 have HB0:Hid (Bx3 w w0 seed h next):=by rw [hw0]; exact bx3_new w seed h next
 obtain ⟨w1,hw1⟩:∃ w1,w1=w0.alloc (.cells #[.int .i64 0,.slice none 0 0,.slice none 0 0] 85):=⟨_,rfl⟩
 have hb01:Below w0.heap.size w0 w1:=by rw [hw1]; exact (Below.refl _ _).alloc (Nat.le_refl _) _
 have hbb:Below w.heap.size w w1:=keepT hb00 hb01
 have HBX:Hid (Bx3 w w1 seed h next):=HB0.out.kept hb01
 have HSA:Hid (SigAt w1 (w.heap.size+1+1+1) 0 (.slice none 0 0) (.slice none 0 0)):=by show _=_; rw [hw1,← hs0]; exact heap_alloc_new w0 _
 have hs1:w1.heap.size=w.heap.size+1+1+1+1:=by rw [hw1]; simp [hs0]
 have HW:Hid (w1=_):=hw1
 rw [hw0] at HW
 clear hw1 hw0 hb00 hb01 HB0 hs0
 obtain ⟨p,hp⟩:∃ p,p=w.heap.size+1+1+1:=⟨_,rfl⟩
 have HP:Hid (p=w.heap.size+1+1+1):=hp
 rw [← hp] at HSA hs1
 have HXD:∀ w7,Below w1.heap.size w1 w7→w7.cell? ⟨w.heap.size,0,none⟩=some (.int .u64 seed)∧w7.cell? ⟨w.heap.size,1,none⟩=some (.int .i64 h)∧w7.cell? ⟨w.heap.size,2,none⟩=some (.int .i64 next):=by
  intro w7 h7
  have hbx:=(HBX.out.kept h7).k
  exact ⟨(cell_of_row _ w.heap.size 0 _ 87 (0,0) hbx).trans rfl,(cell_of_row _ w.heap.size 1 _ 87 (0,0) hbx).trans rfl,(cell_of_row _ w.heap.size 2 _ 87 (0,0) hbx).trans rfl⟩
 obtain ⟨q0,q1,q2⟩:=HXD _ (Below.refl _ _)
 rw [tkv]
 go_enter Tryz.func47,Tryz.ntmps47
 go_upto_region 2 with fail
 rw [← HW.out,← HP.out]
 clear HW hp
 go_wp2_with fail
 refine (l8KeyOk_any seed h next _).mono ?_
 rintro e w2 ⟨rfl,hb2⟩
 clear q0 q1 q2
 have hpl:p<w1.heap.size:=by omega
 by_cases hk:kP h next
 ·obtain ⟨N,hN⟩:=HN.of hk.1.1 hk.1.2
  have HNP:Hid (_=_):=hN.pow.1
  have hNl:=hN.le
  have hsh:=hN.sh
  obtain ⟨hk1,hk2⟩:0≤next∧next≤(N:Int):=by rw [HNP.out]; exact hk.2
  obtain ⟨hh0,hh5⟩:=hk.1
  have u1:IntKind.u64.wrap h=h:=by rw [IntKind.wrap_u64]; omega
  rw [decide_eq_true hk]
  obtain ⟨q0,q1,q2⟩:=HXD _ hb2
  by_cases hu:next=(N:Int)
  ·have hue:(next == (N:Int))=true:=by simp [hu]
   have HU:Hid (next=(N:Int)):=hu
   clear hu
   have hb:=HBX.out.kept hb2
   obtain ⟨r0,r1,r2,f0,f1,f2,s0,s1,s2,g0,g1,g2⟩:=hb.fx
   have hsa:=HSA.out.kept hpl hb2
   have t0:=hsa.c0
   have t1:=hsa.c1
   have t2:=hsa.c2
   have HB:Hid (_):=hb
   have hn1:¬ (p=w.heap.size+1):=by have:=HP.out; omega
   have hn2:¬ (w.heap.size+1=p):=by have:=HP.out; omega
   have hn3:¬ (p=w.heap.size+1+1):=by have:=HP.out; omega
   have hn4:¬ (w.heap.size+1+1=p):=by have:=HP.out; omega
   clear hb hsa
   go_upto_region 5 with fail
   go_region
   all_goals
    go_wp2
    try simp only [Exit.inBlock,Exit.then]
    obtain ⟨o1,o2,o3⟩:=HB.out.out (keepT hbb hb2) (.int .i64 0) (.slice none 0 0) (.slice none 0 0) (.int .u64 seed) (.int .i64 h) (.int .i64 next)
    unfold six at o1 o2 o3
    exact bodyPost_ret (results_tsg rfl _ (w.heap.size+1) (w.heap.size+1+1) rfl rfl _ rfl _ _ _ _ _ _ _ (by rw [heap_drew]; exact o1) (by rw [heap_drew]; exact o2)) rfl ⟨_,rfl,.used hk (by rw [← HNP.out]; exact HU.out),o3.drew⟩
  ·have hue:(next == (N:Int))=false:=by simp [hu]
   have HU:Hid (¬ (next=((2 ^ h.toNat:Nat):Int))):=by show ¬ _; rw [← HNP.out]; exact hu
   have hltN:next<(N:Int):=by omega
   clear hu
   obtain ⟨L,hL⟩:∃ L:Nat,L=next.toNat:=⟨_,rfl⟩
   have HLX:Hid (L=next.toNat):=hL
   have HLn:Hid (next=(L:Int)):=by show _=_; omega
   have hLN:L<N:=by omega
   clear hL
   have hsa:=HSA.out.kept hpl hb2
   have x0:=hsa.c0
   have z0:=hsa.fz 0
   have HS3:Hid (SigAt (w2.setCell ⟨p,0,none⟩ (.int .i64 next)) p next (.slice none 0 0) (.slice none 0 0)):=hsa.put0 (l:=next)
   have HB3:Hid (Bx3 w (w2.setCell ⟨p,0,none⟩ (.int .i64 next)) seed h next):=(HBX.out.kept hb2).touch (by rw [← HP.out]; exact (Touch.of_below (Below.refl _ _)).and_set 0 _)
   have hB3:Below w.heap.size w (w2.setCell ⟨p,0,none⟩ (.int .i64 next)):=(keepT hbb hb2).setCell (by have:=HP.out; simp; omega) _
   have hs3:p<(w2.setCell ⟨p,0,none⟩ (.int .i64 next)).heap.size:=by have:=hb2.size; simp; omega
   obtain ⟨w3,hw3⟩:∃ w3,w3=w2.setCell ⟨p,0,none⟩ (.int .i64 next):=⟨_,rfl⟩
   have HW3:Hid (_=w3):=hw3.symm
   rw [← hw3] at HS3 HB3 hB3 hs3
   clear hw3 hsa
   go_wp2_with fail
   rw [HW3.out]
   clear HW3 x0 z0 q0 q1 q2 HXD
   refine (l8Digits_own am n c bs _ (hr.kept hB3) hn).mono ?_
   rintro e w4 ⟨ad,cd,rfl,hod,hb4⟩
   have HS4:Hid (SigAt w4 p next (.slice none 0 0) (.slice none 0 0)):=HS3.out.kept hs3 hb4
   have HB4:Hid (Bx3 w w4 seed h next):=HB3.out.kept hb4
   have hB4:Below w.heap.size w w4:=keepT hB3 hb4
   have hp4:p<w4.heap.size:=Nat.lt_of_lt_of_le hs3 hb4.size
   obtain ⟨dl,hdl⟩:∃ dl,dl=diL (hashL bs):=⟨_,rfl⟩
   have HDL:Hid (dl=diL (hashL bs)):=hdl
   rw [← hdl] at hod
   obtain ⟨gd,rfl,hgd1,hgd2⟩:∃ gd,ad=some ⟨gd,0,none⟩∧w3.heap.size≤gd∧gd<w4.heap.size:=by
    rcases hod.2 with ⟨_,h0⟩ | ⟨g',cap',cur,hv,hb,hg,_⟩
    ·omega
    ·simp only [Value.slice.injEq] at hv
     exact ⟨g',hv.1,hb,(Array.getElem?_eq_some_iff.1 hg).1⟩
   have HRD:Hid (Row64 w4 (some ⟨gd,0,none⟩) 18 dl):=row64_of_owns hod
   clear hod hdl HS3 HB3 hb4 hr
   go_wp2
   go_loopw [9] (fun i wr=>∃ (q cc:Nat) (ao:Option Addr),q≤18∧i=.int .i64 q∧Hid (SigAt wr p next (.slice ao q cc) (.slice none 0 0))∧Hid (OwnU w4.heap.size wr ao q cc ((endSs seed next bs).take q))∧Hid (Touch p (p+1) w4 wr)) (fun i _=>18 - (intOf i).toNat)
   case atStart=>exact ⟨0,0,none,by decide,rfl,HS4,ownU_none _ _,Touch.of_below (Below.refl _ _)⟩
   case round =>
    obtain ⟨q,cc,ao,hq,rfl,HSr,HOr,HTr⟩:=hrel
    have hw4r:w4.heap.size≤wr.heap.size:=HTr.out.size
    have HBr:Hid (Bx3 w wr seed h next):=HB4.out.touch (by rw [← HP.out]; exact HTr.out)
    have hgp:w.heap.size+1+1+1=p:=HP.out.symm
    by_cases hlt8:q<18
    ·have hlti:(q:Int)<18:=by omega
     obtain ⟨b',off',hbe,_,hcd⟩:=HRD.out.get q hlt8
     simp only [Option.some.injEq,Addr.mk.injEq,and_true] at hbe
     obtain ⟨rfl,rfl⟩:=hbe
     have hdb:0≤dl.getD q 0∧dl.getD q 0≤15:=by rw [HDL.out]; exact diL_bd _ q
     obtain ⟨d,hd⟩:∃ d,d=dl.getD q 0:=⟨_,rfl⟩
     rw [← hd] at hcd hdb
     obtain ⟨hd0,hd1⟩:=hdb
     obtain ⟨m,hm⟩:∃ m,m=d.toNat:=⟨_,rfl⟩
     have HDM:Hid (d=(m:Int)):=by show _=_; omega
     have hm15:m≤15:=by omega
     have HVV:Hid (stepsN (startN seed next (q:Int)) m=endS seed next bs q):=by show _=_; unfold endS; rw [hm,hd,HDL.out]
     clear hd hm
     have HXX:∀ w7,Below w4.heap.size wr w7→(w7.cell? ⟨w.heap.size,0,none⟩=some (.int .u64 seed)∧w7.cell? ⟨p,0,none⟩=some (.int .i64 next)∧w7.frozen? ⟨p,1,none⟩=false∧w7.cell? ⟨gd,0+q,none⟩=some (.int .i64 d))∧w7.cell? ⟨p,1,none⟩=some (.slice ao q cc):=by
      intro w7 h7
      have k1:w7.heap[w.heap.size]? = _:=(h7.block _ (by omega)).trans HBr.out.k
      have k2:=HSr.out.kept hp4 h7
      have k3:w7.heap[gd]? = w4.heap[gd]?:=(h7.block _ hgd2).trans (HTr.out.block gd hgd2 (by omega))
      exact ⟨⟨(cell_of_row _ _ 0 _ 87 (0,0) k1).trans rfl,k2.c0,k2.fz 1,(World.cell?_of_block (a:=⟨gd,0+q,none⟩) k3).trans hcd⟩,k2.c1⟩
     have HXZ:∀ w7 v,Below w4.heap.size wr w7→((w7.setCell ⟨p,1,none⟩ v).cell? ⟨w.heap.size,0,none⟩=some (.int .u64 seed)∧(w7.setCell ⟨p,1,none⟩ v).cell? ⟨p,0,none⟩=some (.int .i64 next)∧(w7.setCell ⟨p,1,none⟩ v).frozen? ⟨p,1,none⟩=false∧(w7.setCell ⟨p,1,none⟩ v).cell? ⟨gd,0+q,none⟩=some (.int .i64 d)):=by
      intro w7 v h7
      have k1:(w7.setCell ⟨p,1,none⟩ v).heap[w.heap.size]? = _:=(Below.heap_setCell _ _ _ _ (by simp; omega)).trans ((h7.block _ (by omega)).trans HBr.out.k)
      have k2:=(HSr.out.kept hp4 h7).put1 v
      have k3:(w7.setCell ⟨p,1,none⟩ v).heap[gd]? = w4.heap[gd]?:=(Below.heap_setCell _ _ _ _ (by simp; omega)).trans ((h7.block _ hgd2).trans (HTr.out.block gd hgd2 (by omega)))
      exact ⟨(cell_of_row _ _ 0 _ 87 (0,0) k1).trans rfl,k2.c0,k2.fz 1,(World.cell?_of_block (a:=⟨gd,0+q,none⟩) k3).trans hcd⟩
     simp only [Nat.zero_add] at HXX HXZ
     have HE1:Hid (((endSs seed next bs).take q).map (Value.int .u64)++[endS seed next bs q].map (Value.int .u64)=((endSs seed next bs).take (q+1)).map (Value.int .u64)):=by show _=_; rw [take_snoc (endSs seed next bs) q (by rw [endSs_len]; exact hlt8),endSs_get seed next bs q hlt8,List.map_append]
     have hdr:Below wr.heap.size wr wr.drew:=(Below.refl _ _).drew
     obtain ⟨⟨t00,t01,t03,t04⟩,t02⟩:=HXX _ (Below.refl _ _)
     obtain ⟨⟨t10,t11,t13,t14⟩,t12⟩:=HXX _ (hdr.mono hw4r)
     clear hcd HXZ
     go_upto_region 11 with fail
     go_region_law
      (first
       | (go_simp; go_at_call 91; refine (l8Start_any seed next (q:Int) _ hx (by omega) (by omega)).mono ?_; rintro e w5 ⟨rfl,hb5⟩; have hb57:=keepT hdr hb5; obtain ⟨⟨t20,t21,t23,t24⟩,t22⟩:=HXX _ (hb57.mono hw4r))
       | (go_simp; go_at_call 90; rw [HDM.out]; refine (l8Steps_any (startN seed next (q:Int)) m _ (startN_bd _ _ _) (by omega)).mono ?_; rintro e w6 ⟨rfl,hb6⟩; rw [HVV.out]; have hb67:=keepT hb57 hb6; obtain ⟨⟨t30,t31,t33,t34⟩,t32⟩:=HXX _ (hb67.mono hw4r); have hal:Below wr.heap.size wr (w6.alloc (.cells #[.int .u64 (endS seed next bs q)] 29)):=hb67.alloc hb67.size _; obtain ⟨⟨t40,t41,t43,t44⟩,t42⟩:=HXX _ (hal.mono hw4r); have hor3:=(HOr.out.kept hal).row; have hcl:=cell_oneU w6 (endS seed next bs q))
       | (refine step_append_ownT rfl (.tmp 37) (.tmp 49) 83 rfl w4.heap.size 29 i0 _ 1 8 Tryz.underlying83 hi hz0 hz1 hz2 rfl (by decide) _ q _ (by simp [Act.eval]) hor3 ⟨w6.heap.size,0,none⟩ 1 1 ([endS seed next bs q].map (Value.int .u64)) (by simp [Act.eval]) rfl hcl (ints_oneCell .u64 [endS seed next bs q]) (by unfold maxLen; omega) (by omega) (by have:=hal.size; omega) ?_; intro v4 w8 hv4 hg4; have hbr4:Below w4.heap.size wr w8:=(hal.mono hw4r).grown hg4 (by have:=hal.size; omega) (fun k hk=>(hor3.lt k hk).1); obtain ⟨⟨t50,t51,t53,t54⟩,t52⟩:=HXX _ hbr4; rw [HE1.out] at hv4; obtain ⟨a4,c4,rfl,ho4⟩:=ownU_appended (u64_take (endSs_bd seed next bs) _) hv4))
     all_goals
      go_wp2
      go_roundw
      case rel=>exact ⟨q+1,c4,a4,by omega,by go_num,(HSr.out.kept hp4 hbr4).put1 _,ho4.set hp4 _ _,(HTr.out.and_below hbr4).and_set 1 _⟩
      case measure=>simp [intOf]; omega
    ·obtain rfl:q=18:=by omega
     have HE:Hid (OwnU w4.heap.size wr ao 18 cc (endSs seed next bs)):=by
      have:=HOr.out
      rwa [List.take_of_length_le (by rw [endSs_len]; exact Nat.le_refl _)] at this
     have k0:wr.cell? ⟨w.heap.size,0,none⟩=some (.int .u64 seed):=qk HBr.out.k rfl
     have k1:wr.cell? ⟨w.heap.size,1,none⟩=some (.int .i64 h):=qk HBr.out.k rfl
     have k2:wr.cell? ⟨w.heap.size,2,none⟩=some (.int .i64 next):=qk HBr.out.k rfl
     have hBr:Below w.heap.size w wr:=hB4.trans (HTr.out.below (by omega) hB4.size)
     clear HOr
     go_wp2_with fail
     refine (l8Leaves_any seed h next N _ hx hN).mono ?_
     rintro e wL ⟨ar,cr,rfl,hoL,hbL⟩
     clear k0 k1 k2
     have HBL:Hid (Bx3 w wL seed h next):=HBr.out.kept hbL
     have hsL:=HSr.out.kept (Nat.lt_of_lt_of_le hp4 hw4r) hbL
     have HSL:Hid (SigAt wL p next (.slice ao 18 cc) (.slice none 0 0)):=hsL
     have HEL:Hid (OwnU w4.heap.size wL ao 18 cc (endSs seed next bs)):=HE.out.kept hbL
     have hBL:Below w.heap.size w wL:=keepT hBr hbL
     have hpL:p<wL.heap.size:=Nat.lt_of_lt_of_le hp4 (Nat.le_trans hw4r hbL.size)
     obtain ⟨H,hH⟩:∃ H,H=h.toNat:=⟨_,rfl⟩
     have hp5:=hN.pow
     rw [← hH] at hp5
     obtain ⟨hpN,hH5⟩:=hp5
     have HPN:Hid (N=2 ^ H):=hpN
     have HH:Hid (h.toNat=H):=hH.symm
     have hZL:(leavesN seed N).length=N:=leavesN_len seed N
     obtain ⟨zs,hzs⟩:∃ zs,zs=leavesN seed N:=⟨_,rfl⟩
     have HZS:Hid (zs=leavesN seed N):=hzs
     have HZB:Hid (∀ k,U64 (zs.getD k 0)):=by rw [hzs]; exact leavesN_bd seed N
     rw [← hzs] at hoL
     obtain ⟨gr,rfl,hgr1,hgr2⟩:=hoL.shape (by omega)
     have HR0:Hid (RowU wL (some ⟨gr,0,none⟩) N (lev zs 0)):=hoL.toRow
     have x0:=hsL.c0
     have hHw:w4.heap.size≤wL.heap.size:=Nat.le_trans hw4r hbL.size
     have HEs:=HE.out.shape (by decide)
     clear hpN hH hzs hZL hoL hsL HE HSr HTr HBr
     rw [HLn.out] at x0
     go_wp2
     clear x0
     go_loopw [10,11] (fun r l wx=>∃ (j n2 c2 cp:Nat) (ar ap:Option Addr),j≤H∧n2≤32∧n2=2 ^ (H - j)∧r=.slice ar n2 c2∧l=.int .i64 ((L / 2 ^ j:Nat):Int)∧Hid (SigAt wx p next (.slice ao 18 cc) (.slice ap j cp))∧Hid (RowU wx ar n2 (lev zs j))∧(∀ b off,ar=some ⟨b,off,none⟩→p<b)∧Hid (OwnU wL.heap.size wx ap j cp (pathN zs L j))∧(∀ g,(Value.slice ap j cp).ownBlock=some g→∀ b off,ar=some ⟨b,off,none⟩→b≠g)∧Hid (Touch p (p+1) wL wx)) (fun r _ _=>lenT r)
     case atStart=>exact ⟨0,N,cr,0,_,none,Nat.zero_le _,hNl.2,HPN.out,rfl,by simp,HSL,HR0,(fun b off e=>by simp at e; omega),ownU_none _ _,(fun g hg=>by cases hg),Touch.of_below (Below.refl _ _)⟩
     case round =>
      obtain ⟨j,n2,c2,cp,ar2,ap,hj,hn2,hn2e,rfl,rfl,HSx,HRx,hpb,HPx,hsep,HTx⟩:=hrel
      have HN2:Hid (n2=2 ^ (H - j)):=hn2e
      clear hn2e HR0 HSL
      have hLx:wL.heap.size≤wr.heap.size:=HTx.out.size
      by_cases hjl:j<H
      ·obtain ⟨m2,hm2⟩:∃ m2,m2=2 ^ (H - (j+1)):=⟨_,rfl⟩
       have hnm:n2=2 * m2:=by rw [HN2.out,hm2,show H - j=H - (j+1)+1 by omega,Nat.pow_succ]; omega
       have hm1:1≤m2:=by rw [hm2]; exact Nat.pow_pos (by decide)
       have hl:L / 2 ^ j<n2:=by rw [HN2.out]; exact div_pow_lt (by rw [← HPN.out]; exact hLN) hj
       have HLD:Hid (L / 2 ^ (j+1)=L / 2 ^ j / 2):=by show _=_; rw [Nat.pow_succ,Nat.div_div_eq_div_mul]
       have HM2:Hid (m2=2 ^ (H - (j+1))):=hm2
       have HPP:Hid (pathN zs L (j+1)=pathN zs L j++[(lev zs j).getD (sib (L / 2 ^ j)) 0]):=rfl
       obtain ⟨x,hxx⟩:∃ x,x=L / 2 ^ j:=⟨_,rfl⟩
       rw [← hxx] at hl HLD HPP ⊢
       have hs:=sib_lt (x:=x) (m:=m2) (by omega)
       have hxo:=xor_sib x (by omega)
       have hsn:((sib x:Nat):Int)<(n2:Int):=by omega
       obtain ⟨y,hy⟩:∃ y,y=sib x:=⟨_,rfl⟩
       rw [← hy] at hs hxo hsn HPP
       clear hxx hm2 hy
       obtain ⟨b,off,rfl,hlb,hcell⟩:=HRx.out.get y (by omega)
       have hvb:=HRx.out.rng y
       obtain ⟨v,hv⟩:∃ v,v=(lev zs j).getD y 0:=⟨_,rfl⟩
       rw [← hv] at hcell hvb HPP
       have hbp:=hpb b off rfl
       have c2a:=HSx.out.c2
       have z2a:=HSx.out.fz 2
       have c2d:wr.drew.cell? ⟨p,2,none⟩=some (.slice ap j cp):=c2a
       have hcelld:wr.drew.cell? ⟨b,off+y,none⟩=some (.int .u64 v):=hcell
       have hal:Below wr.heap.size wr (wr.alloc (.cells #[.int .u64 v] 29)).drew:=((Below.refl _ _).alloc (Nat.le_refl _) _).drew
       have hp_wr:p<wr.heap.size:=Nat.lt_of_lt_of_le hpL hLx
       have hsal:=HSx.out.kept hp_wr hal
       have c2l:=hsal.c2
       have hor4:=(HPx.out.kept hal).row
       have hcl:∀ jj uu,([v].map (Value.int .u64))[jj]? = some uu→(wr.alloc (.cells #[.int .u64 v] 29)).drew.cell? ((⟨wr.heap.size,0,none⟩:Addr).add jj)=some uu:=fun jj uu hh=>cell_oneU wr v jj uu hh
       have HPB:Hid (∀ k,U64 ((pathN zs L j++[v]).getD k 0)):=u64_snoc (pathN_bd zs HZB.out L j) hvb
       have hn2i:1<(n2:Int):=by omega
       have HNM:Hid (n2=2 * m2):=hnm
       clear hv hnm hsal
       go_upto_region 15 with fail
       go_region_law
        (first
         | (refine step_append_ownT rfl (.tmp 60) (.tmp 66) 83 rfl wL.heap.size 29 i0 _ 1 8 Tryz.underlying83 hi hz0 hz1 hz2 rfl (by decide) _ j _ (by simp [Act.eval]) hor4 ⟨wr.heap.size,0,none⟩ 1 1 ([v].map (Value.int .u64)) (by simp [Act.eval]) rfl hcl (ints_oneCell .u64 [v]) (by unfold maxLen; omega) (by omega) (by have:=hal.size; omega) ?_; intro v5 w5 hv5 hg5; have hbr5:Below wL.heap.size wr w5:=(hal.mono hLx).grown hg5 (by have:=hal.size; omega) (fun k hk=>(hor4.lt k hk).1); have hs5:=HSx.out.kept hpL hbr5; have c25:=hs5.c2; have z25:=hs5.fz 2; rw [← List.map_append] at hv5; obtain ⟨a5,c5,rfl,ho5⟩:=ownU_appended HPB.out hv5))
       all_goals
        have HS6:Hid (SigAt (w5.setCell ⟨p,2,none⟩ (.slice a5 (j+1) c5)) p next (.slice ao 18 cc) (.slice a5 (j+1) c5)):=hs5.put2 _
        have HR6:Hid (RowU (w5.setCell ⟨p,2,none⟩ (.slice a5 (j+1) c5)) (some ⟨b,off,none⟩) n2 (lev zs j)):=by
         have h1:=HRx.out.kept hal
         refine ⟨h1.len,fun i hi'=>?_,h1.rng⟩
         obtain ⟨b1,off1,e1,hl1,hc1⟩:=h1.get i hi'
         have hb1:=hpb b1 off1 e1
         exact ⟨b1,off1,e1,Nat.lt_of_lt_of_le hl1 (by simpa using hg5.size),(World.cell?_of_block (a:=⟨b1,off1+i,none⟩) ((Below.heap_setCell _ _ _ _ (by simp; omega)).trans (hg5.block b1 hl1 (fun e=>hsep b1 e.symm b1 off1 e1 rfl)))).trans hc1⟩
        have HT6:Hid (Touch p (p+1) wL (w5.setCell ⟨p,2,none⟩ (.slice a5 (j+1) c5))):=(HTx.out.and_below hbr5).and_set 2 _
        have HO6:Hid (OwnU wL.heap.size (w5.setCell ⟨p,2,none⟩ (.slice a5 (j+1) c5)) a5 (j+1) c5 (pathN zs L (j+1))):=by rw [HPP.out]; exact ho5.set hpL _ _
        have hown5:∀ g,(Value.slice a5 (j+1) c5).ownBlock=some g→g<w5.heap.size:=fun g hg=>(ho5.row.lt g hg).2
        have hsz6:(w5.setCell ⟨p,2,none⟩ (.slice a5 (j+1) c5)).heap.size=w5.heap.size:=by simp
        obtain ⟨w6,hw6⟩:∃ w6,w6=w5.setCell ⟨p,2,none⟩ (.slice a5 (j+1) c5):=⟨_,rfl⟩
        rw [← hw6] at HS6 HR6 HT6 HO6 hsz6 ⊢
        have hp6:p<w6.heap.size:=Nat.lt_of_lt_of_le hpL HT6.out.size
        clear hw6 hv5 ho5 hg5 hbr5 hs5 c25 z25 hor4 hcl hal c2l c2a z2a c2d hcelld hcell HSx HRx HPx HTx hsep
        go_wp2_with fail
        refine (l8Up_any _ n2 c2 (lev zs j) _ HR6.out (by omega)).mono ?_
        rintro e w7 ⟨ar7,cr7,rfl,ho7,hb7⟩
        have hn2h:n2 / 2=m2:=by have:=HNM.out; omega
        rw [hn2h] at ho7 ⊢
        have hsh7:=ho7.shape (by omega)
        have HO7:Hid (OwnU w6.heap.size w7 ar7 m2 cr7 (upL (lev zs j))):=ho7
        have HS7:Hid (SigAt w7 p next (.slice ao 18 cc) (.slice a5 (j+1) c5)):=HS6.out.kept hp6 hb7
        have HP7:Hid (OwnU wL.heap.size w7 a5 (j+1) c5 (pathN zs L (j+1))):=HO6.out.kept hb7
        have HT7:Hid (Touch p (p+1) wL w7):=HT6.out.trans (Touch.of_below hb7)
        have t1:(x:Int).tdiv 2=(x:Int) / 2:=Int.tdiv_eq_ediv_of_nonneg (by omega)
        have HX2:Hid (((x:Int) / 2)=((L / 2 ^ (j+1):Nat):Int)):=by show _=_; rw [HLD.out]; omega
        obtain ⟨g7,rfl,hg7a,hg7b⟩:=hsh7
        clear ho7 hb7 hn2h HR6 HS6 HO6 HT6
        go_wp2_with fail
        rw [HX2.out]
        go_roundw
        case rel=>exact ⟨j+1,m2,cr7,c5,_,a5,by omega,by have:=HNM.out; omega,HM2.out,rfl,rfl,HS7,HO7.out.toRow,(fun b off e=>by simp at e; omega),HP7,(fun g hg b off e=>by have:=hown5 g hg; simp at e; omega),HT7⟩
        case measure=>show m2<n2; have:=HNM.out; omega
      ·obtain rfl:j=H:=by omega
       have h1:n2=1:=by rw [HN2.out,Nat.sub_self]
       subst h1
       have HBx:Hid (Bx3 w wr seed h next):=HBL.out.touch (by rw [← HP.out]; exact HTx.out)
       have hBx:Below w.heap.size w wr:=hBL.trans (HTx.out.below (by omega) hBL.size)
       have k2:wr.cell? ⟨w.heap.size,2,none⟩=some (.int .i64 next):=qk HBx.out.k rfl
       have z2:wr.frozen? ⟨w.heap.size,2,none⟩=false:=frozen_of_row wr _ 2 _ 87 HBx.out.k
       obtain ⟨w9,hw9⟩:∃ w9,w9=wr.setCell ⟨w.heap.size,2,none⟩ (.int .i64 (next+1)):=⟨_,rfl⟩
       have B9:Bx3 w w9 seed h (next+1):=by
        rw [hw9]
        exact ⟨heap_setCell_same wr _ 2 _ 87 _ HBx.out.k,(Below.heap_setCell _ _ _ _ (by simp)).trans HBx.out.s,(Below.heap_setCell _ _ _ _ (by simp; omega)).trans HBx.out.r⟩
       have S9:SigAt w9 p next (.slice ao 18 cc) (.slice ap j cp):=by rw [hw9]; exact (Below.heap_setCell _ _ _ _ (by simp; omega)).trans HSx.out
       have hB9:Below w.heap.size w w9:=by rw [hw9]; exact hBx.setCell (Nat.le_refl _) _
       have E9:OwnU w4.heap.size w9 ao 18 cc (endSs seed next bs):=by rw [hw9]; exact (HEL.out.touchU hp4 HTx.out).set (by omega) _ _
       have P9:OwnU wL.heap.size w9 ap j cp (pathN zs L j):=by rw [hw9]; exact HPx.out.set (by omega) _ _
       have HW9:Hid (_=_):=hw9
       clear hw9
       go_upto_region 19 with fail
       rw [← HW9.out]
       clear HW9 k2 z2
       obtain ⟨r0,r1,r2,f0,f1,f2,s0,s1,s2,g0,g1,g2⟩:=B9.fx
       have t0:=S9.c0
       have t1:=S9.c1
       have t2:=S9.c2
       have k0:w9.cell? ⟨w.heap.size,0,none⟩=some (.int .u64 seed):=qk B9.k rfl
       have k1:w9.cell? ⟨w.heap.size,1,none⟩=some (.int .i64 h):=qk B9.k rfl
       have k2:w9.cell? ⟨w.heap.size,2,none⟩=some (.int .i64 (next+1)):=qk B9.k rfl
       have HB9:Hid (Bx3 w w9 seed h (next+1)):=B9
       have HE9:Hid (OwnU w4.heap.size w9 ao 18 cc (endSs seed next bs)):=E9
       have HP9:Hid (OwnU wL.heap.size w9 ap j cp (pathN zs L j)):=P9
       have hn1:¬ (p=w.heap.size+1):=by omega
       have hn2':¬ (w.heap.size+1=p):=by omega
       have hn3:¬ (p=w.heap.size+1+1):=by omega
       have hn4:¬ (w.heap.size+1+1=p):=by omega
       clear B9 S9 E9 P9 HSx HRx HPx HTx hsep HBx
       go_region
       all_goals
        go_wp2
        try simp only [Exit.inBlock,Exit.then]
        obtain ⟨o1,o2,o3⟩:=HB9.out.out hB9 (.int .i64 next) (.slice ao 18 cc) (.slice ap j cp) (.int .u64 seed) (.int .i64 h) (.int .i64 (next+1))
        have h1':=((HE9.out.six (g:=w.heap.size) (by omega) (.int .i64 next) (.slice ao 18 cc) (.slice ap j cp) (.int .u64 seed) (.int .i64 h) (.int .i64 (next+1))).kept ((Below.refl _ _).drew)).mono (show w.heap.size≤w4.heap.size by omega)
        have h2':=(HP9.out.six (g:=w.heap.size) (by omega) (.int .i64 next) (.slice ao 18 cc) (.slice ap j cp) (.int .u64 seed) (.int .i64 h) (.int .i64 (next+1))).kept ((Below.refl _ _).drew)
        unfold six at o1 o2 o3 h1' h2'
        have hsLw:=hbL.size
        obtain ⟨g3,hg3,_,hw3r⟩:=HEs
        have hm:=SgR.made (seed:=seed) (h:=h) (next:=next) (bs:=bs) (B:=w.heap.size) hk HU.out _ _ _ _ _ h1' (fun x hx=>by rw [hg3] at hx; cases hx; exact Nat.lt_of_lt_of_le hw3r hsLw) (by omega) (by rw [← HNP.out,← HLX.out,HH.out,← HZS.out]; exact h2')
        rw [HH.out] at hm
        exact bodyPost_ret (results_tsg rfl _ (w.heap.size+1) (w.heap.size+1+1) rfl rfl (.int .i64 0) rfl _ (.int .i64 next) (.slice ao 18 cc) (.slice ap j cp) (.int .u64 seed) (.int .i64 h) (.int .i64 (next+1)) (by rw [heap_drew]; exact o1) (by rw [heap_drew]; exact o2)) rfl ⟨_,rfl,hm,o3.drew⟩
 ·rw [decide_eq_false hk]
  have hb:=HBX.out.kept hb2
  obtain ⟨r0,r1,r2,f0,f1,f2,s0,s1,s2,g0,g1,g2⟩:=hb.fx
  have hsa:=HSA.out.kept hpl hb2
  have t0:=hsa.c0
  have t1:=hsa.c1
  have t2:=hsa.c2
  have HB:Hid (_):=hb
  have hn1:¬ (p=w.heap.size+1):=by have:=HP.out; omega
  have hn2:¬ (w.heap.size+1=p):=by have:=HP.out; omega
  have hn3:¬ (p=w.heap.size+1+1):=by have:=HP.out; omega
  have hn4:¬ (w.heap.size+1+1=p):=by have:=HP.out; omega
  clear hb hsa
  go_wp2
  try simp only [Exit.inBlock,Exit.then]
  obtain ⟨o1,o2,o3⟩:=HB.out.out (keepT hbb hb2) (.int .i64 0) (.slice none 0 0) (.slice none 0 0) (.int .u64 0) (.int .i64 0) (.int .i64 0)
  unfold six at o1 o2 o3
  exact bodyPost_ret (results_tsg rfl _ (w.heap.size+1) (w.heap.size+1+1) rfl rfl _ rfl _ _ _ _ _ _ _ o1 o2) rfl ⟨_,rfl,.bad hk,o3⟩
end Go.Proofs.YtnmplldhdfingaaGreatDoor
