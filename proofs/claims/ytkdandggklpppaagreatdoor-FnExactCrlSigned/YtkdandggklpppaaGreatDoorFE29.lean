import Derived.Lib.AppendIntMem
import Derived.Lib.ItoaLen
import Derived.Lib.AppendStr
import Derived.Lib.Slices
import Derived.Lib.Hide
import Derived.Test.YtkdandggklpppaaGreatDoorShelf
import Derived.Great.BuildSlice
import Derived.Great.Walk
import Derived.Deep.Cut
import Derived.Test.YtkdandggklpppaaGreatDoorFE28
set_option maxRecDepth 10000
set_option maxHeartbeats 8000000
set_option linter.unusedVariables false
namespace Go.Proofs.YtkdandggklpppaaGreatDoor
open Go.RowKit Go.Shelf
def fb1 (p:PT):List UInt8:=Lib.itoa p.attr++61::((FS p.val).data.toList++[10])
def fbs:List PT→List UInt8
 | []=>[]
 | p::ps=>fb1 p++fbs ps
theorem fbs_append:∀ (xs ys:List PT),fbs (xs++ys)=fbs xs++fbs ys
 | [],ys=>rfl
 | x::xs,ys=>by rw [List.cons_append,fbs,fbs,fbs_append xs ys,List.append_assoc]
theorem fbs_succ (xs:List PT)(k:Nat)(hk:k<xs.length):fbs (xs.take (k+1))=fbs (xs.take k)++fb1 (xs.getD k default):=by
 rw [List.take_succ_eq_append_getElem hk,fbs_append,List.getD_eq_getElem?_getD,List.getElem?_eq_getElem hk]
 simp [fbs]
def nat8 (l:List UInt8):List Int:=l.map fun b=>(b.toNat:Int)
theorem nat8_inj:∀ {l m:List UInt8},nat8 l=nat8 m→l=m
 | [],[],_=>rfl
 | [],y::m,h=>by simp [nat8] at h
 | x::l,[],h=>by simp [nat8] at h
 | x::l,y::m,h=>by
  simp only [nat8,List.map_cons,List.cons.injEq] at h
  have e:x.toNat=y.toNat:=by omega
  rw [UInt8.toNat_inj.1 e,nat8_inj (l:=l) (m:=m) h.2]
theorem nat8_FS (x:PT)(h:partP x):nat8 (FS x.val).data.toList=foldL x.val:=by
 unfold FS nat8
 rw [strOfNums_data,List.map_map]
 refine (List.map_congr_left (fun b hb=>?_)).trans (List.map_id _)
 have:=foldL_rng x h b hb
 simp only [Function.comp_apply,UInt8.toNat_ofNat',id_eq]
 omega
theorem nat8_fbs:∀ (xs:List PT),(∀ p∈xs,partP p)→nat8 (fbs xs)=ft xs
 | [],_=>rfl
 | x::xs,h=>by
  have h1:=nat8_fbs xs (fun p hp=>h p (List.Mem.tail _ hp))
  have h2:=nat8_FS x (h x (List.Mem.head _))
  rw [ft_cons,← h1,← h2]
  simp [fbs,fb1,nat8,dg]
def ftS (xs:List PT):ByteArray:=⟨(fbs xs).toArray⟩
theorem ftS_same {xs ys:List PT}(hx:nameP xs)(hy:nameP ys):ftS xs=ftS ys↔sameP xs ys:=by
 rw [← ft_same hx hy,← nat8_fbs xs (nameP_all hx),← nat8_fbs ys (nameP_all hy)]
 constructor
 ·intro h
  have h2:(fbs xs).toArray=(fbs ys).toArray:=congrArg ByteArray.data h
  rw [show fbs xs=fbs ys by simpa using congrArg Array.toList h2]
 ·intro h
  unfold ftS
  rw [nat8_inj h]
theorem fb1_len (p:PT)(h:partP p):(fb1 p).length≤200:=by
 have h1:=Lib.itoa_length_le p.attr (by have:=h.1.1; omega) (by have:=h.1.2; omega)
 have h2:(FS p.val).data.toList.length≤120:=by
  unfold FS
  rw [strOfNums_data,List.length_map]
  have:=fo_len p.val p.val.size
  have:=h.2.1
  unfold foldL
  omega
 simp only [fb1,List.length_append,List.length_cons,List.length_nil]
 omega
theorem fbs_len:∀ (xs:List PT),(∀ p∈xs,partP p)→(fbs xs).length≤200 * xs.length
 | [],_=>by simp [fbs]
 | x::xs,h=>by
  have h1:=fbs_len xs (fun p hp=>h p (List.Mem.tail _ hp))
  have h2:=fb1_len x (h x (List.Mem.head _))
  simp only [fbs,List.length_append,List.length_cons]
  omega
theorem Tryz.infoB1:(Tryz.prog.info? 5).map (fun i=>(i.zero,i.size,i.bytes))=some (some (.int .u8 0),1,1):=by kernel_rfl
theorem box_kept {w w':World}{B e s n g t:Nat}{v:Value}{xs:List Value}{cs:Array Value}{fr:Nat × Nat}(h:w.ownsRow B e s v n xs)(hg:w.grownBy w' v.ownBlock)(hb:w.heap[g]? = some (.cells cs t fr))(hne:t≠e):w'.heap[g]? = some (.cells cs t fr):=by
 refine (hg.block g (Array.getElem?_eq_some_iff.1 hb).1 (fun e2=>?_)).trans hb
 rcases h.2 with ⟨rfl,_⟩ | ⟨g',cap,cur',rfl,_,hh,_⟩
 ·simp [Value.ownBlock] at e2
 ·simp only [Value.ownBlock,Option.some.injEq] at e2
  subst e2
  rw [hh] at hb
  simp only [Option.some.injEq,Obj.cells.injEq] at hb
  exact hne hb.2.1.symm
set_option maxRecDepth 100000 in
theorem foldedText_any (a : Option Addr) (n c : Nat) (xs : List PT) (w : World) (htab : Lib.TabIs Tryz.prog w "internal/strconv.uint64pow10" .u64 Lib.pow10Tab) (h : Pts w a n xs) (hp : nameP xs) :
  Calls Tryz.prog 114 #[nmv a n c] w fun e w'=>e=.returned (.string (ftS xs))∧Below w.heap.size w w':=by
 obtain ⟨i0,hi,hz0,hz1,hz2⟩:=info_parts Tryz.infoB1
 have HI:Hid (_∧_∧_∧_):=⟨hi,hz0,hz1,hz2⟩
 have hT:Hid (_):=Lib.tabBelow_of_tabIs htab
 have HL:Hid (xs.length=n):=h.len
 have hn8:n≤8:=by rw [← h.len]; exact hp.1
 have HP:Hid (∀ p∈xs,partP p):=nameP_all hp
 obtain ⟨W0,hW0⟩:∃ W0,W0=w.alloc (.cells #[.slice a n c] 36):=⟨_,rfl⟩
 have hB0:Below w.heap.size w W0:=by rw [hW0]; exact (Below.refl _ _).alloc (Nat.le_refl _) _
 have hh0:W0.heap[w.heap.size]? = some (.cells #[.slice a n c] 36):=by rw [hW0]; exact heap_alloc_new w _
 have q0:W0.cell? ⟨w.heap.size,0,none⟩=some (.slice a n c):=(cell_of_row _ _ 0 _ 36 (0,0) hh0).trans rfl
 have HK:Hid (∀ W,Below w.heap.size w W→Pts W a n xs):=fun W hW=>h.kept hW
 have HW:Hid (_=_):=hW0
 clear h hp hW0 hh0 hi hz0 hz1 hz2 htab
 unfold nmv
 go_enter Tryz.func114,Tryz.ntmps114
 go_upto_region 1 with fail
 rw [← HW.out]
 clear HW
 go_wp2
 clear q0
 go_loopw [3,9] (fun o i wr=>∃ k:Nat,k≤n∧i=.int .i64 k∧wr.ownsRow w.heap.size 5 1 o (fbs (xs.take k)).length (Lib.byteCells (fbs (xs.take k)))∧Below w.heap.size w wr) (fun _ i _=>n - (intOf i).toNat)
 case atStart=>exact ⟨0,Nat.zero_le _,rfl,World.ownsRow_nil _ _ _ _,hB0⟩
 case round =>
  obtain ⟨k,hk,rfl,how,hbr⟩:=hrel
  clear hB0
  by_cases hkn:k<n
  ·obtain ⟨b,off,rfl,hlb,hc,_⟩:=(HK.out wr hbr).get k hkn
   obtain ⟨x,hx⟩:∃ x,x=xs.getD k default:=⟨_,rfl⟩
   rw [← hx] at hc
   have hmem:xs.getD k default∈xs:=by
    rw [List.getD_eq_getElem?_getD,List.getElem?_eq_getElem (by rw [HL.out]; exact hkn)]
    exact List.getElem_mem _
   have HPX:Hid (partP x):=by show partP x; rw [hx]; exact HP.out _ hmem
   have HSU:Hid (fbs (xs.take (k+1))=fbs (xs.take k)++fb1 x):=by show _=_; rw [hx]; exact fbs_succ xs k (by rw [HL.out]; exact hkn)
   have hlen:(fbs (xs.take k)).length≤1600:=by
    have h1:=fbs_len (xs.take k) (fun p hp=>HP.out p (List.mem_of_mem_take hp))
    rw [List.length_take] at h1
    omega
   obtain ⟨L,hL⟩:∃ L,L=fbs (xs.take k):=⟨_,rfl⟩
   rw [← hL] at how hlen HSU
   clear hL hmem hx
   obtain ⟨c0,c1⟩:=hc
   obtain ⟨W1,hW1⟩:∃ W1,W1=wr.alloc (.cells #[.int .i64 x.attr,.string x.val] 110):=⟨_,rfl⟩
   have hB1:Below w.heap.size w W1:=by rw [hW1]; exact hbr.alloc hbr.size _
   have HY1:Hid (W1.heap[wr.heap.size]? = some (.cells #[.int .i64 x.attr,.string x.val] 110)):=by show _=_; rw [hW1]; exact heap_alloc_new wr _
   have how1:W1.ownsRow w.heap.size 5 1 u3 L.length (Lib.byteCells L):=by rw [hW1]; exact how.alloc _
   have d0:W1.cell? ⟨wr.heap.size,0,none⟩=some (.int .i64 x.attr):=(cell_of_row _ _ 0 _ 110 (0,0) HY1.out).trans rfl
   have hkni:(k:Int)<(n:Int):=by omega
   have HW1:Hid (_=_):=hW1
   have hs1:=hB1.size
   clear hW1 how
   go_upto_region 5 with fail
   rw [← HW1.out]
   clear HW1 c0 c1
   go_wp2_with fail
   refine (Tryz.strconv_AppendInt_10 w.heap.size L.length x.attr (by have:=HPX.out.1.1; omega) (by have:=HPX.out.1.2; omega) u3 _ _ how1 hs1 (by omega) (Lib.TabBelow.on hT.out hB1)).mono ?_
   rintro e w2 ⟨v2,rfl,how2,hb2,hk2⟩
   have la:=Lib.itoa_length_le x.attr (by have:=HPX.out.1.1; omega) (by have:=HPX.out.1.2; omega)
   have hB2:Below w.heap.size w w2:=hB1.trans hb2
   have hs2:=hB2.size
   have HY2:Hid (w2.heap[wr.heap.size]? = some (.cells #[.int .i64 x.attr,.string x.val] 110)):=hk2 _ _ HY1.out (by simp) (fun c fz e=>by simp at e)
   clear d0 hk2 hb2 how1 hB1 HY1 hs1
   go_wp2_with (at_builtin; refine wpList_append_own _ rfl _ _ 26 rfl w.heap.size 5 i0 (.int .u8 0) 1 1 Tryz.underlying26 HI.out.1 HI.out.2.1 HI.out.2.2.1 HI.out.2.2.2 rfl (by decide) _ _ _ rfl (how2.alloc _) ⟨w2.heap.size,0,none⟩ 1 1 [Value.int .u8 61] rfl rfl (by intro j u' hj; match j,hj with | 0,hj=>simp at hj; subst hj; simp [Addr.add]) (by intro u' hu'; simp at hu'; subst hu'; rfl) (by unfold maxLen; omega) (by omega) (by simp; omega) ?_)
   intro v3 w3 how3 hg3 _
   have hB3:Below w.heap.size w w3:=(hB2.alloc hB2.size _).grown hg3 (by simp; omega) (fun k hk=>(how2.lt k hk).1)
   have HY3:Hid (w3.heap[wr.heap.size]? = some (.cells #[.int .i64 x.attr,.string x.val] 110)):=box_kept (how2.alloc _) hg3 ((((Below.refl w2.heap.size w2).alloc (Nat.le_refl _) _).block _ (Array.getElem?_eq_some_iff.1 HY2.out).1).trans HY2.out) (by decide)
   have hs3:=hB3.size
   have e1:w3.cell? ⟨wr.heap.size,1,none⟩=some (.string x.val):=(cell_of_row _ _ 1 _ 110 (0,0) HY3.out).trans rfl
   clear hg3 how2 hB2 HY2 hs2
   go_wp2_with fail
   refine (implFold_any x.val _ (by have:=HPX.out.2.1; omega)).mono ?_
   rintro e w4 ⟨rfl,hb4⟩
   have hB4:Below w.heap.size w w4:=hB3.trans (hb4.mono hs3)
   have how4:=ownsRow_below how3 hb4
   have hs4:=hB4.size
   have lf:(FS x.val).size≤120:=by
    have h1:=fo_len x.val x.val.size
    have h2:=HPX.out.2.1
    unfold FS
    rw [strOfNums_size]
    unfold foldL
    omega
   obtain ⟨S,hS⟩:∃ S,S=FS x.val:=⟨_,rfl⟩
   have hS2:strOfNums (foldL x.val)=S:=hS.symm
   rw [hS2]
   rw [← hS] at lf
   have HS:Hid (S=FS x.val):=hS
   clear e1 hb4 how3 hB3 HY3 hs3 hS hS2
   go_wp2_with (at_builtin; refine Lib.wpList_append_own_string _ rfl _ _ 26 9 rfl w.heap.size 5 i0 Tryz.underlying26 Tryz.underlying9 HI.out.1 HI.out.2.1 HI.out.2.2.1 HI.out.2.2.2 _ _ _ rfl how4 S rfl (by unfold maxLen; omega) (by omega) (by omega) ?_)
   intro v5 w5 how5 hg5 _
   have hB5:Below w.heap.size w w5:=hB4.grown hg5 hs4 (fun k hk=>(how4.lt k hk).1)
   have hs5:=hB5.size
   clear hg5 how4 hB4 hs4
   go_wp2_with (at_builtin; refine wpList_append_own _ rfl _ _ 26 rfl w.heap.size 5 i0 (.int .u8 0) 1 1 Tryz.underlying26 HI.out.1 HI.out.2.1 HI.out.2.2.1 HI.out.2.2.2 rfl (by decide) _ _ _ rfl (how5.alloc _) ⟨w5.heap.size,0,none⟩ 1 1 [Value.int .u8 10] rfl rfl (by intro j u' hj; match j,hj with | 0,hj=>simp at hj; subst hj; simp [Addr.add]) (by intro u' hu'; simp at hu'; subst hu'; rfl) (by unfold maxLen; omega) (by omega) (by simp; omega) ?_)
   intro v6 w6 how6 hg6 _
   have hB6:Below w.heap.size w w6:=(hB5.alloc hB5.size _).grown hg6 (by simp; omega) (fun k hk=>(how5.lt k hk).1)
   have HF:Hid (w6.ownsRow w.heap.size 5 1 v6 (fbs (xs.take (k+1))).length (Lib.byteCells (fbs (xs.take (k+1))))):=by
    show w6.ownsRow _ _ _ _ _ _
    rw [HSU.out]
    have eN:(L++fb1 x).length=L.length+(Lib.itoa x.attr).length+1+S.size+1:=by
     simp only [fb1,List.length_append,List.length_cons,List.length_nil,Array.length_toList,← HS.out]
     show _+(_+(S.data.size+1+1))=_+S.data.size+1
     omega
    have eL:Lib.byteCells (L++fb1 x)=Lib.byteCells L++(Lib.byteCells (Lib.itoa x.attr)++Value.int .u8 61::(Lib.strCells S++[Value.int .u8 10])):=by
     simp [fb1,Lib.byteCells,Lib.strCells,← HS.out]
    rw [eN,eL]
    exact how6
   clear how6 how5 hg6
   go_wp2
   go_roundw
   case rel=>exact ⟨k+1,by omega,by go_num,HF.out,hB6⟩
   case measure=>simp [intOf]; omega
  ·have hkn':k=n:=by omega
   subst hkn'
   have hni:¬ ((k:Int)<(k:Int)):=by omega
   have hall:xs.take k=xs:=List.take_of_length_le (by rw [HL.out]; exact Nat.le_refl _)
   rw [hall] at how
   clear hall
   rcases how.2 with ⟨rfl,h0⟩ | ⟨g,cap,cur,rfl,_,_,_,_,_,_⟩
   ·have HE:Hid (ftS xs = { data:=#[] }):=by
     show _=_
     unfold ftS
     rw [List.eq_nil_of_length_eq_zero h0]
    have hcv:=convert_own (Own.mk (World.ownsRow_nil wr w.heap.size 5 1) (by simp):Own w.heap.size wr none 0 0 [])
    clear how h0
    go_wp2
    go_ret
    exact ⟨by rw [HE.out]; rfl,hbr⟩
   ·obtain ⟨l,hl⟩:∃ l,l=fbs xs:=⟨_,rfl⟩
    rw [← hl] at how
    have HLL:Hid (l=fbs xs):=hl
    have hcv:=run_convert_bytes_back (P:=Tryz.prog) wr 26 9 5 ⟨g,0,none⟩ cap l Tryz.underlying26 Tryz.underlying5 Tryz.underlying9 (fun j hj=>how.cells (g:=g) rfl j _ (by simp [Lib.byteCells,hj]))
    rw [← hl]
    clear hl how
    go_wp2
    go_ret
    exact ⟨by unfold ftS; rw [← HLL.out]; rfl,hbr⟩
open Go.RowKit
def Keeps (B:Nat)(W:World)(Q:World→Prop):Prop:=∃ R:World→Prop,Stab B R∧R W∧∀ W',R W'→Q W'
theorem Keeps.now {B:Nat}{W:World}{Q:World→Prop}(h:Keeps B W Q):Q W:=by
 obtain ⟨R,_,hr,hq⟩:=h
 exact hq _ hr
theorem Keeps.mono {B B':Nat}{W:World}{Q:World→Prop}(h:Keeps B' W Q)(hB:B≤B'):Keeps B W Q:=by
 obtain ⟨R,hs,hr,hq⟩:=h
 exact ⟨R,fun W W' e s r=>hs W W' (fun l hl=>e l (by omega)) s r,hr,hq⟩
theorem infoSizeCrl:(Tryz.prog.info? 39).map (·.size)=some 9:=by kernel_rfl
theorem toCrl_k (a1:Option Addr)(n1 c1:Nat)(a2:Option Addr)(n2 c2:Nat)(a3:Option Addr)(n3 c3:Nat)(x:CP)(w:World)(h:Crs w a1 n1 a2 n2 a3 n3 x)(hz:CpOk n1 n2 n3 x) :
  Calls Tryz.prog 6 #[crv a1 n1 c1 a2 n2 c2 a3 n3 c3 x] w fun e w'=>∃ b1 b2 b3,e=.returned (crv b1 n1 n1 b2 n2 n2 b3 n3 n3 x)∧Keeps w.heap.size w' (fun W=>Crs W b1 n1 b2 n2 b3 n3 x)∧Below w.heap.size w w':=by
 have HK:Hid (Crs w a1 n1 a2 n2 a3 n3 x):=h
 have HZ:Hid (CpOk n1 n2 n3 x):=hz
 clear h hz
 unfold crv
 obtain ⟨W0,hW0⟩:∃ W0,W0=(((w.alloc (.cells #[.slice a1 n1 c1,.int .i64 x.num,.int .i64 x.base,.int .i64 x.tm,.int .i64 x.next,.int .i64 x.scope,.bool x.ind,.slice a2 n2 c2,.slice a3 n3 c3] 28)).alloc (.cells #[.slice none 0 0,.int .i64 0,.int .i64 0,.int .i64 0,.int .i64 0,.int .i64 0,.bool false,.slice none 0 0,.slice none 0 0] 39)).alloc (.cells #[.slice none 0 0,.int .i64 0,.int .i64 0,.int .i64 0,.int .i64 0,.int .i64 0,.bool false,.slice none 0 0,.slice none 0 0] 39)):=⟨_,rfl⟩
 have hB0:Below w.heap.size w W0:=by rw [hW0]; exact three_below _ _ _ _
 have hS0:W0.heap.size=w.heap.size+3:=by rw [hW0]; simp
 obtain ⟨b0,b1,b2⟩:=three_blocks' w (.cells #[.slice a1 n1 c1,.int .i64 x.num,.int .i64 x.base,.int .i64 x.tm,.int .i64 x.next,.int .i64 x.scope,.bool x.ind,.slice a2 n2 c2,.slice a3 n3 c3] 28) (.cells #[.slice none 0 0,.int .i64 0,.int .i64 0,.int .i64 0,.int .i64 0,.int .i64 0,.bool false,.slice none 0 0,.slice none 0 0] 39) (.cells #[.slice none 0 0,.int .i64 0,.int .i64 0,.int .i64 0,.int .i64 0,.int .i64 0,.bool false,.slice none 0 0,.slice none 0 0] 39)
 rw [← hW0] at b0 b1 b2
 go_enter Tryz.func6,Tryz.ntmps6
 go_wp2_with fail
 rw [← hW0]
 clear hW0
 refine (toName_at a1 n1 c1 x.parts _ (HK.out.kept hB0).nm HZ.out.1).mono ?_
 rintro e w1 ⟨g1,rfl,hg1,ho1,hb1⟩
 have hs1:=hb1.size
 have T1:Hid (TC w w1 a1 n1 c1 a2 n2 c2 a3 n3 c3 x (fun W=>Pts W (some ⟨g1,0,none⟩) n1 x.parts) #[.slice none 0 0,.int .i64 0,.int .i64 0,.int .i64 0,.int .i64 0,.int .i64 0,.bool false,.slice none 0 0,.slice none 0 0]):=⟨heap_kept' hb1 (by omega) b0,heap_kept' hb1 (by omega) b1,heap_kept' hb1 (by omega) b2,stab_pts (by omega),ho1,hB0.trans (hb1.mono (by omega)),by omega⟩
 clear b0 b1 b2 ho1 hb1 hB0 hg1 hs1 hS0
 unfold nmv
 obtain ⟨o0,f0,l0⟩:=T1.out.out 0
 have o0:w1.cell? ⟨w.heap.size+1+1,0,none⟩=some (.slice none 0 0):=o0
 have l0:w1.cell? ⟨w.heap.size,0,none⟩=some (.slice a1 n1 c1):=l0
 have m0:=T1.out.lt
 obtain ⟨w2,hw2⟩:∃ W,W=w1.setCell ⟨w.heap.size+1+1,0,none⟩ (.slice (some ⟨g1,0,none⟩) n1 n1):=⟨_,rfl⟩
 have T2:Hid (TC w w2 a1 n1 c1 a2 n2 c2 a3 n3 c3 x (fun W=>Pts W (some ⟨g1,0,none⟩) n1 x.parts) #[.slice (some ⟨g1,0,none⟩) n1 n1,.int .i64 0,.int .i64 0,.int .i64 0,.int .i64 0,.int .i64 0,.bool false,.slice none 0 0,.slice none 0 0]):=by rw [hw2]; exact T1.out.set 0 _ rfl
 have HW2:Hid (_=_):=hw2
 clear hw2
 go_upto_region 3 with fail
 rw [← HW2.out]
 clear HW2 o0 f0 l0 m0 T1
 obtain ⟨o1,f1,l1⟩:=T2.out.out 1
 have o1:w2.cell? ⟨w.heap.size+1+1,1,none⟩=some (.int .i64 0):=o1
 have l1:w2.cell? ⟨w.heap.size,1,none⟩=some (.int .i64 x.num):=l1
 have m1:=T2.out.lt
 obtain ⟨w3,hw3⟩:∃ W,W=w2.setCell ⟨w.heap.size+1+1,1,none⟩ (.int .i64 x.num):=⟨_,rfl⟩
 have T3:Hid (TC w w3 a1 n1 c1 a2 n2 c2 a3 n3 c3 x (fun W=>Pts W (some ⟨g1,0,none⟩) n1 x.parts) #[.slice (some ⟨g1,0,none⟩) n1 n1,.int .i64 x.num,.int .i64 0,.int .i64 0,.int .i64 0,.int .i64 0,.bool false,.slice none 0 0,.slice none 0 0]):=by rw [hw3]; exact T2.out.set 1 _ rfl
 have HW3:Hid (_=_):=hw3
 clear hw3
 go_upto_region 4 with fail
 rw [← HW3.out]
 clear HW3 o1 f1 l1 m1 T2
 obtain ⟨o2,f2,l2⟩:=T3.out.out 2
 have o2:w3.cell? ⟨w.heap.size+1+1,2,none⟩=some (.int .i64 0):=o2
 have l2:w3.cell? ⟨w.heap.size,2,none⟩=some (.int .i64 x.base):=l2
 have m2:=T3.out.lt
 obtain ⟨w4,hw4⟩:∃ W,W=w3.setCell ⟨w.heap.size+1+1,2,none⟩ (.int .i64 x.base):=⟨_,rfl⟩
 have T4:Hid (TC w w4 a1 n1 c1 a2 n2 c2 a3 n3 c3 x (fun W=>Pts W (some ⟨g1,0,none⟩) n1 x.parts) #[.slice (some ⟨g1,0,none⟩) n1 n1,.int .i64 x.num,.int .i64 x.base,.int .i64 0,.int .i64 0,.int .i64 0,.bool false,.slice none 0 0,.slice none 0 0]):=by rw [hw4]; exact T3.out.set 2 _ rfl
 have HW4:Hid (_=_):=hw4
 clear hw4
 go_upto_region 5 with fail
 rw [← HW4.out]
 clear HW4 o2 f2 l2 m2 T3
 obtain ⟨o3,f3,l3⟩:=T4.out.out 3
 have o3:w4.cell? ⟨w.heap.size+1+1,3,none⟩=some (.int .i64 0):=o3
 have l3:w4.cell? ⟨w.heap.size,3,none⟩=some (.int .i64 x.tm):=l3
 have m3:=T4.out.lt
 obtain ⟨w5,hw5⟩:∃ W,W=w4.setCell ⟨w.heap.size+1+1,3,none⟩ (.int .i64 x.tm):=⟨_,rfl⟩
 have T5:Hid (TC w w5 a1 n1 c1 a2 n2 c2 a3 n3 c3 x (fun W=>Pts W (some ⟨g1,0,none⟩) n1 x.parts) #[.slice (some ⟨g1,0,none⟩) n1 n1,.int .i64 x.num,.int .i64 x.base,.int .i64 x.tm,.int .i64 0,.int .i64 0,.bool false,.slice none 0 0,.slice none 0 0]):=by rw [hw5]; exact T4.out.set 3 _ rfl
 have HW5:Hid (_=_):=hw5
 clear hw5
 go_upto_region 6 with fail
 rw [← HW5.out]
 clear HW5 o3 f3 l3 m3 T4
 obtain ⟨o4,f4,l4⟩:=T5.out.out 4
 have o4:w5.cell? ⟨w.heap.size+1+1,4,none⟩=some (.int .i64 0):=o4
 have l4:w5.cell? ⟨w.heap.size,4,none⟩=some (.int .i64 x.next):=l4
 have m4:=T5.out.lt
 obtain ⟨w6,hw6⟩:∃ W,W=w5.setCell ⟨w.heap.size+1+1,4,none⟩ (.int .i64 x.next):=⟨_,rfl⟩
 have T6:Hid (TC w w6 a1 n1 c1 a2 n2 c2 a3 n3 c3 x (fun W=>Pts W (some ⟨g1,0,none⟩) n1 x.parts) #[.slice (some ⟨g1,0,none⟩) n1 n1,.int .i64 x.num,.int .i64 x.base,.int .i64 x.tm,.int .i64 x.next,.int .i64 0,.bool false,.slice none 0 0,.slice none 0 0]):=by rw [hw6]; exact T5.out.set 4 _ rfl
 have HW6:Hid (_=_):=hw6
 clear hw6
 go_upto_region 7 with fail
 rw [← HW6.out]
 clear HW6 o4 f4 l4 m4 T5
 obtain ⟨o5,f5,l5⟩:=T6.out.out 5
 have o5:w6.cell? ⟨w.heap.size+1+1,5,none⟩=some (.int .i64 0):=o5
 have l5:w6.cell? ⟨w.heap.size,5,none⟩=some (.int .i64 x.scope):=l5
 have m5:=T6.out.lt
 obtain ⟨w7,hw7⟩:∃ W,W=w6.setCell ⟨w.heap.size+1+1,5,none⟩ (.int .i64 x.scope):=⟨_,rfl⟩
 have T7:Hid (TC w w7 a1 n1 c1 a2 n2 c2 a3 n3 c3 x (fun W=>Pts W (some ⟨g1,0,none⟩) n1 x.parts) #[.slice (some ⟨g1,0,none⟩) n1 n1,.int .i64 x.num,.int .i64 x.base,.int .i64 x.tm,.int .i64 x.next,.int .i64 x.scope,.bool false,.slice none 0 0,.slice none 0 0]):=by rw [hw7]; exact T6.out.set 5 _ rfl
 have HW7:Hid (_=_):=hw7
 clear hw7
 go_upto_region 8 with fail
 rw [← HW7.out]
 clear HW7 o5 f5 l5 m5 T6
 obtain ⟨o6,f6,l6⟩:=T7.out.out 6
 have o6:w7.cell? ⟨w.heap.size+1+1,6,none⟩=some (.bool false):=o6
 have l6:w7.cell? ⟨w.heap.size,6,none⟩=some (.bool x.ind):=l6
 have m6:=T7.out.lt
 obtain ⟨w8,hw8⟩:∃ W,W=w7.setCell ⟨w.heap.size+1+1,6,none⟩ (.bool x.ind):=⟨_,rfl⟩
 have T8:Hid (TC w w8 a1 n1 c1 a2 n2 c2 a3 n3 c3 x (fun W=>Pts W (some ⟨g1,0,none⟩) n1 x.parts) #[.slice (some ⟨g1,0,none⟩) n1 n1,.int .i64 x.num,.int .i64 x.base,.int .i64 x.tm,.int .i64 x.next,.int .i64 x.scope,.bool x.ind,.slice none 0 0,.slice none 0 0]):=by rw [hw8]; exact T7.out.set 6 _ rfl
 have HW8:Hid (_=_):=hw8
 clear hw8
 go_upto_region 9 with fail
 rw [← HW8.out]
 clear HW8 o6 f6 l6 m6 T7
 obtain ⟨_,_,l7⟩:=T8.out.out 7
 have l7:w8.cell? ⟨w.heap.size,7,none⟩=some (.slice a2 n2 c2):=l7
 have m7:=T8.out.lt
 go_wp2_with fail
 refine (toGoneS_at a2 n2 c2 x.ents _ (HK.out.kept T8.out.below).en HZ.out.2.2.1 HZ.out.2.2.2.1).mono ?_
 rintro e w9 ⟨rfl,hp9,hl9,hb9⟩
 obtain ⟨g2,hg2⟩:∃ g2,g2=w8.heap.size:=⟨_,rfl⟩
 rw [← hg2] at hp9 hl9 ⊢
 have hg23:w.heap.size+3≤g2:=by omega
 have T9:Hid (TC w w9 a1 n1 c1 a2 n2 c2 a3 n3 c3 x (fun W=>Pts W (some ⟨g1,0,none⟩) n1 x.parts∧(GoPre W g2 n2 x.ents∧g2<W.heap.size)) #[.slice (some ⟨g1,0,none⟩) n1 n1,.int .i64 x.num,.int .i64 x.base,.int .i64 x.tm,.int .i64 x.next,.int .i64 x.scope,.bool x.ind,.slice none 0 0,.slice none 0 0]):=(T8.out.on hb9).more (stab_and T8.out.st (stab_and (stab_go hg23) (stab_lt _ _))) ⟨(T8.out.on hb9).r,hp9,hl9⟩
 clear hb9 hp9 hl9 hg2 T8 l7 m7
 obtain ⟨o7,f7,l7⟩:=T9.out.out 7
 have o7:w9.cell? ⟨w.heap.size+1+1,7,none⟩=some (.slice none 0 0):=o7
 have l7:w9.cell? ⟨w.heap.size,7,none⟩=some (.slice a2 n2 c2):=l7
 have m7:=T9.out.lt
 obtain ⟨w10,hw10⟩:∃ W,W=w9.setCell ⟨w.heap.size+1+1,7,none⟩ (.slice (some ⟨g2,0,none⟩) n2 n2):=⟨_,rfl⟩
 have T10:Hid (TC w w10 a1 n1 c1 a2 n2 c2 a3 n3 c3 x (fun W=>Pts W (some ⟨g1,0,none⟩) n1 x.parts∧(GoPre W g2 n2 x.ents∧g2<W.heap.size)) #[.slice (some ⟨g1,0,none⟩) n1 n1,.int .i64 x.num,.int .i64 x.base,.int .i64 x.tm,.int .i64 x.next,.int .i64 x.scope,.bool x.ind,.slice (some ⟨g2,0,none⟩) n2 n2,.slice none 0 0]):=by rw [hw10]; exact T9.out.set 7 _ rfl
 have HW10:Hid (_=_):=hw10
 clear hw10
 go_upto_region 10 with fail
 rw [← HW10.out]
 clear HW10 o7 f7 l7 m7 T9
 obtain ⟨_,_,l8⟩:=T10.out.out 8
 have l8:w10.cell? ⟨w.heap.size,8,none⟩=some (.slice a3 n3 c3):=l8
 have m8:=T10.out.lt
 go_wp2_with fail
 refine (toByteS_any a3 n3 c3 x.sig _ (HK.out.kept T10.out.below).sg HZ.out.2.2.2.2).mono ?_
 rintro e w11 ⟨s3,rfl,ho11,hb11⟩
 obtain ⟨s3b,hs3b⟩:∃ s3b,s3b=w10.heap.size:=⟨_,rfl⟩
 rw [← hs3b] at ho11
 have hs33:w.heap.size+3≤s3b:=by omega
 have T11:Hid (TC w w11 a1 n1 c1 a2 n2 c2 a3 n3 c3 x (fun W=>(Pts W (some ⟨g1,0,none⟩) n1 x.parts∧(GoPre W g2 n2 x.ents∧g2<W.heap.size))∧Own s3b W s3 n3 n3 x.sig) #[.slice (some ⟨g1,0,none⟩) n1 n1,.int .i64 x.num,.int .i64 x.base,.int .i64 x.tm,.int .i64 x.next,.int .i64 x.scope,.bool x.ind,.slice (some ⟨g2,0,none⟩) n2 n2,.slice none 0 0]):=(T10.out.on hb11).more (stab_and T10.out.st (stab_own hs33)) ⟨(T10.out.on hb11).r,ho11⟩
 clear hb11 ho11 hs3b T10 l8 m8
 obtain ⟨o8,f8,l8⟩:=T11.out.out 8
 have o8:w11.cell? ⟨w.heap.size+1+1,8,none⟩=some (.slice none 0 0):=o8
 have l8:w11.cell? ⟨w.heap.size,8,none⟩=some (.slice a3 n3 c3):=l8
 have m8:=T11.out.lt
 obtain ⟨w12,hw12⟩:∃ W,W=w11.setCell ⟨w.heap.size+1+1,8,none⟩ (.slice s3 n3 n3):=⟨_,rfl⟩
 have T12:Hid (TC w w12 a1 n1 c1 a2 n2 c2 a3 n3 c3 x (fun W=>(Pts W (some ⟨g1,0,none⟩) n1 x.parts∧(GoPre W g2 n2 x.ents∧g2<W.heap.size))∧Own s3b W s3 n3 n3 x.sig) #[.slice (some ⟨g1,0,none⟩) n1 n1,.int .i64 x.num,.int .i64 x.base,.int .i64 x.tm,.int .i64 x.next,.int .i64 x.scope,.bool x.ind,.slice (some ⟨g2,0,none⟩) n2 n2,.slice s3 n3 n3]):=by rw [hw12]; exact T11.out.set 8 _ rfl
 have HW12:Hid (_=_):=hw12
 clear hw12
 go_upto_region 11 with fail
 rw [← HW12.out]
 clear HW12 o8 f8 l8 m8 T11
 have HLN:Hid (x.ents.length=n2∧n2≤9223372036854775807):=⟨HK.out.en.len,HK.out.en.max⟩
 have HMX:Hid (n3≤9223372036854775807):=HK.out.mx
 clear HK
 have hlF:=T12.out.lt
 rename_i K0 hK0
 apply wp_region_lit
 refine wpList_load_row rfl 39 _ rfl (w.heap.size+1+1) rfl 39 #[.slice (some ⟨g1,0,none⟩) n1 n1,.int .i64 x.num,.int .i64 x.base,.int .i64 x.tm,.int .i64 x.next,.int .i64 x.scope,.bool x.ind,.slice (some ⟨g2,0,none⟩) n2 n2,.slice s3 n3 n3] (0,0) _ T12.out.b2 Tryz.underlying39 rfl infoSizeCrl ?_
 refine wpList_store_rowTo rfl 39 _ _ rfl rfl (w.heap.size+1) #[.slice (some ⟨g1,0,none⟩) n1 n1,.int .i64 x.num,.int .i64 x.base,.int .i64 x.tm,.int .i64 x.next,.int .i64 x.scope,.bool x.ind,.slice (some ⟨g2,0,none⟩) n2 n2,.slice s3 n3 n3] rfl rfl 39 #[.slice none 0 0,.int .i64 0,.int .i64 0,.int .i64 0,.int .i64 0,.int .i64 0,.bool false,.slice none 0 0,.slice none 0 0] T12.out.b1 infoSizeCrl rfl (by simp [Value.oneCell']) ?_
 apply wpList_nil
 refine hK0 _ _ ?_
 clear hK0 K0
 have hrow:(w12.setRow (w.heap.size+1) #[.slice (some ⟨g1,0,none⟩) n1 n1,.int .i64 x.num,.int .i64 x.base,.int .i64 x.tm,.int .i64 x.next,.int .i64 x.scope,.bool x.ind,.slice (some ⟨g2,0,none⟩) n2 n2,.slice s3 n3 n3]).heap[w.heap.size+1]? = some (.cells #[.slice (some ⟨g1,0,none⟩) n1 n1,.int .i64 x.num,.int .i64 x.base,.int .i64 x.tm,.int .i64 x.next,.int .i64 x.scope,.bool x.ind,.slice (some ⟨g2,0,none⟩) n2 n2,.slice s3 n3 n3] 39 (0,0)):=setRow_heap _ _ _ _ _ _ T12.out.b1
 have hoth:∀ l,l≠w.heap.size+1→(w12.setRow (w.heap.size+1) #[.slice (some ⟨g1,0,none⟩) n1 n1,.int .i64 x.num,.int .i64 x.base,.int .i64 x.tm,.int .i64 x.next,.int .i64 x.scope,.bool x.ind,.slice (some ⟨g2,0,none⟩) n2 n2,.slice s3 n3 n3]).heap[l]? = w12.heap[l]?:=fun l hl=>setRow_other _ _ _ _ hl
 have hsz:(w12.setRow (w.heap.size+1) #[.slice (some ⟨g1,0,none⟩) n1 n1,.int .i64 x.num,.int .i64 x.base,.int .i64 x.tm,.int .i64 x.next,.int .i64 x.scope,.bool x.ind,.slice (some ⟨g2,0,none⟩) n2 n2,.slice s3 n3 n3]).heap.size=w12.heap.size:=by simp
 have hbF:Below w.heap.size w (w12.setRow (w.heap.size+1) #[.slice (some ⟨g1,0,none⟩) n1 n1,.int .i64 x.num,.int .i64 x.base,.int .i64 x.tm,.int .i64 x.next,.int .i64 x.scope,.bool x.ind,.slice (some ⟨g2,0,none⟩) n2 n2,.slice s3 n3 n3]):=⟨T12.out.below.os,T12.out.below.tape,T12.out.below.output,by rw [hsz]; exact T12.out.below.size,fun l hl=>(hoth l (by omega)).trans (T12.out.below.block l hl)⟩
 have hr:=T12.out.st w12 (w12.setRow (w.heap.size+1) #[.slice (some ⟨g1,0,none⟩) n1 n1,.int .i64 x.num,.int .i64 x.base,.int .i64 x.tm,.int .i64 x.next,.int .i64 x.scope,.bool x.ind,.slice (some ⟨g2,0,none⟩) n2 n2,.slice s3 n3 n3]) (fun l hl hl2=>hoth l (by omega)) (Nat.le_of_eq hsz.symm) T12.out.r
 go_wp2
 try simp only [Exit.inBlock,Exit.then]
 refine bodyPost_ret (results_cell_row rfl _ _ (w.heap.size+1) 39 _ (0,0) _ rfl hrow Tryz.underlying39 rfl infoSizeCrl) rfl ⟨_,_,_,rfl,Keeps.mono ⟨_,T12.out.st,hr,fun W hr=>⟨hr.1.1,hr.1.2.1.gns HLN.out.1 HLN.out.2 hr.1.2.2,hr.2.toRow,HMX.out⟩⟩ (by omega),hbF⟩
end Go.Proofs.YtkdandggklpppaaGreatDoor
