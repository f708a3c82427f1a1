import Derived.Test.YtnmplldhdfingaaGreatDoorFG31
import Derived.Test.YtnmplldhdfingaaGreatDoorFG28
set_option maxRecDepth 10000
set_option maxHeartbeats 8000000
set_option linter.unusedVariables false
namespace Go.Proofs.YtnmplldhdfingaaGreatDoor
open Go.RowKit
theorem ownsRow_at {w w':World}{B t s n c g:Nat}{vs:List Value}(h:w.ownsRow B t s (.slice (some ⟨g,0,none⟩) n c) n vs)(e:w'.heap[g]? = w.heap[g]?):w'.ownsRow B t s (.slice (some ⟨g,0,none⟩) n c) n vs:=by
 refine ⟨h.1,?_⟩
 rcases h.2 with q | ⟨g',c',cur,h1,hb,hg,r⟩
 ·exact .inl q
 ·refine .inr ⟨g',c',cur,h1,hb,?_,r⟩
  simp only [Value.slice.injEq,Option.some.injEq,Addr.mk.injEq] at h1
  rw [← h1.1.1] at hg ⊢
  rw [e]
  exact hg
structure TGo (w W:World)(a:Option Addr)(n c:Nat)(x:GP)(g1:Nat)(v0 v1 v2 v3:Value):Prop where
 b0:W.heap[w.heap.size]? = some (.cells #[.slice a n c,.int .i64 x.ser,.int .i64 x.tm,.int .i64 x.rs] 67 (0,0))
 b1:W.heap[w.heap.size+1]? = some (.cells #[.slice none 0 0,.int .i64 0,.int .i64 0,.int .i64 0] 74 (0,0))
 b2:W.heap[w.heap.size+1+1]? = some (.cells #[v0,v1,v2,v3] 74 (0,0))
 own:∃ vs,W.ownsRow (w.heap.size+3) 132 2 (.slice (some ⟨g1,0,none⟩) n n) n vs
 pts:Pts W (some ⟨g1,0,none⟩) n x.parts
 below:Below w.heap.size w W
 g3:w.heap.size+3≤g1
 lt:w.heap.size+3≤W.heap.size
theorem TGo.set {w W:World}{a:Option Addr}{n c:Nat}{x:GP}{g1:Nat}{v0 v1 v2 v3 u0 u1 u2 u3:Value}(h:TGo w W a n c x g1 v0 v1 v2 v3)(j:Nat)(u:Value)(e:(#[v0,v1,v2,v3]:Array Value).setIfInBounds j u=#[u0,u1,u2,u3]):TGo w (W.setCell ⟨w.heap.size+1+1,j,none⟩ u) a n c x g1 u0 u1 u2 u3:=by
 have hg:=h.g3
 have f:∀ l,l≠w.heap.size+2→(W.setCell ⟨w.heap.size+1+1,j,none⟩ u).heap[l]? = W.heap[l]?:=fun l hl=>Below.heap_setCell _ _ _ _ (by show l≠w.heap.size+1+1; omega)
 obtain ⟨vo,ho⟩:=h.own
 refine ⟨(f _ (by omega)).trans h.b0,(f _ (by omega)).trans h.b1,?_,⟨vo,ownsRow_at ho (f _ (by omega))⟩,h.pts.same (f _ (by omega)) (by simp),⟨h.below.os,h.below.tape,h.below.output,by simpa [World.setCell] using h.below.size,fun l hl=>(f l (by omega)).trans (h.below.block l hl)⟩,hg,by simpa [World.setCell] using h.lt⟩
 rw [← e]
 exact heap_setCell_same W (w.heap.size+1+1) j _ 74 u h.b2
theorem TGo.out {w W:World}{a:Option Addr}{n c:Nat}{x:GP}{g1:Nat}{v0 v1 v2 v3:Value}(h:TGo w W a n c x g1 v0 v1 v2 v3)(j:Nat):W.cell? ⟨w.heap.size+1+1,j,none⟩=(#[v0,v1,v2,v3]:Array Value)[j]?∧W.frozen? ⟨w.heap.size+1+1,j,none⟩=false∧W.cell? ⟨w.heap.size,j,none⟩=(#[.slice a n c,.int .i64 x.ser,.int .i64 x.tm,.int .i64 x.rs]:Array Value)[j]? :=
 ⟨cell_of_row _ _ j _ 74 (0,0) h.b2,frozen_of_row W _ j _ 74 h.b2,cell_of_row _ _ j _ 67 (0,0) h.b0⟩
theorem TGo.all {w W:World}{a:Option Addr}{n c:Nat}{x:GP}{g1:Nat}{v0 v1 v2 v3:Value}(h:TGo w W a n c x g1 v0 v1 v2 v3):(W.cell? ⟨w.heap.size+1+1,0,none⟩=some v0∧W.cell? ⟨w.heap.size+1+1,1,none⟩=some v1∧W.cell? ⟨w.heap.size+1+1,2,none⟩=some v2∧W.cell? ⟨w.heap.size+1+1,3,none⟩=some v3)∧(W.cell? ⟨w.heap.size+1,0,none⟩=some (.slice none 0 0)∧W.cell? ⟨w.heap.size+1,1,none⟩=some (.int .i64 0)∧W.cell? ⟨w.heap.size+1,2,none⟩=some (.int .i64 0)∧W.cell? ⟨w.heap.size+1,3,none⟩=some (.int .i64 0))∧W.frozen? ⟨w.heap.size+1,0,none⟩=false∧W.frozen? ⟨w.heap.size+1,1,none⟩=false∧W.frozen? ⟨w.heap.size+1,2,none⟩=false∧W.frozen? ⟨w.heap.size+1,3,none⟩=false :=
 ⟨⟨(h.out 0).1,(h.out 1).1,(h.out 2).1,(h.out 3).1⟩,⟨(cell_of_row _ _ 0 _ 74 (0,0) h.b1).trans rfl,(cell_of_row _ _ 1 _ 74 (0,0) h.b1).trans rfl,(cell_of_row _ _ 2 _ 74 (0,0) h.b1).trans rfl,(cell_of_row _ _ 3 _ 74 (0,0) h.b1).trans rfl⟩,frozen_of_row W _ 0 _ 74 h.b1,frozen_of_row W _ 1 _ 74 h.b1,frozen_of_row W _ 2 _ 74 h.b1,frozen_of_row W _ 3 _ 74 h.b1⟩
theorem toGone_own (a:Option Addr)(n c:Nat)(x:GP)(w:World)(h:Pts w a n x.parts)(hn:n≤1048576) :
  Calls Tryz.prog 58 #[gov a n c x] w fun e w'=>∃ g',e=.returned (gov (some ⟨g',0,none⟩) n n x)∧w.heap.size≤g'∧(∃ vs,w'.ownsRow w.heap.size 132 2 (.slice (some ⟨g',0,none⟩) n n) n vs)∧Pts w' (some ⟨g',0,none⟩) n x.parts∧Below w.heap.size w w':=by
 have HK:Hid (Pts w a n x.parts):=h
 clear h
 unfold gov
 obtain ⟨W0,hW0⟩:∃ W0,W0=(((w.alloc (.cells #[.slice a n c,.int .i64 x.ser,.int .i64 x.tm,.int .i64 x.rs] 67)).alloc (.cells #[.slice none 0 0,.int .i64 0,.int .i64 0,.int .i64 0] 74)).alloc (.cells #[.slice none 0 0,.int .i64 0,.int .i64 0,.int .i64 0] 74)):=⟨_,rfl⟩
 have hB0:Below w.heap.size w W0:=by rw [hW0]; exact three_below _ _ _ _
 have hS0:W0.heap.size=w.heap.size+3:=by rw [hW0]; simp
 obtain ⟨b0,b1,b2⟩:=three_blocks' w (.cells #[.slice a n c,.int .i64 x.ser,.int .i64 x.tm,.int .i64 x.rs] 67) (.cells #[.slice none 0 0,.int .i64 0,.int .i64 0,.int .i64 0] 74) (.cells #[.slice none 0 0,.int .i64 0,.int .i64 0,.int .i64 0] 74)
 rw [← hW0] at b0 b1 b2
 go_enter Tryz.func58,Tryz.ntmps58
 go_wp2_with fail
 rw [← hW0]
 clear hW0
 refine (toName_own a n c x.parts _ (HK.out.kept hB0) hn).mono ?_
 rintro e w1 ⟨g1,rfl,hg1,hv1,ho1,hb1⟩
 have hs1:=hb1.size
 have T1:Hid (TGo w w1 a n c x g1 (.slice none 0 0) (.int .i64 0) (.int .i64 0) (.int .i64 0)):=⟨heap_kept' hb1 (by omega) b0,heap_kept' hb1 (by omega) b1,heap_kept' hb1 (by omega) b2,by rw [← hS0]; exact hv1,ho1,hB0.trans (hb1.mono (by omega)),by omega,by omega⟩
 clear b0 b1 b2 ho1 hv1 hb1 hB0 hg1 hs1 hS0 HK
 unfold nmv
 obtain ⟨o0,f0,a0⟩:=T1.out.out 0
 have o0:w1.cell? ⟨w.heap.size+1+1,0,none⟩=some (.slice none 0 0):=o0
 have a0:w1.cell? ⟨w.heap.size,0,none⟩=some (.slice a n c):=a0
 have hl0:=T1.out.lt
 obtain ⟨w2,hw2⟩:∃ w2,w2=w1.setCell ⟨w.heap.size+1+1,0,none⟩ (.slice (some ⟨g1,0,none⟩) n n):=⟨_,rfl⟩
 have T2:Hid (TGo w w2 a n c x g1 (.slice (some ⟨g1,0,none⟩) n n) (.int .i64 0) (.int .i64 0) (.int .i64 0)):=by rw [hw2]; exact T1.out.set 0 _ rfl
 have HW2:Hid (_=_):=hw2
 clear hw2
 go_upto_region 3 with fail
 rw [← HW2.out]
 clear HW2 o0 f0 a0 hl0 T1
 obtain ⟨o1,f1,a1⟩:=T2.out.out 1
 have o1:w2.cell? ⟨w.heap.size+1+1,1,none⟩=some (.int .i64 0):=o1
 have a1:w2.cell? ⟨w.heap.size,1,none⟩=some (.int .i64 x.ser):=a1
 have hl1:=T2.out.lt
 obtain ⟨w3,hw3⟩:∃ w3,w3=w2.setCell ⟨w.heap.size+1+1,1,none⟩ (.int .i64 x.ser):=⟨_,rfl⟩
 have T3:Hid (TGo w w3 a n c x g1 (.slice (some ⟨g1,0,none⟩) n n) (.int .i64 x.ser) (.int .i64 0) (.int .i64 0)):=by rw [hw3]; exact T2.out.set 1 _ rfl
 have HW3:Hid (_=_):=hw3
 clear hw3
 go_upto_region 4 with fail
 rw [← HW3.out]
 clear HW3 o1 f1 a1 hl1 T2
 obtain ⟨o2,f2,a2⟩:=T3.out.out 2
 have o2:w3.cell? ⟨w.heap.size+1+1,2,none⟩=some (.int .i64 0):=o2
 have a2:w3.cell? ⟨w.heap.size,2,none⟩=some (.int .i64 x.tm):=a2
 have hl2:=T3.out.lt
 obtain ⟨w4,hw4⟩:∃ w4,w4=w3.setCell ⟨w.heap.size+1+1,2,none⟩ (.int .i64 x.tm):=⟨_,rfl⟩
 have T4:Hid (TGo w w4 a n c x g1 (.slice (some ⟨g1,0,none⟩) n n) (.int .i64 x.ser) (.int .i64 x.tm) (.int .i64 0)):=by rw [hw4]; exact T3.out.set 2 _ rfl
 have HW4:Hid (_=_):=hw4
 clear hw4
 go_upto_region 5 with fail
 rw [← HW4.out]
 clear HW4 o2 f2 a2 hl2 T3
 obtain ⟨o3,f3,a3⟩:=T4.out.out 3
 have o3:w4.cell? ⟨w.heap.size+1+1,3,none⟩=some (.int .i64 0):=o3
 have a3:w4.cell? ⟨w.heap.size,3,none⟩=some (.int .i64 x.rs):=a3
 have hl3:=T4.out.lt
 obtain ⟨w5,hw5⟩:∃ w5,w5=w4.setCell ⟨w.heap.size+1+1,3,none⟩ (.int .i64 x.rs):=⟨_,rfl⟩
 have T5:Hid (TGo w w5 a n c x g1 (.slice (some ⟨g1,0,none⟩) n n) (.int .i64 x.ser) (.int .i64 x.tm) (.int .i64 x.rs)):=by rw [hw5]; exact T4.out.set 3 _ rfl
 have HW5:Hid (_=_):=hw5
 clear hw5
 go_upto_region 6 with fail
 rw [← HW5.out]
 clear HW5 o3 f3 a3 hl3 T4
 obtain ⟨⟨o0,o1,o2,o3⟩,⟨r0,r1,r2,r3⟩,f0,f1,f2,f3⟩:=T5.out.all
 have hl5:=T5.out.lt
 go_wp2
 try simp only [Exit.inBlock,Exit.then]
 have hgg:=T5.out.g3
 have q1:=put4_row T5.out.b1 (.slice (some ⟨g1,0,none⟩) n n) (.int .i64 x.ser) (.int .i64 x.tm) (.int .i64 x.rs)
 refine bodyPost_ret (results_go rfl _ (w.heap.size+1) rfl _ _ _ _ _ q1) rfl ⟨_,rfl,by omega,⟨T5.out.own.choose,ownsRow_lower (ownsRow_at T5.out.own.choose_spec (put4_other _ _ _ _ (by omega) _ _ _ _)) (by omega)⟩,T5.out.pts.same (put4_other _ _ _ _ (by omega) _ _ _ _) (by simp),?_⟩
 exact ⟨T5.out.below.os,T5.out.below.tape,T5.out.below.output,by simpa [World.setCell] using T5.out.below.size,fun l hl=>(put4_other _ _ _ _ (by omega) _ _ _ _).trans (T5.out.below.block l hl)⟩
open Go.RowKit
theorem ownsRow_in0 {w:World}{B t s n c g:Nat}{vs:List Value}(h:w.ownsRow B t s (.slice (some ⟨g,0,none⟩) n c) n vs):B≤g∧g<w.heap.size:=by
 rcases h.2 with ⟨q,_⟩ | ⟨g',c1,cur,h1,hb,hg,r⟩
 ·simp at q
 ·simp only [Value.slice.injEq,Option.some.injEq,Addr.mk.injEq] at h1
  rw [h1.1.1]
  exact ⟨hb,(Array.getElem?_eq_some_iff.1 hg).1⟩
structure PreQ (B:Nat)(w:World)(n k:Nat)(xs:List GP)(qs:Nat→Nat)(pv:Nat→List Value)(vs:List Value):Prop where
 row:w.ownsRow B 74 4 (.slice (some ⟨B,0,none⟩) n n) n vs
 at0:∀ j,j<k→vs[j * 4]? = some (.slice (some ⟨qs j,0,none⟩) (xs.getD j default).parts.length (xs.getD j default).parts.length)
 each:∀ j,j<k→w.ownsRow B 132 2 (.slice (some ⟨qs j,0,none⟩) (xs.getD j default).parts.length (xs.getD j default).parts.length) (xs.getD j default).parts.length (pv j)
 gt:∀ j,j<k→B<qs j∧qs j<w.heap.size
 apart:∀ i j,i<j→j<k→qs i<qs j
theorem PreQ.start {B n:Nat}{w:World}{xs:List GP}{vs:List Value}(h:w.ownsRow B 74 4 (.slice (some ⟨B,0,none⟩) n n) n vs):PreQ B w n 0 xs (fun _=>0) (fun _=>[]) vs :=
 ⟨h,fun j hj=>absurd hj (Nat.not_lt_zero _),fun j hj=>absurd hj (Nat.not_lt_zero _),fun j hj=>absurd hj (Nat.not_lt_zero _),fun i j _ hj=>absurd hj (Nat.not_lt_zero _)⟩
theorem PreQ.step {B n k nn g2:Nat}{w w2:World}{xs:List GP}{qs:Nat→Nat}{pv:Nat→List Value}{vs v2:List Value}(h:PreQ B w n k xs qs pv vs)(hk:k<n)(hb:Below w.heap.size w w2)(hv:w2.ownsRow w.heap.size 132 2 (.slice (some ⟨g2,0,none⟩) nn nn) nn v2)(hg:w.heap.size≤g2)(hn:(xs.getD k default).parts.length=nn)(u1 u2 u3:Value) :
  ∃ vs qs pv,PreQ B (put4 w2 B (k * 4) (.slice (some ⟨g2,0,none⟩) nn nn) u1 u2 u3) n (k+1) xs qs pv vs:=by
 have hr:=ownsRow_below h.row hb
 have hB:B<w.heap.size:=(h.row.lt _ rfl).2
 have hl:vs.length=n * 4:=hr.1
 have hg2:g2<w2.heap.size:=(ownsRow_in0 hv).2
 have h1:=((((hr.stored (k * 4) (.slice (some ⟨g2,0,none⟩) nn nn)).1.stored (k * 4+1) u1).1.stored (k * 4+2) u2).1.stored (k * 4+3) u3).1
 have hs:=put4_size w2 B (k * 4) (.slice (some ⟨g2,0,none⟩) nn nn) u1 u2 u3
 refine ⟨_,fun j=>if j=k then g2 else qs j,fun j=>if j=k then v2 else pv j,h1,fun j hj=>?_,fun j hj=>?_,fun j hj=>?_,fun i j hij hj=>?_⟩
 ·by_cases e:j=k
  ·subst e
   simp only [if_true]
   rw [List.getElem?_set_ne (by omega),List.getElem?_set_ne (by omega),List.getElem?_set_ne (by omega),List.getElem?_set_self (by omega),hn]
  ·simp only [if_neg e]
   rw [List.getElem?_set_ne (by omega),List.getElem?_set_ne (by omega),List.getElem?_set_ne (by omega),List.getElem?_set_ne (by omega)]
   exact h.at0 j (by omega)
 ·by_cases e:j=k
  ·subst e
   simp only [if_true]
   rw [hn]
   exact ownsRow_lower (ownsRow_at hv (put4_other _ _ _ _ (by omega) _ _ _ _)) (by omega)
  ·simp only [if_neg e]
   have hq:=h.gt j (by omega)
   exact ownsRow_at (ownsRow_below (h.each j (by omega)) hb) (put4_other _ _ _ _ (by omega) _ _ _ _)
 ·by_cases e:j=k
  ·simp only [if_pos e]
   exact ⟨by omega,by rw [hs]; exact hg2⟩
  ·simp only [if_neg e]
   have hq:=h.gt j (by omega)
   exact ⟨hq.1,by rw [hs]; exact Nat.lt_of_lt_of_le hq.2 hb.size⟩
 ·have hi:i≠k:=by omega
  have hq:=h.gt i (by omega)
  by_cases e:j=k
  ·simp only [if_pos e,if_neg hi]; omega
  ·simp only [if_neg e,if_neg hi]
   exact h.apart i j hij (by omega)
theorem PreQ.own {B n:Nat}{w:World}{xs:List GP}{qs:Nat→Nat}{pv:Nat→List Value}{vs:List Value}(h:PreQ B w n n xs qs pv vs):OwnQ B w (some ⟨B,0,none⟩) n n (fun j=>(some ⟨qs j,0,none⟩,(xs.getD j default).parts.length,(xs.getD j default).parts.length)) pv vs :=
 ⟨h.row,h.at0,fun j hj _=>h.each j hj,fun i j hi hj hne _ _ e=>by
  simp only [Option.some.injEq,Addr.mk.injEq] at e
  rcases Nat.lt_or_gt_of_ne hne with q | q
  ·have:=h.apart i j q hj; omega
  ·have:=h.apart j i q hi; omega⟩
theorem toGoneS_own (a:Option Addr)(n cap:Nat)(xs:List GP)(w:World)(h:Gns w a n xs)(hn:n≤1048576)(hz:∀ k,k<n→GpOk (xs.getD k default)) :
  Calls Tryz.prog 21 #[.slice a n cap] w fun e w'=>e=.returned (.slice (some ⟨w.heap.size,0,none⟩) n n)∧(∃ vs qs pv,PreQ w.heap.size w' n n xs qs pv vs)∧GoPre w' w.heap.size n xs∧w.heap.size<w'.heap.size∧Below w.heap.size w w':=by
 obtain ⟨i0,hi,hz0,hz1,hz2⟩:=info_parts Tryz.infoGone
 have HK:Hid (Gns w a n xs):=h
 have HZ:Hid (∀ k,k<n→GpOk (xs.getD k default)):=hz
 have hlen:Hid (xs.length=n):=h.len
 clear h hz
 go_enter Tryz.func21,Tryz.ntmps21
 go_wp2_with (first | (at_make; refine wpList_make_full _ rfl _ _ 36 rfl w.heap.size 74 i0 _ 4 Tryz.underlying36 hi hz0 hz1 _ _ _ _ n rfl rfl rfl rfl (by rw [hz2]; omega) (by unfold maxLen; omega) (by exact Nat.le_refl _) ?_; intro w1 hown hgrow))
 have hbl:Below w.heap.size w w1:=(Below.refl _ _).grown hgrow (Nat.le_refl _) (by simp)
 clear hgrow hi hz0 hz1 hz2
 go_loopw [4] (fun i wr=>∃ k:Nat,k≤n∧i=.int .i64 k∧Hid (∃ vs qs pv,PreQ w.heap.size wr n k xs qs pv vs)∧Hid (GoPre wr w.heap.size k xs)∧Below w.heap.size w wr) (fun i _=>n - (intOf i).toNat)
 case atStart=>exact ⟨0,Nat.zero_le _,rfl,⟨_,fun _=>0,fun _=>[],PreQ.start hown⟩,fun j hj=>absurd hj (Nat.not_lt_zero _),hbl⟩
 case round =>
  obtain ⟨k,hk,rfl,HOR,HPRE,hbr⟩:=hrel
  obtain ⟨vs,qs,pv,hpq⟩:=HOR.out
  have HPQ:Hid (PreQ w.heap.size wr n k xs qs pv vs):=hpq
  have hor:=hpq.row
  clear hpq
  have hgl:=(hor.lt _ rfl).2
  have HOV:Hid (_):=hor
  clear HOR hor hown hbl
  by_cases hkn:k<n
  ·obtain ⟨b,off,an,nn,cn,rfl,hlb,hc,hp⟩:=HK.out.get k hkn
   have hgp:=HZ.out k hkn
   obtain ⟨y,hy⟩:∃ y,y=xs.getD k default:=⟨_,rfl⟩
   rw [← hy] at hc hp hgp
   have HY:Hid (y=xs.getD k default):=hy
   have HPL:Hid (y.parts.length=nn):=hp.len
   have hnn:nn≤1048576:=by rw [← hp.len]; exact hgp.1
   obtain ⟨c0,c1,c2,c3⟩:=hc.of (w':=wr) (fun i=>hbr.cell (p:=⟨b,i,none⟩) hlb)
   have HP:Hid (Pts wr an nn y.parts):=hp.kept hbr
   have hkni:(k:Int)<(n:Int):=by omega
   have hs:=hbr.size
   clear hc hy hp hgp
   go_wp2_with fail
   refine (toGone_own an nn cn y _ HP.out hnn).mono ?_
   rintro e w2 ⟨g2,rfl,hg2,⟨v2,hv2⟩,hp2,hb2⟩
   have hor2:w2.ownsRow w.heap.size 74 4 (.slice (some ⟨w.heap.size,0,none⟩) n n) n vs:=ownsRow_below HOV.out hb2
   have hs2:=hb2.size
   have fr:∀ j,w2.frozen? ⟨w.heap.size,j,none⟩=false:=fun j=>hor2.frozenAt j
   have hvl:vs.length=n * 4:=hor2.1
   have cx:∀ j,j<n * 4→∃ z,w2.cell? ⟨w.heap.size,j,none⟩=some z:=fun j hj=>⟨_,(hor2.cellAt j hj).trans (List.getElem?_eq_getElem (by omega))⟩
   obtain ⟨z0,x0⟩:=cx (k * 4) (by omega)
   obtain ⟨z1,x1⟩:=cx (k * 4+1) (by omega)
   obtain ⟨z2,x2⟩:=cx (k * 4+2) (by omega)
   obtain ⟨z3,x3⟩:=cx (k * 4+3) (by omega)
   have f0:=fr (k * 4)
   have f1:=fr (k * 4+1)
   have f2:=fr (k * 4+2)
   have f3:=fr (k * 4+3)
   have hS:=put4_is hor2 k hkn (some ⟨g2,0,none⟩) nn nn y
   have hP:GoPre (put4 w2 w.heap.size (k * 4) (.slice (some ⟨g2,0,none⟩) nn nn) (.int .i64 y.ser) (.int .i64 y.tm) (.int .i64 y.rs)) w.heap.size (k+1) xs:=by
    intro j hj
    by_cases hjk:j=k
    ·subst hjk
     rw [← HY.out]
     exact ⟨g2,nn,by omega,hS.cells,hp2.same (hS.other _ (by omega)) (Nat.le_of_eq hS.size.symm)⟩
    ·obtain ⟨gn,mm,q1,q2,q3⟩:=(HPRE.out.kept hgl hb2) j (by omega)
     have hx:=hS.old
     exact ⟨gn,mm,q1,⟨(hx _ (by omega) (by omega)).trans q2.c0,(hx _ (by omega) (by omega)).trans q2.c1,(hx _ (by omega) (by omega)).trans q2.c2,(hx _ (by omega) (by omega)).trans q2.c3⟩,q3.same (hS.other _ (by omega)) (Nat.le_of_eq hS.size.symm)⟩
   have hB2:=hbr.trans (hb2.mono hs)
   have hB4:Below w.heap.size w (put4 w2 w.heap.size (k * 4) (.slice (some ⟨g2,0,none⟩) nn nn) (.int .i64 y.ser) (.int .i64 y.tm) (.int .i64 y.rs)):=⟨hB2.os,hB2.tape,hB2.output,by rw [hS.size]; exact hB2.size,fun l hl=>(hS.other l (by omega)).trans (hB2.block l hl)⟩
   have FIN:Hid (_∧_∧_):=⟨HPQ.out.step hkn hb2 hv2 hg2 (by rw [← HY.out]; exact HPL.out) (.int .i64 y.ser) (.int .i64 y.tm) (.int .i64 y.rs),hP,hB4⟩
   have hgl2:w.heap.size<w2.heap.size:=by omega
   clear fr cx hS hP hB4 hB2 hor2 hp2 hv2 HPQ hb2 hvl HPRE HOV HP HK
   unfold gov
   go_wp2
   go_roundw
   case rel=>exact ⟨k+1,by omega,by go_num,FIN.out.1,FIN.out.2.1,FIN.out.2.2⟩
   case measure=>simp [intOf]; omega
  ·obtain rfl:n=k:=by omega
   clear HOV
   go_wp2
   go_ret
   exact ⟨rfl,⟨_,_,_,HPQ.out⟩,HPRE.out,hgl,hbr⟩
open Go.RowKit
def PtO (B:Nat)(W:World)(g n:Nat)(xs:List PT):Prop:=(∃ vs,W.ownsRow B 132 2 (.slice (some ⟨g,0,none⟩) n n) n vs)∧Pts W (some ⟨g,0,none⟩) n xs
def GoO (W:World)(g n:Nat)(xs:List GP):Prop:=(∃ vs qs pv,PreQ g W n n xs qs pv vs)∧GoPre W g n xs
def CrO (B:Nat)(W:World)(a1:Option Addr)(n1:Nat)(a2:Option Addr)(n2:Nat)(a3:Option Addr)(n3:Nat)(x:CP):Prop:=∃ v1 sl pv vs,OwnC B W a1 n1 n1 a2 n2 n2 a3 n3 n3 v1 sl pv vs x.sig∧∀ j,j<n2→(sl j).2.1=(x.ents.getD j default).parts.length∧((sl j).1=none→(sl j).2.2=0)
theorem stab_pto {B B' g n:Nat}{xs:List PT}(hB:B≤g):Stab B (fun W=>PtO B' W g n xs):=fun W W' e s h=>by
 obtain ⟨⟨vs,hv⟩,hp⟩:=h
 exact ⟨⟨vs,ownsRow_at hv (e g hB (ownsRow_in0 hv).2)⟩,pts_move hB W W' e s hp⟩
theorem stab_goo {B g n:Nat}{xs:List GP}(hB:B≤g):Stab B (fun W=>GoO W g n xs):=fun W W' e s h=>by
 obtain ⟨⟨vs,qs,pv,hq⟩,hp⟩:=h
 refine ⟨⟨vs,qs,pv,ownsRow_at hq.row (e g hB (ownsRow_in0 hq.row).2),hq.at0,fun j hj=>?_,fun j hj=>?_,hq.apart⟩,stab_go hB W W' e s hp⟩
 ·have:=hq.gt j hj
  exact ownsRow_at (hq.each j hj) (e _ (by omega) this.2)
 ·have:=hq.gt j hj
  exact ⟨this.1,Nat.lt_of_lt_of_le this.2 s⟩
theorem crO_of {B B1 B3:Nat}{W:World}{g1 n1 g2 n2:Nat}{a3:Option Addr}{n3:Nat}{x:CP}(h1:B≤B1)(h2:B≤g2)(h3:B≤B3)(hg:g1<g2)(p:PtO B1 W g1 n1 x.parts)(q:GoO W g2 n2 x.ents)(r:Own B3 W a3 n3 n3 x.sig):CrO B W (some ⟨g1,0,none⟩) n1 (some ⟨g2,0,none⟩) n2 a3 n3 x:=by
 obtain ⟨⟨v1,hv⟩,_⟩:=p
 obtain ⟨⟨vs,qs,pv,hq⟩,_⟩:=q
 have ho:=hq.own
 refine ⟨v1,_,pv,vs,⟨fun _=>ownsRow_lower hv h1,⟨ownsRow_lower ho.row h2,ho.at0,fun j hj hp=>ownsRow_lower (ho.each j hj hp) h2,ho.apart⟩,⟨ownsRow_lower r.row h3,r.byte⟩,fun j hj _ _ e=>?_⟩,fun j hj=>⟨rfl,fun e=>by simp at e⟩⟩
 simp only [Option.some.injEq,Addr.mk.injEq] at e
 have:=hq.gt j hj
 omega
theorem toCrl_own (a1:Option Addr)(n1 c1:Nat)(a2:Option Addr)(n2 c2:Nat)(a3:Option Addr)(n3 c3:Nat)(x:CP)(w:World)(h:Crs w a1 n1 a2 n2 a3 n3 x)(hz:CpOk n1 n2 n3 x) :
  Calls Tryz.prog 6 #[crv a1 n1 c1 a2 n2 c2 a3 n3 c3 x] w fun e w'=>∃ b1 b2 b3,e=.returned (crv b1 n1 n1 b2 n2 n2 b3 n3 n3 x)∧Keeps w.heap.size w' (fun W=>Crs W b1 n1 b2 n2 b3 n3 x∧CrO w.heap.size W b1 n1 b2 n2 b3 n3 x)∧Below w.heap.size w w':=by
 have HK:Hid (Crs w a1 n1 a2 n2 a3 n3 x):=h
 have HZ:Hid (CpOk n1 n2 n3 x):=hz
 clear h hz
 unfold crv
 obtain ⟨W0,hW0⟩:∃ W0,W0=(((w.alloc (.cells #[.slice a1 n1 c1,.int .i64 x.num,.int .i64 x.base,.int .i64 x.tm,.int .i64 x.next,.int .i64 x.scope,.bool x.ind,.slice a2 n2 c2,.slice a3 n3 c3] 28)).alloc (.cells #[.slice none 0 0,.int .i64 0,.int .i64 0,.int .i64 0,.int .i64 0,.int .i64 0,.bool false,.slice none 0 0,.slice none 0 0] 38)).alloc (.cells #[.slice none 0 0,.int .i64 0,.int .i64 0,.int .i64 0,.int .i64 0,.int .i64 0,.bool false,.slice none 0 0,.slice none 0 0] 38)):=⟨_,rfl⟩
 have hB0:Below w.heap.size w W0:=by rw [hW0]; exact three_below _ _ _ _
 have hS0:W0.heap.size=w.heap.size+3:=by rw [hW0]; simp
 obtain ⟨b0,b1,b2⟩:=three_blocks' w (.cells #[.slice a1 n1 c1,.int .i64 x.num,.int .i64 x.base,.int .i64 x.tm,.int .i64 x.next,.int .i64 x.scope,.bool x.ind,.slice a2 n2 c2,.slice a3 n3 c3] 28) (.cells #[.slice none 0 0,.int .i64 0,.int .i64 0,.int .i64 0,.int .i64 0,.int .i64 0,.bool false,.slice none 0 0,.slice none 0 0] 38) (.cells #[.slice none 0 0,.int .i64 0,.int .i64 0,.int .i64 0,.int .i64 0,.int .i64 0,.bool false,.slice none 0 0,.slice none 0 0] 38)
 rw [← hW0] at b0 b1 b2
 go_enter Tryz.func6,Tryz.ntmps6
 go_wp2_with fail
 rw [← hW0]
 clear hW0
 refine (toName_own a1 n1 c1 x.parts _ (HK.out.kept hB0).nm HZ.out.1).mono ?_
 rintro e w1 ⟨g1,rfl,hg1,hv1,ho1,hb1⟩
 have hs1:=hb1.size
 have T1:Hid (TC w w1 a1 n1 c1 a2 n2 c2 a3 n3 c3 x (fun W=>PtO (w.heap.size+3) W g1 n1 x.parts) #[.slice none 0 0,.int .i64 0,.int .i64 0,.int .i64 0,.int .i64 0,.int .i64 0,.bool false,.slice none 0 0,.slice none 0 0]):=⟨heap_kept' hb1 (by omega) b0,heap_kept' hb1 (by omega) b1,heap_kept' hb1 (by omega) b2,stab_pto (by omega),⟨by rw [← hS0]; exact hv1,ho1⟩,hB0.trans (hb1.mono (by omega)),by omega⟩
 clear b0 b1 b2 ho1 hv1 hb1 hB0 hg1 hs1 hS0
 unfold nmv
 obtain ⟨o0,f0,l0⟩:=T1.out.out 0
 have o0:w1.cell? ⟨w.heap.size+1+1,0,none⟩=some (.slice none 0 0):=o0
 have l0:w1.cell? ⟨w.heap.size,0,none⟩=some (.slice a1 n1 c1):=l0
 have m0:=T1.out.lt
 obtain ⟨w2,hw2⟩:∃ W,W=w1.setCell ⟨w.heap.size+1+1,0,none⟩ (.slice (some ⟨g1,0,none⟩) n1 n1):=⟨_,rfl⟩
 have T2:Hid (TC w w2 a1 n1 c1 a2 n2 c2 a3 n3 c3 x (fun W=>PtO (w.heap.size+3) W g1 n1 x.parts) #[.slice (some ⟨g1,0,none⟩) n1 n1,.int .i64 0,.int .i64 0,.int .i64 0,.int .i64 0,.int .i64 0,.bool false,.slice none 0 0,.slice none 0 0]):=by rw [hw2]; exact T1.out.set 0 _ rfl
 have HW2:Hid (_=_):=hw2
 clear hw2
 go_upto_region 3 with fail
 rw [← HW2.out]
 clear HW2 o0 f0 l0 m0 T1
 obtain ⟨o1,f1,l1⟩:=T2.out.out 1
 have o1:w2.cell? ⟨w.heap.size+1+1,1,none⟩=some (.int .i64 0):=o1
 have l1:w2.cell? ⟨w.heap.size,1,none⟩=some (.int .i64 x.num):=l1
 have m1:=T2.out.lt
 obtain ⟨w3,hw3⟩:∃ W,W=w2.setCell ⟨w.heap.size+1+1,1,none⟩ (.int .i64 x.num):=⟨_,rfl⟩
 have T3:Hid (TC w w3 a1 n1 c1 a2 n2 c2 a3 n3 c3 x (fun W=>PtO (w.heap.size+3) W g1 n1 x.parts) #[.slice (some ⟨g1,0,none⟩) n1 n1,.int .i64 x.num,.int .i64 0,.int .i64 0,.int .i64 0,.int .i64 0,.bool false,.slice none 0 0,.slice none 0 0]):=by rw [hw3]; exact T2.out.set 1 _ rfl
 have HW3:Hid (_=_):=hw3
 clear hw3
 go_upto_region 4 with fail
 rw [← HW3.out]
 clear HW3 o1 f1 l1 m1 T2
 obtain ⟨o2,f2,l2⟩:=T3.out.out 2
 have o2:w3.cell? ⟨w.heap.size+1+1,2,none⟩=some (.int .i64 0):=o2
 have l2:w3.cell? ⟨w.heap.size,2,none⟩=some (.int .i64 x.base):=l2
 have m2:=T3.out.lt
 obtain ⟨w4,hw4⟩:∃ W,W=w3.setCell ⟨w.heap.size+1+1,2,none⟩ (.int .i64 x.base):=⟨_,rfl⟩
 have T4:Hid (TC w w4 a1 n1 c1 a2 n2 c2 a3 n3 c3 x (fun W=>PtO (w.heap.size+3) W g1 n1 x.parts) #[.slice (some ⟨g1,0,none⟩) n1 n1,.int .i64 x.num,.int .i64 x.base,.int .i64 0,.int .i64 0,.int .i64 0,.bool false,.slice none 0 0,.slice none 0 0]):=by rw [hw4]; exact T3.out.set 2 _ rfl
 have HW4:Hid (_=_):=hw4
 clear hw4
 go_upto_region 5 with fail
 rw [← HW4.out]
 clear HW4 o2 f2 l2 m2 T3
 obtain ⟨o3,f3,l3⟩:=T4.out.out 3
 have o3:w4.cell? ⟨w.heap.size+1+1,3,none⟩=some (.int .i64 0):=o3
 have l3:w4.cell? ⟨w.heap.size,3,none⟩=some (.int .i64 x.tm):=l3
 have m3:=T4.out.lt
 obtain ⟨w5,hw5⟩:∃ W,W=w4.setCell ⟨w.heap.size+1+1,3,none⟩ (.int .i64 x.tm):=⟨_,rfl⟩
 have T5:Hid (TC w w5 a1 n1 c1 a2 n2 c2 a3 n3 c3 x (fun W=>PtO (w.heap.size+3) W g1 n1 x.parts) #[.slice (some ⟨g1,0,none⟩) n1 n1,.int .i64 x.num,.int .i64 x.base,.int .i64 x.tm,.int .i64 0,.int .i64 0,.bool false,.slice none 0 0,.slice none 0 0]):=by rw [hw5]; exact T4.out.set 3 _ rfl
 have HW5:Hid (_=_):=hw5
 clear hw5
 go_upto_region 6 with fail
 rw [← HW5.out]
 clear HW5 o3 f3 l3 m3 T4
 obtain ⟨o4,f4,l4⟩:=T5.out.out 4
 have o4:w5.cell? ⟨w.heap.size+1+1,4,none⟩=some (.int .i64 0):=o4
 have l4:w5.cell? ⟨w.heap.size,4,none⟩=some (.int .i64 x.next):=l4
 have m4:=T5.out.lt
 obtain ⟨w6,hw6⟩:∃ W,W=w5.setCell ⟨w.heap.size+1+1,4,none⟩ (.int .i64 x.next):=⟨_,rfl⟩
 have T6:Hid (TC w w6 a1 n1 c1 a2 n2 c2 a3 n3 c3 x (fun W=>PtO (w.heap.size+3) W g1 n1 x.parts) #[.slice (some ⟨g1,0,none⟩) n1 n1,.int .i64 x.num,.int .i64 x.base,.int .i64 x.tm,.int .i64 x.next,.int .i64 0,.bool false,.slice none 0 0,.slice none 0 0]):=by rw [hw6]; exact T5.out.set 4 _ rfl
 have HW6:Hid (_=_):=hw6
 clear hw6
 go_upto_region 7 with fail
 rw [← HW6.out]
 clear HW6 o4 f4 l4 m4 T5
 obtain ⟨o5,f5,l5⟩:=T6.out.out 5
 have o5:w6.cell? ⟨w.heap.size+1+1,5,none⟩=some (.int .i64 0):=o5
 have l5:w6.cell? ⟨w.heap.size,5,none⟩=some (.int .i64 x.scope):=l5
 have m5:=T6.out.lt
 obtain ⟨w7,hw7⟩:∃ W,W=w6.setCell ⟨w.heap.size+1+1,5,none⟩ (.int .i64 x.scope):=⟨_,rfl⟩
 have T7:Hid (TC w w7 a1 n1 c1 a2 n2 c2 a3 n3 c3 x (fun W=>PtO (w.heap.size+3) W g1 n1 x.parts) #[.slice (some ⟨g1,0,none⟩) n1 n1,.int .i64 x.num,.int .i64 x.base,.int .i64 x.tm,.int .i64 x.next,.int .i64 x.scope,.bool false,.slice none 0 0,.slice none 0 0]):=by rw [hw7]; exact T6.out.set 5 _ rfl
 have HW7:Hid (_=_):=hw7
 clear hw7
 go_upto_region 8 with fail
 rw [← HW7.out]
 clear HW7 o5 f5 l5 m5 T6
 obtain ⟨o6,f6,l6⟩:=T7.out.out 6
 have o6:w7.cell? ⟨w.heap.size+1+1,6,none⟩=some (.bool false):=o6
 have l6:w7.cell? ⟨w.heap.size,6,none⟩=some (.bool x.ind):=l6
 have m6:=T7.out.lt
 obtain ⟨w8,hw8⟩:∃ W,W=w7.setCell ⟨w.heap.size+1+1,6,none⟩ (.bool x.ind):=⟨_,rfl⟩
 have T8:Hid (TC w w8 a1 n1 c1 a2 n2 c2 a3 n3 c3 x (fun W=>PtO (w.heap.size+3) W g1 n1 x.parts) #[.slice (some ⟨g1,0,none⟩) n1 n1,.int .i64 x.num,.int .i64 x.base,.int .i64 x.tm,.int .i64 x.next,.int .i64 x.scope,.bool x.ind,.slice none 0 0,.slice none 0 0]):=by rw [hw8]; exact T7.out.set 6 _ rfl
 have HW8:Hid (_=_):=hw8
 clear hw8
 go_upto_region 9 with fail
 rw [← HW8.out]
 clear HW8 o6 f6 l6 m6 T7
 obtain ⟨_,_,l7⟩:=T8.out.out 7
 have l7:w8.cell? ⟨w.heap.size,7,none⟩=some (.slice a2 n2 c2):=l7
 have m7:=T8.out.lt
 go_wp2_with fail
 refine (toGoneS_own a2 n2 c2 x.ents _ (HK.out.kept T8.out.below).en HZ.out.2.2.1 HZ.out.2.2.2.1).mono ?_
 rintro e w9 ⟨rfl,hq9,hp9,hl9,hb9⟩
 obtain ⟨g2,hg2⟩:∃ g2,g2=w8.heap.size:=⟨_,rfl⟩
 have HG12:Hid (g1<g2):=by obtain ⟨vv,hvv⟩:=T8.out.r.1; have:=(ownsRow_in0 hvv).2; show g1<g2; omega
 rw [← hg2] at hp9 hq9 hl9 ⊢
 have hg23:w.heap.size+3≤g2:=by omega
 have T9:Hid (TC w w9 a1 n1 c1 a2 n2 c2 a3 n3 c3 x (fun W=>PtO (w.heap.size+3) W g1 n1 x.parts∧(GoO W g2 n2 x.ents∧g2<W.heap.size)) #[.slice (some ⟨g1,0,none⟩) n1 n1,.int .i64 x.num,.int .i64 x.base,.int .i64 x.tm,.int .i64 x.next,.int .i64 x.scope,.bool x.ind,.slice none 0 0,.slice none 0 0]):=(T8.out.on hb9).more (stab_and T8.out.st (stab_and (stab_goo hg23) (stab_lt _ _))) ⟨(T8.out.on hb9).r,⟨hq9,hp9⟩,hl9⟩
 clear hb9 hq9 hp9 hl9 hg2 T8 l7 m7
 obtain ⟨o7,f7,l7⟩:=T9.out.out 7
 have o7:w9.cell? ⟨w.heap.size+1+1,7,none⟩=some (.slice none 0 0):=o7
 have l7:w9.cell? ⟨w.heap.size,7,none⟩=some (.slice a2 n2 c2):=l7
 have m7:=T9.out.lt
 obtain ⟨w10,hw10⟩:∃ W,W=w9.setCell ⟨w.heap.size+1+1,7,none⟩ (.slice (some ⟨g2,0,none⟩) n2 n2):=⟨_,rfl⟩
 have T10:Hid (TC w w10 a1 n1 c1 a2 n2 c2 a3 n3 c3 x (fun W=>PtO (w.heap.size+3) W g1 n1 x.parts∧(GoO W g2 n2 x.ents∧g2<W.heap.size)) #[.slice (some ⟨g1,0,none⟩) n1 n1,.int .i64 x.num,.int .i64 x.base,.int .i64 x.tm,.int .i64 x.next,.int .i64 x.scope,.bool x.ind,.slice (some ⟨g2,0,none⟩) n2 n2,.slice none 0 0]):=by rw [hw10]; exact T9.out.set 7 _ rfl
 have HW10:Hid (_=_):=hw10
 clear hw10
 go_upto_region 10 with fail
 rw [← HW10.out]
 clear HW10 o7 f7 l7 m7 T9
 obtain ⟨_,_,l8⟩:=T10.out.out 8
 have l8:w10.cell? ⟨w.heap.size,8,none⟩=some (.slice a3 n3 c3):=l8
 have m8:=T10.out.lt
 go_wp2_with fail
 refine (toByteS_any a3 n3 c3 x.sig _ (HK.out.kept T10.out.below).sg HZ.out.2.2.2.2).mono ?_
 rintro e w11 ⟨s3,rfl,ho11,hb11⟩
 obtain ⟨s3b,hs3b⟩:∃ s3b,s3b=w10.heap.size:=⟨_,rfl⟩
 rw [← hs3b] at ho11
 have hs33:w.heap.size+3≤s3b:=by omega
 have T11:Hid (TC w w11 a1 n1 c1 a2 n2 c2 a3 n3 c3 x (fun W=>(PtO (w.heap.size+3) W g1 n1 x.parts∧(GoO W g2 n2 x.ents∧g2<W.heap.size))∧Own s3b W s3 n3 n3 x.sig) #[.slice (some ⟨g1,0,none⟩) n1 n1,.int .i64 x.num,.int .i64 x.base,.int .i64 x.tm,.int .i64 x.next,.int .i64 x.scope,.bool x.ind,.slice (some ⟨g2,0,none⟩) n2 n2,.slice none 0 0]):=(T10.out.on hb11).more (stab_and T10.out.st (stab_own hs33)) ⟨(T10.out.on hb11).r,ho11⟩
 clear hb11 ho11 hs3b T10 l8 m8
 obtain ⟨o8,f8,l8⟩:=T11.out.out 8
 have o8:w11.cell? ⟨w.heap.size+1+1,8,none⟩=some (.slice none 0 0):=o8
 have l8:w11.cell? ⟨w.heap.size,8,none⟩=some (.slice a3 n3 c3):=l8
 have m8:=T11.out.lt
 obtain ⟨w12,hw12⟩:∃ W,W=w11.setCell ⟨w.heap.size+1+1,8,none⟩ (.slice s3 n3 n3):=⟨_,rfl⟩
 have T12:Hid (TC w w12 a1 n1 c1 a2 n2 c2 a3 n3 c3 x (fun W=>(PtO (w.heap.size+3) W g1 n1 x.parts∧(GoO W g2 n2 x.ents∧g2<W.heap.size))∧Own s3b W s3 n3 n3 x.sig) #[.slice (some ⟨g1,0,none⟩) n1 n1,.int .i64 x.num,.int .i64 x.base,.int .i64 x.tm,.int .i64 x.next,.int .i64 x.scope,.bool x.ind,.slice (some ⟨g2,0,none⟩) n2 n2,.slice s3 n3 n3]):=by rw [hw12]; exact T11.out.set 8 _ rfl
 have HW12:Hid (_=_):=hw12
 clear hw12
 go_upto_region 11 with fail
 rw [← HW12.out]
 clear HW12 o8 f8 l8 m8 T11
 have HLN:Hid (x.ents.length=n2∧n2≤9223372036854775807):=⟨HK.out.en.len,HK.out.en.max⟩
 have HMX:Hid (n3≤9223372036854775807):=HK.out.mx
 clear HK
 have hlF:=T12.out.lt
 rename_i K0 hK0
 apply wp_region_lit
 refine wpList_load_row rfl 38 _ rfl (w.heap.size+1+1) rfl 38 #[.slice (some ⟨g1,0,none⟩) n1 n1,.int .i64 x.num,.int .i64 x.base,.int .i64 x.tm,.int .i64 x.next,.int .i64 x.scope,.bool x.ind,.slice (some ⟨g2,0,none⟩) n2 n2,.slice s3 n3 n3] (0,0) _ T12.out.b2 Tryz.underlying38 rfl infoSizeCrl ?_
 refine wpList_store_rowTo rfl 38 _ _ rfl rfl (w.heap.size+1) #[.slice (some ⟨g1,0,none⟩) n1 n1,.int .i64 x.num,.int .i64 x.base,.int .i64 x.tm,.int .i64 x.next,.int .i64 x.scope,.bool x.ind,.slice (some ⟨g2,0,none⟩) n2 n2,.slice s3 n3 n3] rfl rfl 38 #[.slice none 0 0,.int .i64 0,.int .i64 0,.int .i64 0,.int .i64 0,.int .i64 0,.bool false,.slice none 0 0,.slice none 0 0] T12.out.b1 infoSizeCrl rfl (by simp [Value.oneCell']) ?_
 apply wpList_nil
 refine hK0 _ _ ?_
 clear hK0 K0
 have hrow:(w12.setRow (w.heap.size+1) #[.slice (some ⟨g1,0,none⟩) n1 n1,.int .i64 x.num,.int .i64 x.base,.int .i64 x.tm,.int .i64 x.next,.int .i64 x.scope,.bool x.ind,.slice (some ⟨g2,0,none⟩) n2 n2,.slice s3 n3 n3]).heap[w.heap.size+1]? = some (.cells #[.slice (some ⟨g1,0,none⟩) n1 n1,.int .i64 x.num,.int .i64 x.base,.int .i64 x.tm,.int .i64 x.next,.int .i64 x.scope,.bool x.ind,.slice (some ⟨g2,0,none⟩) n2 n2,.slice s3 n3 n3] 38 (0,0)):=setRow_heap _ _ _ _ _ _ T12.out.b1
 have hoth:∀ l,l≠w.heap.size+1→(w12.setRow (w.heap.size+1) #[.slice (some ⟨g1,0,none⟩) n1 n1,.int .i64 x.num,.int .i64 x.base,.int .i64 x.tm,.int .i64 x.next,.int .i64 x.scope,.bool x.ind,.slice (some ⟨g2,0,none⟩) n2 n2,.slice s3 n3 n3]).heap[l]? = w12.heap[l]?:=fun l hl=>setRow_other _ _ _ _ hl
 have hsz:(w12.setRow (w.heap.size+1) #[.slice (some ⟨g1,0,none⟩) n1 n1,.int .i64 x.num,.int .i64 x.base,.int .i64 x.tm,.int .i64 x.next,.int .i64 x.scope,.bool x.ind,.slice (some ⟨g2,0,none⟩) n2 n2,.slice s3 n3 n3]).heap.size=w12.heap.size:=by simp
 have hbF:Below w.heap.size w (w12.setRow (w.heap.size+1) #[.slice (some ⟨g1,0,none⟩) n1 n1,.int .i64 x.num,.int .i64 x.base,.int .i64 x.tm,.int .i64 x.next,.int .i64 x.scope,.bool x.ind,.slice (some ⟨g2,0,none⟩) n2 n2,.slice s3 n3 n3]):=⟨T12.out.below.os,T12.out.below.tape,T12.out.below.output,by rw [hsz]; exact T12.out.below.size,fun l hl=>(hoth l (by omega)).trans (T12.out.below.block l hl)⟩
 have hr:=T12.out.st w12 (w12.setRow (w.heap.size+1) #[.slice (some ⟨g1,0,none⟩) n1 n1,.int .i64 x.num,.int .i64 x.base,.int .i64 x.tm,.int .i64 x.next,.int .i64 x.scope,.bool x.ind,.slice (some ⟨g2,0,none⟩) n2 n2,.slice s3 n3 n3]) (fun l hl hl2=>hoth l (by omega)) (Nat.le_of_eq hsz.symm) T12.out.r
 go_wp2
 try simp only [Exit.inBlock,Exit.then]
 refine bodyPost_ret (results_cell_row rfl _ _ (w.heap.size+1) 38 _ (0,0) _ rfl hrow Tryz.underlying38 rfl infoSizeCrl) rfl ⟨_,_,_,rfl,Keeps.mono ⟨_,T12.out.st,hr,fun W hr=>⟨⟨hr.1.1.2,hr.1.2.1.2.gns HLN.out.1 HLN.out.2 hr.1.2.2,hr.2.toRow,HMX.out⟩,crO_of (by omega) (by omega) (by omega) HG12.out hr.1.1 hr.1.2.1 hr.2⟩⟩ (by omega),hbF⟩
end Go.Proofs.YtnmplldhdfingaaGreatDoor
