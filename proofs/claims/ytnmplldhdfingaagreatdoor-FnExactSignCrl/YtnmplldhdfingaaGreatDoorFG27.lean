import Derived.Deep.RegionHeld3
import Derived.DeepKeys4
import Derived.Maps.OwnSet
import Derived.Maps.Views
import Derived.Test.YtnmplldhdfingaaGreatDoorFG26
set_option maxRecDepth 10000
set_option maxHeartbeats 8000000
set_option linter.unusedVariables false
namespace Go.Proofs.YtnmplldhdfingaaGreatDoor
open Go.RowKit Go.Sort
theorem ownsRow_ownBlock {w:World}{B t s n c:Nat}{a:Option Addr}{vs:List Value}(h:w.ownsRow B t s (.slice a n c) n vs):∀ g,(Value.slice a n c).ownBlock=some g→a=some ⟨g,0,none⟩:=by
 intro g e
 rcases h.2 with ⟨q,_⟩ | ⟨g',c1,cur,h1,hb,hg,r⟩
 ·simp only [Value.slice.injEq] at q
  rw [q.1] at e
  simp [Value.ownBlock] at e
 ·simp only [Value.slice.injEq] at h1
  rw [h1.1] at e ⊢
  simp only [Value.ownBlock,Option.some.injEq] at e
  rw [e]
theorem markCrl_any (B:Nat)(S:Nat→Prop)(a1:Option Addr)(n1 c1:Nat)(a2:Option Addr)(n2 c2:Nat)(a3:Option Addr)(n3 c3:Nat)(x:CP)(v1:List Value)(sl:Nat→Sl)(pv:Nat→List Value)(vs:List Value)(bs:List Int)(k:Nat)(w:World)(h:OwnC B w a1 n1 c1 a2 n2 c2 a3 n3 c3 v1 sl pv vs bs)(hin:InC S a1 n1 a2 n2 a3 sl)
  (hn1:n1≤1048576) (hn2:n2≤1048576) (hn3:n3≤1048576) (hs:∀ j,j<n2→(sl j).2.1≤1048576) (h0:0<k) (hk:nxQ sl (k+2 * n1) n2≤2000000000000000) :
  Calls Tryz.prog 11 #[crv a1 n1 c1 a2 n2 c2 a3 n3 c3 x,.int .i64 k] w fun e w'=>e=.returned (.int .i64 (nxQ sl (k+2 * n1) n2+n3:Nat))∧OwnC B w' a1 n1 c1 a2 n2 c2 a3 n3 c3 (mkPs k n1) sl (mkP sl (k+2 * n1) pv n2) (mkV sl (k+2 * n1) vs n2) (marks (nxQ sl (k+2 * n1) n2) n3)∧TouchS S w w':=by
 unfold crv
 have hk1:k+2 * n1≤2000000000000000:=Nat.le_trans (nxQ_le sl (k+2 * n1) (Nat.zero_le n2)) hk
 obtain ⟨W0,hW0⟩:∃ W0,W0=w.alloc (.cells #[.slice a1 n1 c1,.int .i64 x.num,.int .i64 x.base,.int .i64 x.tm,.int .i64 x.next,.int .i64 x.scope,.bool x.ind,.slice a2 n2 c2,.slice a3 n3 c3] 38):=⟨_,rfl⟩
 have hB0:Below w.heap.size w W0:=by rw [hW0]; exact (Below.refl _ _).alloc (Nat.le_refl _) _
 have b0:W0.heap[w.heap.size]? = some (.cells #[.slice a1 n1 c1,.int .i64 x.num,.int .i64 x.base,.int .i64 x.tm,.int .i64 x.next,.int .i64 x.scope,.bool x.ind,.slice a2 n2 c2,.slice a3 n3 c3] 38 (0,0)):=by rw [hW0]; exact heap_alloc_new w _
 have hz0:w.heap.size<W0.heap.size:=(Array.getElem?_eq_some_iff.1 b0).1
 have HW:Hid (_=_):=hW0
 have O0:=h.below hB0
 have HIC:Hid (InC (fun i=>B≤i∧i<w.heap.size) a1 n1 a2 n2 a3 sl):=h.inC
 have HIN:Hid (InC S a1 n1 a2 n2 a3 sl):=hin
 have M1:=markName_q B a1 n1 c1 k v1 W0 O0.nm hn1 h0 (by omega)
 have HO0:Hid (OwnC B W0 a1 n1 c1 a2 n2 c2 a3 n3 c3 v1 sl pv vs bs):=O0
 have HS:Hid (∀ j,j<n2→(sl j).2.1≤1048576):=hs
 have x0:W0.cell? ⟨w.heap.size,0,none⟩=some (.slice a1 n1 c1):=qk b0 rfl
 have HT0:Hid (TouchS S w W0):=TouchS.of_below hB0
 have HB0:Hid (W0.heap[w.heap.size]? = _):=b0
 obtain ⟨p,hp⟩:∃ p,p=k+2 * n1:=⟨_,rfl⟩
 rw [← hp] at M1 hk hk1
 rw [← hp]
 have hp0:0<p:=by omega
 obtain ⟨q,hq⟩:∃ q,q=nxQ sl p n2:=⟨_,rfl⟩
 rw [← hq]
 have HQ:Hid (q=nxQ sl p n2):=hq
 have HK:Hid (nxQ sl p n2≤2000000000000000):=hk
 have hq1:q≤2000000000000000:=by rw [hq]; exact hk
 clear hW0 h hin hs O0 hp hk hq b0 hB0
 go_enter Tryz.func11,Tryz.ntmps11
 go_upto_region 1 with fail
 rw [← HW.out]
 clear HW
 go_wp2_with fail
 refine M1.mono ?_
 rintro e w1 ⟨rfl,ho1,ht1⟩
 have O1:=HO0.out.step1 ho1 ht1
 have b1:=(ht1.block w.heap.size hz0 (fun hp e=>by have:=(HIC.out.nm _ e hp).2; omega)).trans HB0.out
 have hz1:w.heap.size<w1.heap.size:=(Array.getElem?_eq_some_iff.1 b1).1
 have HT1:Hid (TouchS S w w1):=HT0.out.trans (ht1.touchS HIN.out.nm)
 have HO1:Hid (OwnC B w1 a1 n1 c1 a2 n2 c2 a3 n3 c3 (mkPs k n1) sl pv vs bs):=O1
 have M2:=markGoneS_any B (S2 a2 n2 sl) a2 n2 c2 p sl pv vs w1 O1.en hn2 HS.out hp0 HK.out (fun g e hp=>.inl ⟨hp,e⟩) (fun j hj g e hp=>.inr ⟨j,hj,hp,e⟩)
 rw [← HQ.out] at M2
 have x7:w1.cell? ⟨w.heap.size,7,none⟩=some (.slice a2 n2 c2):=qk b1 rfl
 have HB1:Hid (w1.heap[w.heap.size]? = _):=b1
 clear M1 ho1 ht1 HO0 O1 b1 HT0 HB0 x0 hz0
 go_wp2_with fail
 refine M2.mono ?_
 rintro e w2 ⟨rfl,ho2,ht2⟩
 have O2:=HO1.out.step2 ho2 ht2
 have b2:=(ht2.block w.heap.size hz1 (by
  rintro (⟨hp,e⟩ | ⟨j,hj,hp,e⟩)
  ·have:=(HIC.out.en _ e hp).2; omega
  ·have:=(HIC.out.each j hj _ e hp).2; omega)).trans HB1.out
 have HT2:Hid (TouchS S w w2):=HT1.out.trans (ht2.mono (by
  rintro i (⟨hp,e⟩ | ⟨j,hj,hp,e⟩)
  ·exact HIN.out.en _ e hp
  ·exact HIN.out.each j hj _ e hp))
 have HO2:Hid (OwnC B w2 a1 n1 c1 a2 n2 c2 a3 n3 c3 (mkPs k n1) sl (mkP sl p pv n2) (mkV sl p vs n2) bs):=O2
 have M3:=markByteS_big B a3 n3 c3 q bs w2 O2.sg (by omega) (by omega)
 have x8:w2.cell? ⟨w.heap.size,8,none⟩=some (.slice a3 n3 c3):=qk b2 rfl
 clear M2 ho2 ht2 HO1 O2 b2 HT1 HB1 x7 hz1
 go_wp2_with fail
 refine M3.mono ?_
 rintro e w3 ⟨rfl,ho3,hg3⟩
 have ht3:=touchS_grown hg3 (ownsRow_ownBlock HO2.out.sg.row)
 have HO3:Hid (OwnC B w3 a1 n1 c1 a2 n2 c2 a3 n3 c3 (mkPs k n1) sl (mkP sl p pv n2) (mkV sl p vs n2) (marks q n3)):=HO2.out.step3 ho3 ht3
 have HT3:Hid (TouchS S w w3):=HT2.out.trans (ht3.mono (fun i e=>HIN.out.sg i e))
 clear M3 ho3 hg3 ht3 HO2 HT2
 go_wp2
 go_ret
 exact ⟨rfl,HO3.out,HT3.out⟩
theorem heldCrl_any (B:Nat)(a1:Option Addr)(n1 c1:Nat)(a2:Option Addr)(n2 c2:Nat)(a3:Option Addr)(n3 c3:Nat)(x:CP)(sl:Nat→Sl)(pv:Nat→List Value)(vs:List Value)(k:Nat)(w:World)(h:OwnC B w a1 n1 c1 a2 n2 c2 a3 n3 c3 (mkPs k n1) sl (mkP sl (k+2 * n1) pv n2) (mkV sl (k+2 * n1) vs n2) (marks (nxQ sl (k+2 * n1) n2) n3))
  (hn1:n1≤1048576) (hn2:n2≤1048576) (hn3:n3≤1048576) (hs:∀ j,j<n2→(sl j).2.1≤1048576) (h0:0<k) (hk:nxQ sl (k+2 * n1) n2≤2000000000000000) :
  Calls Tryz.prog 12 #[crv a1 n1 c1 a2 n2 c2 a3 n3 c3 x,.int .i64 k] w fun e w'=>e=.returned (.int .i64 (nxQ sl (k+2 * n1) n2+n3:Nat))∧Below w.heap.size w w':=by
 unfold crv
 have hk1:k+2 * n1≤2000000000000000:=Nat.le_trans (nxQ_le sl (k+2 * n1) (Nat.zero_le n2)) hk
 obtain ⟨W0,hW0⟩:∃ W0,W0=w.alloc (.cells #[.slice a1 n1 c1,.int .i64 x.num,.int .i64 x.base,.int .i64 x.tm,.int .i64 x.next,.int .i64 x.scope,.bool x.ind,.slice a2 n2 c2,.slice a3 n3 c3] 38):=⟨_,rfl⟩
 have hB0:Below w.heap.size w W0:=by rw [hW0]; exact (Below.refl _ _).alloc (Nat.le_refl _) _
 have b0:W0.heap[w.heap.size]? = some (.cells #[.slice a1 n1 c1,.int .i64 x.num,.int .i64 x.base,.int .i64 x.tm,.int .i64 x.next,.int .i64 x.scope,.bool x.ind,.slice a2 n2 c2,.slice a3 n3 c3] 38 (0,0)):=by rw [hW0]; exact heap_alloc_new w _
 have hz0:w.heap.size<W0.heap.size:=(Array.getElem?_eq_some_iff.1 b0).1
 have HW:Hid (_=_):=hW0
 have O0:=h.below hB0
 have M1:=heldName_q B a1 n1 c1 k W0 O0.nm hn1 h0 (by omega)
 have x0:W0.cell? ⟨w.heap.size,0,none⟩=some (.slice a1 n1 c1):=qk b0 rfl
 have x7:W0.cell? ⟨w.heap.size,7,none⟩=some (.slice a2 n2 c2):=qk b0 rfl
 have x8:W0.cell? ⟨w.heap.size,8,none⟩=some (.slice a3 n3 c3):=qk b0 rfl
 obtain ⟨p,hp⟩:∃ p,p=k+2 * n1:=⟨_,rfl⟩
 rw [← hp] at M1 hk hk1 O0
 rw [← hp]
 have hp0:0<p:=by omega
 have HO0:Hid (OwnC B W0 a1 n1 c1 a2 n2 c2 a3 n3 c3 (mkPs k n1) sl (mkP sl p pv n2) (mkV sl p vs n2) (marks (nxQ sl p n2) n3)):=O0
 have M2:Hid (∀ W,Below W0.heap.size W0 W→Calls Tryz.prog 34 #[.slice a2 n2 c2,.int .i64 p] W fun e w'=>e=.returned (.int .i64 (nxQ sl p n2:Nat))∧Below W.heap.size W w'):=fun W hW=>heldGoneS_any B a2 n2 c2 p sl pv vs W (HO0.out.below hW).en hn2 hs hp0 hk
 obtain ⟨q,hq⟩:∃ q,q=nxQ sl p n2:=⟨_,rfl⟩
 rw [← hq] at M2 HO0 hk
 rw [← hq]
 have hpn:¬ ((p:Int)<0):=by omega
 have hqn:¬ ((q:Int)<0):=by omega
 have hqm:¬ (((q+n3:Nat):Int)<0):=by omega
 have M3:Hid (∀ W,Below W0.heap.size W0 W→Calls Tryz.prog 35 #[.slice a3 n3 c3,.int .i64 q] W fun e w'=>e=.returned (.int .i64 (q+n3:Nat))∧w'=W):=fun W hW=>heldByteS_big a3 n3 c3 q W (HO0.out.below hW).sg.toRow (by omega) (by omega)
 obtain ⟨r,hr⟩:∃ r,r=q+n3:=⟨_,rfl⟩
 rw [← hr] at M3 hqm
 rw [← hr]
 clear hW0 h O0 hp hq hr b0 HO0 hs
 go_enter Tryz.func12,Tryz.ntmps12
 go_upto_region 1 with fail
 rw [← HW.out]
 clear HW
 go_wp2_with fail
 refine M1.mono ?_
 rintro e w1 ⟨rfl,hb1⟩
 have y7:=(hb1.cell (p:=⟨w.heap.size,7,none⟩) hz0).trans x7
 have y8:=(hb1.cell (p:=⟨w.heap.size,8,none⟩) hz0).trans x8
 have hz1:w.heap.size<w1.heap.size:=Nat.lt_of_lt_of_le hz0 hb1.size
 have HB1:Hid (Below W0.heap.size W0 w1):=hb1
 clear M1 x0 x7 x8 hb1
 go_wp2_with fail
 refine (M2.out _ HB1.out).mono ?_
 rintro e w2 ⟨rfl,hb2⟩
 have z8:=(hb2.cell (p:=⟨w.heap.size,8,none⟩) hz1).trans y8
 have HB2:Hid (Below W0.heap.size W0 w2):=HB1.out.trans (hb2.mono HB1.out.size)
 clear M2 y7 y8 hb2
 go_wp2_with fail
 refine (M3.out _ HB2.out).mono ?_
 rintro e w3 ⟨rfl,hw3⟩
 have hw3':=hw3.symm
 subst hw3'
 have HB3:Hid (Below w.heap.size w w2):=hB0.trans (HB2.out.mono hB0.size)
 clear M3 z8
 go_wp2
 go_ret
 exact ⟨rfl,HB3.out⟩
open Go Go.RowKit
theorem od {p:Prop}[Decidable p](h:decide p=true):p:=of_decide_eq_true h
theorem RI.pu {S:RSpec}{D:List Nat}{B:Nat}{w0:World}{a0:Act}{l:Nat→Bool}{a:Act}{w:World}(h:RI S D B w0 a0 l a w)(i d:Nat){n:Nat}{v:Value}{w':World}(hz:a0.tmps.size=n)(hli:l i=false)(hB:B≤w0.heap.size)(hst:∀ k,k<S.n→StB (S.fact k))(hb:Below w.heap.size w w')(hf:S.fact i v w')(hok:((S.pre i).isEmpty && D.contains d && Nat.blt d n && (S.slot i == d) && S.free i d)=true:=by rfl):RI S D B w0 a0 (upd l i) (a.put (some d) v) w':=by
 simp only [Bool.and_eq_true,beq_iff_eq,List.isEmpty_iff] at hok
 obtain ⟨⟨⟨⟨h1,h2⟩,h3⟩,h4⟩,h5⟩:=hok
 exact h.put i d h1 h2 (by rw [hz]; exact Eq.mp Nat.blt_eq h3) h4 hli h5 hB hst hb hf
theorem RI.ge {S:RSpec}{D:List Nat}{B:Nat}{w0:World}{a0:Act}{l:Nat→Bool}{a:Act}{w:World}(h:RI S D B w0 a0 l a w)(k:Nat){o:Oper}(he:∀ e∈o.after,Region.binds .any e=true→l e.on=true)(hok:(Nat.blt k S.n && (S.kill k).isEmpty)=true:=by rfl)(hj:(o.after.toList.any fun e=>Region.binds .any e && (e.on == k))=true:=by kernel_rfl):S.fact k (aT a (S.slot k)) w:=by
 simp only [Bool.and_eq_true,List.isEmpty_iff] at hok
 exact h.got k (Eq.mp Nat.blt_eq hok.1) (edge he k hj) hok.2
theorem RI.ge1 {S:RSpec}{D:List Nat}{B:Nat}{w0:World}{a0:Act}{l:Nat→Bool}{a:Act}{w:World}(h:RI S D B w0 a0 l a w)(k i:Nat){o:Oper}(he:∀ e∈o.after,Region.binds .any e=true→l e.on=true)(hli:l i=false)(hok:(Nat.blt k S.n && (S.kill k == [i]))=true:=by rfl)(hj:(o.after.toList.any fun e=>Region.binds .any e && (e.on == k))=true:=by kernel_rfl):S.fact k (aT a (S.slot k)) w:=by
 simp only [Bool.and_eq_true,beq_iff_eq] at hok
 exact h.got1 k i (Eq.mp Nat.blt_eq hok.1) (edge he k hj) hli hok.2
theorem RI.vo {S:RSpec}{D:List Nat}{B:Nat}{w0:World}{a0:Act}{l:Nat→Bool}{a:Act}{w:World}(h:RI S D B w0 a0 l a w)(k:Nat)(hok:(Nat.blt k S.n && Nat.ble S.m k && (S.kill k).isEmpty)=true:=by rfl):S.fact k (aT a (S.slot k)) w:=by
 simp only [Bool.and_eq_true,List.isEmpty_iff] at hok
 exact h.vot k (Eq.mp Nat.blt_eq hok.1.1) (Nat.le_of_ble_eq_true hok.1.2) hok.2
theorem opw_c1 {P : Program} {Q : Exit → Act → World → Prop} {o : Oper} {a : Act} {w : World} {K : Act → World → Prop} (f : FuncId) (x0 : Nat) {ats : Array TypeId} {fn : Func} {c : Code} {v0 : Value} (hf : P.funcs[f]? = some fn) (h0 : aT a x0 = v0) (h : Calls P f #[v0] w fun e w2 => ∃ v, e = .returned v ∧ K (a.put o.dst v) w2) (ho : o.op = .call { callee := .value (.func f), args := #[.tmp x0], argTypes := ats } := by rfl) (hn : (fn.name == "runtime.NumGoroutine") = false := by kernel_rfl) (hb : fn.body = some c := by rfl) : o.wp P a w K Q :=
 opw_call f _ ats fn c ho hf hn hb _ (by simp [ev,h0]) h
theorem opw_c2 {P : Program} {Q : Exit → Act → World → Prop} {o : Oper} {a : Act} {w : World} {K : Act → World → Prop} (f : FuncId) (x0 x1 : Nat) {ats : Array TypeId} {fn : Func} {c : Code} {v0 v1 : Value} (hf : P.funcs[f]? = some fn) (h0 : aT a x0 = v0) (h1 : aT a x1 = v1) (h : Calls P f #[v0, v1] w fun e w2 => ∃ v, e = .returned v ∧ K (a.put o.dst v) w2) (ho : o.op = .call { callee := .value (.func f), args := #[.tmp x0, .tmp x1], argTypes := ats } := by rfl) (hn : (fn.name == "runtime.NumGoroutine") = false := by kernel_rfl) (hb : fn.body = some c := by rfl) : o.wp P a w K Q :=
 opw_call f _ ats fn c ho hf hn hb _ (by simp [ev,h0,h1]) h
theorem vt1 {m:Nat}{p:Nat→Prop}(h100:p (m+0)):∀ k,m≤k→k<m+1→p k:=fun k h h2=>by
 rcases (by omega:k=m+0) with rfl
 ·exact h100
theorem vt2 {m:Nat}{p:Nat→Prop}(h100:p (m+0))(h101:p (m+1)):∀ k,m≤k→k<m+2→p k:=fun k h h2=>by
 rcases (by omega:k=m+0∨k=m+1) with rfl | rfl
 ·exact h100
 ·exact h101
theorem vt3 {m:Nat}{p:Nat→Prop}(h100:p (m+0))(h101:p (m+1))(h102:p (m+2)):∀ k,m≤k→k<m+3→p k:=fun k h h2=>by
 rcases (by omega:k=m+0∨k=m+1∨k=m+2) with rfl | rfl | rfl
 ·exact h100
 ·exact h101
 ·exact h102
theorem vt5 {m:Nat}{p:Nat→Prop}(h100:p (m+0))(h101:p (m+1))(h102:p (m+2))(h103:p (m+3))(h104:p (m+4)):∀ k,m≤k→k<m+5→p k:=fun k h h2=>by
 rcases (by omega:k=m+0∨k=m+1∨k=m+2∨k=m+3∨k=m+4) with rfl | rfl | rfl | rfl | rfl
 ·exact h100
 ·exact h101
 ·exact h102
 ·exact h103
 ·exact h104
open Go.RowKit
theorem l8SigBytes_any (leaf:Int)(a1:Option Addr)(n1 c1:Nat)(es:List Int)(a2:Option Addr)(n2 c2:Nat)(ps:List Int)(w:World)(hl:leaf≤9223372036854775807)(h1:RowU w a1 n1 es)(h2:RowU w a2 n2 ps)(hn1:n1≤1000)(hn2:n2≤1000) :
  Calls Tryz.prog 49 #[tsv leaf a1 n1 c1 a2 n2 c2] w fun e w'=>∃ a cap,e=.returned (.slice a ((putI leaf).length+8 * n1+8 * n2) cap)∧Own w.heap.size w' a ((putI leaf).length+8 * n1+8 * n2) cap (putI leaf++flatL es++flatL ps)∧Below w.heap.size w w':=by
 obtain ⟨i0,hi,hz0,hz1,hz2⟩:=info_parts Tryz.info5
 obtain ⟨w1,hw1⟩:∃ w1,w1=w.alloc (.cells #[.int .i64 leaf,.slice a1 n1 c1,.slice a2 n2 c2] 85):=⟨_,rfl⟩
 have hbb:Below w.heap.size w w1:=by rw [hw1]; exact (Below.refl _ _).alloc (Nat.le_refl _) _
 have HG:Hid (w1.heap[w.heap.size]? = some (.cells #[.int .i64 leaf,.slice a1 n1 c1,.slice a2 n2 c2] 85)):=by show _=_; rw [hw1]; exact heap_alloc_new w _
 have hlw:w.heap.size<w1.heap.size:=(Array.getElem?_eq_some_iff.1 HG.out).1
 have HX:Hid (∀ W,Below w1.heap.size w1 W→W.cell? ⟨w.heap.size,0,none⟩=some (.int .i64 leaf)∧W.cell? ⟨w.heap.size,1,none⟩=some (.slice a1 n1 c1)∧W.cell? ⟨w.heap.size,2,none⟩=some (.slice a2 n2 c2)):=fun W hW=>cells3' ((hW.block _ hlw).trans HG.out)
 have HW:Hid (_=_):=hw1
 have H1:Hid (∀ W,Below w1.heap.size w1 W→RowU W a1 n1 es):=fun W hW=>h1.kept (keepT hbb hW)
 have H2:Hid (∀ W,Below w1.heap.size w1 W→RowU W a2 n2 ps):=fun W hW=>h2.kept (keepT hbb hW)
 have HL1:Hid (es.length=n1):=h1.len
 have HL2:Hid (ps.length=n2):=h2.len
 clear hw1 h1 h2
 have hpl:=putI_len leaf hl
 rw [tsv]
 go_enter Tryz.func49,Tryz.ntmps49
 go_upto_region 1 with fail
 rw [← HW.out]
 clear HW
 obtain ⟨g0,g1,g2⟩:=HX.out _ (Below.refl _ _)
 go_wp2_with fail
 refine (specPutNum_any leaf _ hl).mono ?_
 rintro e w2 ⟨a7,c7,rfl,ho7,hb7⟩
 clear g0 g1 g2
 have HO0:Hid (Own w1.heap.size w2 a7 ((putI leaf).length+8 * 0) c7 (putI leaf++flatL (es.take 0))):=by
  show Own _ _ _ _ _ _
  simpa [flatL] using ho7
 clear ho7
 go_wp2
 go_loopw [3,4] (fun o i wr=>∃ (j cc:Nat) (ao:Option Addr),j≤n1∧i=.int .i64 j∧o=.slice ao ((putI leaf).length+8 * j) cc∧Own w1.heap.size wr ao ((putI leaf).length+8 * j) cc (putI leaf++flatL (es.take j))∧Below w1.heap.size w1 wr) (fun _ i _=>n1 - (intOf i).toNat)
 case atStart=>exact ⟨0,c7,a7,by omega,rfl,rfl,HO0.out,hb7⟩
 case round =>
  obtain ⟨j,cc,ao,hj,rfl,rfl,hor,hbr⟩:=hrel
  have hszr:=hbr.size
  obtain ⟨g0,g1,g2⟩:=HX.out _ hbr
  by_cases hlt:j<n1
  ·have hlti:(j:Int)<(n1:Int):=by omega
   obtain ⟨b,off,rfl,hlb,hc0⟩:=(H1.out _ hbr).get j hlt
   have hzb:=(H1.out _ hbr).rng j
   obtain ⟨z,hz⟩:∃ z,z=es.getD j 0:=⟨_,rfl⟩
   have HNX:Hid (flatL (es.take (j+1))=flatL (es.take j)++eightI z):=by show _=_; rw [hz]; exact flatL_next es j (by rw [HL1.out]; exact hlt)
   rw [← hz] at hc0 hzb
   have HOR:Hid (_):=hor
   clear hz hor
   go_wp2_with fail
   refine (l1Eight_any z _ hzb.1 hzb.2).mono ?_
   rintro e wd ⟨ad,cd,rfl,hrd,hbd⟩
   have hod:=HOR.out.kept hbd
   have hcd:=keepT hbr hbd
   have hszd:=hcd.size
   clear hc0 g0 g1 g2
   go_wp2_with (first | (refine wpList_append_row _ rfl _ _ 26 rfl w1.heap.size i0 Tryz.underlying26 hi hz0 hz1 hz2 _ ((putI leaf).length+8 * j) _ rfl hod.row ad 8 cd (eightI z) rfl hrd.toRow hrd.nil (by omega) hszd ?_; intro v4 w4 hv4 hg4))
   have hbr4:Below w1.heap.size w1 w4:=below_appended hcd hszd hod.row hg4
   obtain ⟨a4,c4,rfl,ho4⟩:=own_appended hv4 hod.byte (eightI_byte z)
   rw [List.append_assoc,← HNX.out,Nat.add_assoc,show 8 * j+8=8 * (j+1) by omega] at ho4
   have HO4:Hid (_):=ho4
   have e8:(putI leaf).length+8 * j+8=(putI leaf).length+8 * (j+1):=by omega
   rw [e8]
   clear ho4 hv4 hg4 hod
   go_wp2
   go_roundw
   case rel=>exact ⟨j+1,c4,a4,by omega,by go_num,rfl,HO4.out,hbr4⟩
   case measure=>simp [intOf]; omega
  ·obtain rfl:j=n1:=by omega
   have hnl:¬ ((j:Int)<(j:Int)):=by omega
   have HO1:Hid (Own w1.heap.size wr ao ((putI leaf).length+8 * j+8 * 0) cc (putI leaf++flatL es++flatL (ps.take 0))):=by
    show Own _ _ _ _ _ _
    rw [List.take_of_length_le (by rw [HL1.out]; exact Nat.le_refl _)] at hor
    simpa [flatL] using hor
   clear hor
   go_wp2
   go_loopw [3,5] (fun o i wr=>∃ (q cc:Nat) (ao:Option Addr),q≤n2∧i=.int .i64 q∧o=.slice ao ((putI leaf).length+8 * j+8 * q) cc∧Own w1.heap.size wr ao ((putI leaf).length+8 * j+8 * q) cc (putI leaf++flatL es++flatL (ps.take q))∧Below w1.heap.size w1 wr) (fun _ i _=>n2 - (intOf i).toNat)
   case atStart=>exact ⟨0,cc,ao,by omega,rfl,rfl,HO1.out,hbr⟩
   case round =>
    obtain ⟨q,cq,aq,hq,rfl,rfl,hor,hbq⟩:=hrel
    have hszq:=hbq.size
    clear g0 g1 g2
    obtain ⟨g0,g1,g2⟩:=HX.out _ hbq
    by_cases hlt2:q<n2
    ·have hlti:(q:Int)<(n2:Int):=by omega
     obtain ⟨b,off,rfl,hlb,hc0⟩:=(H2.out _ hbq).get q hlt2
     have hzb:=(H2.out _ hbq).rng q
     obtain ⟨z,hz⟩:∃ z,z=ps.getD q 0:=⟨_,rfl⟩
     have HNX:Hid (flatL (ps.take (q+1))=flatL (ps.take q)++eightI z):=by show _=_; rw [hz]; exact flatL_next ps q (by rw [HL2.out]; exact hlt2)
     rw [← hz] at hc0 hzb
     have HOR:Hid (_):=hor
     clear hz hor
     go_wp2_with fail
     refine (l1Eight_any z _ hzb.1 hzb.2).mono ?_
     rintro e wd ⟨ad,cd,rfl,hrd,hbd⟩
     have hod:=HOR.out.kept hbd
     have hcd:=keepT hbq hbd
     have hszd:=hcd.size
     clear hc0 g0 g1 g2
     go_wp2_with (first | (refine wpList_append_row _ rfl _ _ 26 rfl w1.heap.size i0 Tryz.underlying26 hi hz0 hz1 hz2 _ ((putI leaf).length+8 * j+8 * q) _ rfl hod.row ad 8 cd (eightI z) rfl hrd.toRow hrd.nil (by omega) hszd ?_; intro v4 w4 hv4 hg4))
     have hbr4:Below w1.heap.size w1 w4:=below_appended hcd hszd hod.row hg4
     obtain ⟨a4,c4,rfl,ho4⟩:=own_appended hv4 hod.byte (eightI_byte z)
     rw [List.append_assoc,← HNX.out,Nat.add_assoc,show 8 * q+8=8 * (q+1) by omega] at ho4
     have HO4:Hid (_):=ho4
     have e8:(putI leaf).length+8 * j+8 * q+8=(putI leaf).length+8 * j+8 * (q+1):=by omega
     rw [e8]
     clear ho4 hv4 hg4 hod
     go_wp2
     go_roundw
     case rel=>exact ⟨q+1,c4,a4,by omega,by go_num,rfl,HO4.out,hbr4⟩
     case measure=>simp [intOf]; omega
    ·obtain rfl:q=n2:=by omega
     have hnl2:¬ ((q:Int)<(q:Int)):=by omega
     have HO2:Hid (Own w1.heap.size wr aq ((putI leaf).length+8 * j+8 * q) cq (putI leaf++flatL es++flatL ps)):=by
      show Own _ _ _ _ _ _
      rw [List.take_of_length_le (by rw [HL2.out]; exact Nat.le_refl _)] at hor
      exact hor
     clear hor
     go_wp2
     go_ret
     exact ⟨_,_,rfl,by rw [← List.append_assoc]; exact HO2.out.mono hbb.size,keepT hbb hbq⟩
open Go.RowKit
theorem numberItem_agg (n:Int)(w:World)(h0 : -9223372036854775808≤n)(h1:n≤9223372036854775807) :
  Calls Tryz.prog 68 #[.int .i64 n] w fun e w'=>∃ g k,e=.returned (.agg #[.int .i64 0,.int .i64 2,.bool false,.slice (some ⟨g,k,none⟩) (wsz n) (wsz n),.slice none 0 0])∧w.heap.size≤g∧Row w' (some ⟨g,k,none⟩) (wsz n) (wbL n)∧Below w.heap.size w w':=numberItem_any n w h0 h1
theorem ownItem_agg (tag:Int)(a:Option Addr)(n c:Nat)(w:World) :
  Calls Tryz.prog 66 #[.int .i64 tag,.slice a n c] w fun e w'=>e=.returned (.agg #[.int .i64 1,.int .i64 tag,.bool true,.slice none 0 0,.slice a n c])∧Below w.heap.size w w':=ownItem_any tag a n c [] w
theorem l9Num_agg (n:Int)(w:World):Calls Tryz.prog 52 #[.int .i64 n] w fun e w'=>∃ a c,e=.returned (.agg #[.int .i64 0,.int .i64 2,.bool false,.slice a (wsz n) c,.slice none 0 0])∧Own (w.heap.size+1) w' a (wsz n) c (wbL n)∧Below w.heap.size w w':=l9Num_any n w
theorem l9Bytes_agg (a:Option Addr)(n c:Nat)(bs:List Int)(w:World)(h:Row w a n bs)(hc:a=none→c=0)(hn:n≤1000):Calls Tryz.prog 95 #[.slice a n c] w fun e w'=>∃ a c,e=.returned (.agg #[.int .i64 0,.int .i64 4,.bool false,.slice a n c,.slice none 0 0])∧Own (w.heap.size+1) w' a n c bs∧Below w.heap.size w w':=l9Bytes_any a n c bs w h hc hn
open Go.RowKit Go.Maps
def ko1 (an:Option Addr)(nn cn:Nat)(y:GP)(G B:Nat):RSpec where
 m:=7
 n:=9
 slots:=[3,4,5,6,7,8,100006,100007,100008]
 kills:=[[],[],[],[],[],[],[],[],[6]]
 pres:=[[],[],[],[],[],[],[],[],[]]
 fact:=fun k v w=>match k with
  | 0=>v=.pointer (some ⟨G,0,none⟩)
  | 1=>v=.agg #[.slice an nn cn]
  | 2=>v=.string (ftS y.parts)
  | 3=>v=.pointer (some ⟨G,1,none⟩)
  | 4=>v=.int .i64 y.ser
  | 5=>v=.agg #[.string (ftS y.parts),.int .i64 y.ser]
  | 6=>w.heap[(G+1)]? = some (.cells #[.string (ftS y.parts),.int .i64 y.ser] 164 (0,0))
  | 7=>w.heap[G]? = some (.cells #[.slice an nn cn,.int .i64 y.ser,.int .i64 y.tm,.int .i64 y.rs] 74 (0,0))
  | _=>w.heap[(G+1)]? = some (.cells #[.string { data:=#[] },.int .i64 0] 164 (0,0))
theorem ko1_stb (an:Option Addr)(nn cn:Nat)(y:GP)(G B:Nat)(k:Nat)(hk:k<9):StB ((ko1 an nn cn y G (B)).fact k):=by
 match k,hk with
 | 0,_=>exact fun _ _ _ h _=>h
 | 1,_=>exact fun _ _ _ h _=>h
 | 2,_=>exact fun _ _ _ h _=>h
 | 3,_=>exact fun _ _ _ h _=>h
 | 4,_=>exact fun _ _ _ h _=>h
 | 5,_=>exact fun _ _ _ h _=>h
 | 6,_=>exact fun _ _ _ q_0 hb=>below_kept q_0 hb
 | 7,_=>exact fun _ _ _ q_0 hb=>below_kept q_0 hb
 | 8,_=>exact fun _ _ _ q_0 hb=>below_kept q_0 hb
 | k+9,hk=>omega
theorem ko1_st6 (an:Option Addr)(nn cn:Nat)(y:GP)(G B:Nat){W W2:World}{cs:Array Value}{fr:Nat × Nat}(hg:W.heap[(G+1)]? = some (.cells cs 164 fr))(ht:Touch ((G+1)) ((G+1)+1) W W2)(k:Nat)(hk:k<9)(hne:k≠6)(hkill:6∉(ko1 an nn cn y G (B)).kill k)(v:Value)(hfact:(ko1 an nn cn y G (B)).fact k v W):(ko1 an nn cn y G (B)).fact k v W2:=by
 match k,hk,hne,hkill,hfact with
 | 0,_,_,_,hq=>exact hq
 | 1,_,_,_,hq=>exact hq
 | 2,_,_,_,hq=>exact hq
 | 3,_,_,_,hq=>exact hq
 | 4,_,_,_,hq=>exact hq
 | 5,_,_,_,hq=>exact hq
 | 6,_,hne,_,_=>exact absurd rfl hne
 | 7,_,_,_,q_0=>exact box_box q_0 hg (by decide) ht
 | 8,_,_,hkill,_=>exact absurd (List.Mem.head _) hkill
 | k+9,hk,_,_,_=>omega
theorem goneKey_any (an : Option Addr) (nn cn : Nat) (y : GP) (w : World) (htab : Lib.TabIs Tryz.prog w "internal/strconv.uint64pow10" .u64 Lib.pow10Tab) (h : Pts w an nn y.parts) (hp : nameP y.parts) :
  Calls Tryz.prog 126 #[gov an nn cn y] w fun e w'=>e=.returned (.agg #[.string (ftS y.parts),.int .i64 y.ser])∧Below w.heap.size w w':=by
 unfold gov
 obtain ⟨W0,hW0⟩:∃ W0,W0=(w.alloc (.cells #[.slice an nn cn,.int .i64 y.ser,.int .i64 y.tm,.int .i64 y.rs] 74)).alloc (.cells #[.string { data:=#[] },.int .i64 0] 164):=⟨_,rfl⟩
 have hB0:Below w.heap.size w W0:=by rw [hW0]; exact two_below _ _ _
 have b0:=two_blocks w (.cells #[.slice an nn cn,.int .i64 y.ser,.int .i64 y.tm,.int .i64 y.rs] 74) (.cells #[.string { data:=#[] },.int .i64 0] 164)
 rw [← hW0] at b0
 have HFT:Hid (∀ W,Below w.heap.size W0 W→Calls Tryz.prog 139 #[.agg #[.slice an nn cn]] W fun e w'=>e=.returned (.string (ftS y.parts))∧Below W.heap.size W w'):=fun W hW=>foldedText_any an nn cn y.parts W (Lib.tabBelow_of_tabIs htab W (hB0.trans hW)) (h.kept (hB0.trans hW)) hp
 have HW:Hid (_=_):=hW0
 have HBB:w.heap.size≤W0.heap.size:=hB0.size
 clear hW0 htab h hp
 go_enter Tryz.func126,Tryz.ntmps126
 go_upto_region 1 with fail
 rw [← HW.out]
 clear HW
 have stb:=ko1_stb an nn cn y w.heap.size (w.heap.size)
 refine wp_region_ri (ko1 an nn cn y w.heap.size (w.heap.size)) [3,4,5,6,7,8] (w.heap.size) (fun a0=>a0.tmps.size=9∧aT a0 1=.pointer (some ⟨w.heap.size,0,none⟩)∧aT a0 2=.pointer (some ⟨(w.heap.size+1),0,none⟩)) (by kernel_rfl) rfl (by kernel_rfl) rfl ⟨rfl,rfl,rfl⟩ stb ?_ ?_ ?_
 ·exact vt2 (m:=7) (b0.1) (b0.2)
 ·rintro a0 ⟨hz,g1,g2⟩
  refine StepsRI.cons ?_ (StepsRI.cons ?_ (StepsRI.cons ?_ (StepsRI.cons ?_ (StepsRI.cons ?_ (StepsRI.cons ?_ (StepsRI.cons ?_ (StepsRI.nil)))))))
  all_goals intro lQ b W hI hUN hED KQ hKQ
  ·exact opw_field 74 1 0 rfl _ ((hI.fr.same 1 (by decide)).trans g1) _ (by kernel_rfl) (hKQ.out _ _ (hI.pu 0 3 hz hUN HBB stb (Below.refl _ _) rfl))
  ·have f:aT b 3=.pointer (some ⟨w.heap.size,0,none⟩):=hI.ge 0 hED
   have hg:=hI.vo 7
   have hc:W.cell? ⟨w.heap.size,0,none⟩=some (.slice an nn cn):=qk hg rfl
   exact opw_load1 35 3 rfl _ f (.agg #[.slice an nn cn]) (by simp [Instr.loadAt,go_sem,hc]) (hKQ.out _ _ (hI.pu 1 4 hz hUN HBB stb (Below.refl _ _) rfl))
  ·have f0:=hI.ge 1 hED
   replace f0:aT b 4=_:=f0
   refine opw_c1 139 4 Tryz.func139 f0 ?_
   refine (HFT.out W hI.bel).mono ?_
   rintro e W2 ⟨rfl,hb⟩
   exact ⟨_,rfl,hKQ.out _ _ (hI.pu 2 5 hz hUN HBB stb hb rfl)⟩
  ·exact opw_field 74 1 1 rfl _ ((hI.fr.same 1 (by decide)).trans g1) _ (by kernel_rfl) (hKQ.out _ _ (hI.pu 3 6 hz hUN HBB stb (Below.refl _ _) rfl))
  ·have f:=hI.ge 3 hED
   have hg:=(hI.vo 7)
   have hc:W.cell? ⟨w.heap.size,1,none⟩=some (.int .i64 y.ser):=qk hg rfl
   exact opw_load1 2 6 rfl _ f _ (by simp [Instr.loadAt,go_sem,hc]) (hKQ.out _ _ (hI.pu 4 7 hz hUN HBB stb (Below.refl _ _) rfl))
  ·have f0:=hI.ge 2 hED
   replace f0:aT b 5=_:=f0
   have f1:=hI.ge 4 hED
   replace f1:aT b 7=_:=f1
   refine opw_build 164 _ rfl #[(0,.string (ftS y.parts)),(1,.int .i64 y.ser)] (by simp [ev,f0,f1]) (.agg #[.string (ftS y.parts),.int .i64 y.ser]) (by kernel_rfl) ?_
   exact hKQ.out _ _ (hI.pu 5 8 hz hUN HBB stb (Below.refl _ _) rfl)
  ·have hgb:=(hI.vot1 8 6 (od rfl) (od rfl) hUN rfl)
   have fb:=((hI.fr.same 2 (by decide)).trans g2)
   have f:=hI.ge 5 hED
   refine wp_store_row 164 _ _ rfl ((w.heap.size+1)) _ fb f 164 _ hgb (by kernel_rfl) rfl (by simp [Value.oneCell']) ?_
   have ht:=setRow_touch W ((w.heap.size+1)) #[.string (ftS y.parts),.int .i64 y.ser]
   exact hKQ.out _ _ (hI.store 6 (fun j hj=>by cases hj) (hI.bel.trans (ht.below (by first | exact HGE2 | omega) (Nat.le_trans HBB hI.bel.size))) (ko1_st6 an nn cn y w.heap.size (w.heap.size) hgb ht) (setRow_heap W ((w.heap.size+1)) _ _ _ _ hgb))
 ·intro b W hf hb F
  clear stb
  have hk:=F 6 (od rfl) rfl
  rw [hf.eq]
  simp only [puts,Act.put,List.setIfInBounds_toArray,List.set_cons_zero,List.set_cons_succ]
  clear hf F
  have hK:W.heap[w.heap.size+1]? = some (.cells #[.string (ftS y.parts),.int .i64 y.ser] 164 (0,0)):=hk
  have HK:Hid (_=_):=hK
  clear hk hK
  go_wp2
  exact bodyPost_ret (results_cell_row (by rfl) _ _ (w.heap.size+1) _ _ (0,0) _ rfl HK.out Tryz.underlying164 rfl (by kernel_rfl)) rfl ⟨rfl,hB0.trans hb⟩
open Go.RowKit Go.Maps
theorem laidOutP:laidOutB Tryz.prog=true:=by kernel_rfl
theorem kRow:(164:TypeId)<Tryz.prog.types.size:=of_decide_eq_true (by kernel_rfl)
theorem kWide:(match Tryz.prog.underlying 164 with | some (.array _ _) | some (.struct _)=>true | _=>false)=true:=by rw [Tryz.underlying164]
set_option maxRecDepth 20000 in
theorem kLaw:Keyed Tryz.prog 164:=Keyed.of_law (deep_law_laid laidOutP (m:=2) (by omega) kRow (by kernel_rfl) kWide)
theorem kCells:Tryz.prog.cellsOf 164=2:=by kernel_rfl
theorem kCell2:Tryz.prog.cellsOf 2=1:=by kernel_rfl
theorem kCell9:Tryz.prog.cellsOf 9=1:=by kernel_rfl
theorem kType:Tryz.prog.keyType 164=true:=by kernel_rfl
theorem pos_succ {a n:Nat}(h:a<n):∃ m,n=m+1:=⟨n - 1,by omega⟩
set_option maxRecDepth 20000 in
theorem kSize:∃ m,Tryz.prog.types.size=m+1:=pos_succ (a:=164) kRow
def kl (s:ByteArray)(n:Int):Lit:=.string (keyBytes [.string s.data.toList,.int .i64 n])
theorem key_is {s:ByteArray}{n:Int}(hs:s.size≤maxLen)(hn:(Lit.int .i64 n).wf=true):Go.keyOf Tryz.prog 164 (.agg #[.string s,.int .i64 n])=some (kl s n):=by
 obtain ⟨m,hm⟩:=kSize
 unfold Go.keyOf
 rw [Tryz.underlying164]
 have hf:(Value.agg #[.string s,.int .i64 n]).formed Tryz.prog 164=true:=by simp [Value.formed,Tryz.underlying164,kCells]
 simp only [kType,hf,Bool.and_self,if_true]
 have h1:Tryz.prog.keyLits (m+1) 9 [.string s]=some [.string s.data.toList]:=by simp [Program.keyLits,Tryz.underlying9,hs]
 have h2:Tryz.prog.keyLits (m+1) 2 [.int .i64 n]=some [.int .i64 n]:=by simp [Program.keyLits,Tryz.underlying2,hn]
 have h3:Tryz.prog.keyLits (m+1+1) 164 [.string s,.int .i64 n]=some [.string s.data.toList,.int .i64 n]:=by
  unfold Program.keyLits
  simp only [Tryz.underlying164]
  simp [kCells,kCell2,kCell9,h1,h2]
 have hc:(Value.agg #[.string s,.int .i64 n]).cells.toList = [.string s,.int .i64 n]:=by simp [Value.cells]
 rw [hm,hc,h3]
 rfl
theorem key_inj {s t:ByteArray}{m n:Int}(hs:s.size≤maxLen)(ht:t.size≤maxLen)(hm:(Lit.int .i64 m).wf=true)(hn:(Lit.int .i64 n).wf=true)(h:kl s m=kl t n):s=t∧m=n:=by
 have h1:=key_is hs hm
 have h2:=key_is ht hn
 rw [h] at h1
 have:=kLaw.inj h1 h2
 simpa using this
theorem isKey {s:ByteArray}{n:Int}(hs:s.size≤maxLen)(hn:(Lit.int .i64 n).wf=true):WideAt.IsKeyLit (kl s n):=kLaw.key (key_is hs hn)
end Go.Proofs.YtnmplldhdfingaaGreatDoor
