import Derived.Test.YtbfjkmlmnhphoaaDoorGMJ1AP0
import Derived.Test.YtbfjkmlmnhphoaaDoorAP3
import Derived.Test.YtbfjkmlmnhphoaaDoorRK
import Derived.Test.YtbfjkmlmnhphoaaDoorGCC7MJ0
import Derived.Great.BuildSlice
set_option linter.unusedVariables false
namespace Go.Proofs.YtbfjkmlmnhphoaaDoor
open Go.RowKit Go.Sort

theorem gns_none {w : World} {a : Option Addr} {n : Nat} {xs : List GP} (h : Gns w a n xs) (e : a = none) : n = 0 := by
  rcases Nat.eq_zero_or_pos n with q | q
  · exact q
  · obtain ⟨b, off, _, _, _, e2, _⟩ := h.get 0 q
    rw [e] at e2
    cases e2
/-- Both answer the same. -/
theorem ap_out {x y : CP} {n1 n2 n3 m1 m2 m3 : Nat} (hz : CpOk n1 n2 n3 x) (hz' : CpOk m1 m2 m3 y) (hl : x.ents.length = n2) (hl' : y.ents.length = m2) : ∃ z m n cd, CpOk m n 0 z ∧ (∀ w e w', ApS x y m1 w e w' → AnsS z m n cd w e w') ∧ (∀ w e w', ApI x y m1 w e w' → AnsI z m n cd w e w') := by
  obtain ⟨z, m, n, cd, hr⟩ := apR_ex x y m1
  refine ⟨z, m, n, cd, ?_, fun w e w' q => q _ _ _ _ hr, fun w e w' q => q _ _ _ _ hr⟩
  rcases hr with ⟨_, rfl, rfl, rfl, _⟩ | ⟨_, _, rfl, rfl, rfl, _⟩ | ⟨_, _, _, rfl, rfl, rfl, _⟩ | ⟨_, _, _, _, rfl, rfl, rfl, _⟩ | ⟨_, _, _, h4, rfl, rfl, rfl, _⟩
  · exact cpOk_zero
  · exact cpOk_zero
  · exact cpOk_zero
  · exact cpOk_zero
  · exact ⟨hz'.1, hz'.2.1, by omega, fun k hk => apl_ok (fun j hj => hz.2.2.2.1 j (hl ▸ hj)) (fun j hj => hz'.2.2.2.1 j (hl' ▸ hj)) k hk, by omega⟩
theorem specApplyDelta_g (a1 : Option Addr) (n1 : Nat) (a2 : Option Addr) (n2 : Nat) (a3 : Option Addr) (n3 : Nat) (x : CP) (b1 : Option Addr) (m1 : Nat) (b2 : Option Addr) (m2 : Nat) (b3 : Option Addr) (m3 : Nat) (y : CP) (w : World) (h : CrG w a1 n1 a2 n2 a3 n3 x) (h' : CrG w b1 m1 b2 m2 b3 m3 y) (hz : CpOk n1 n2 n3 x) (hz' : CpOk m1 m2 m3 y) :
    Calls Tryd.prog 16 #[crv a1 n1 n1 a2 n2 n2 a3 n3 n3 x, crv b1 m1 m1 b2 m2 m2 b3 m3 m3 y] w fun e w' => ApS x y m1 w e w' :=
  specApplyDelta_any a1 n1 n1 a2 n2 n2 a3 n3 n3 x b1 m1 m1 b2 m2 m2 b3 m3 m3 y w h.crs h'.crs hz hz' h'.caps.nm h'.caps.sg h.caps.en h'.caps.en
theorem implApplyDelta_g (a1 : Option Addr) (n1 : Nat) (a2 : Option Addr) (n2 : Nat) (a3 : Option Addr) (n3 : Nat) (x : CP) (b1 : Option Addr) (m1 : Nat) (b2 : Option Addr) (m2 : Nat) (b3 : Option Addr) (m3 : Nat) (y : CP) (w : World) (htab : Lib.TabIs Tryd.prog w "internal/strconv.uint64pow10" .u64 Lib.pow10Tab) (h : CrG w a1 n1 a2 n2 a3 n3 x) (h' : CrG w b1 m1 b2 m2 b3 m3 y) (hz : CpOk n1 n2 n3 x) (hz' : CpOk m1 m2 m3 y) (hsc : -9223372036854775808 ≤ x.scope ∧ x.scope ≤ 9223372036854775807) (hsc' : -9223372036854775808 ≤ y.scope ∧ y.scope ≤ 9223372036854775807) :
    Calls Tryd.prog 17 #[crv a1 n1 n1 a2 n2 n2 a3 n3 n3 x, crv b1 m1 m1 b2 m2 m2 b3 m3 m3 y] w fun e w' => ApI x y m1 w e w' :=
  implApplyDelta_any a1 n1 n1 a2 n2 n2 a3 n3 n3 x b1 m1 m1 b2 m2 m2 b3 m3 m3 y w htab h.crs h'.crs hz hz' hsc hsc' h'.caps.nm (gns_none h.crs.en) (gns_none h'.crs.en) h.caps.en h'.caps.en

end Go.Proofs.YtbfjkmlmnhphoaaDoor

set_option linter.unusedVariables false
namespace Go.Proofs.YtbfjkmlmnhphoaaDoor
open Go.RowKit

theorem opw_store1 {P : Program} {Q : Exit → Act → World → Prop} {o : Oper} {a : Act} {w : World} {K : Act → World → Prop} (ty : TypeId) (x y : Nat) (ho : o.op = .store ty (.tmp x) (.tmp y)) (ad : Addr) (v : Value) (hx : aT a x = .pointer (some ad)) (hy : aT a y = v) (w' : World)
    (hr : (Instr.storeAt ty (.pointer (some ad)) v).run P w = .ok () w') (h : K (a.put o.dst undef) w') : o.wp P a w K Q := by
  have hx' : a.eval (.tmp x) = .pointer (some ad) := hx
  have hy' : a.eval (.tmp y) = v := hy
  unfold Oper.wp execOp
  simp only [ho, hx', hy', Sem.run_bind, hr, Result.andThen_ok, Sem.run_pure]
  exact h
theorem evf (a : Act) (n : Nat) : a.eval (.func n) = .func (Fn.func n) #[] #[] := rfl
theorem RI.storel {S : RSpec} {D : List Nat} {B : Nat} {w0 : World} {a0 : Act} {l : Nat → Bool} {a : Act} {w : World} (h : RI S D B w0 a0 l a w) (i : Nat) {w' : World} (hpre : ∀ j ∈ S.pre i, l j = true)
    (hb : Below B w0 w') (hst : ∀ k, k < S.n → k ≠ i → l k = true → (∀ j ∈ S.kill k, l j = false) → i ∉ S.kill k → ∀ v, S.fact k v w → S.fact k v w') (hf : S.fact i (aT a (S.slot i)) w') : RI S D B w0 a0 (upd l i) (a.put none undef) w' := by
  refine ⟨h.fr, hb, fun k hk => upd_mono (h.vt k hk), fun k hk hl j hj => ?_, fun k hk hl hkill => ?_⟩
  · by_cases e : k = i
    · subst e
      exact upd_mono (hpre j hj)
    · rw [upd_ne e] at hl
      exact upd_mono (h.cl k hk hl j hj)
  · by_cases e : k = i
    · subst e
      exact hf
    · rw [upd_ne e] at hl
      refine hst k hk e hl (fun j hj => of_upd (hkill j hj)) (fun hm => ?_) _ (h.fact k hk hl (fun j hj => of_upd (hkill j hj)))
      have := hkill i hm
      rw [upd_same] at this
      cases this

end Go.Proofs.YtbfjkmlmnhphoaaDoor

set_option linter.unusedVariables false
namespace Go.Proofs.YtbfjkmlmnhphoaaDoor
open Go.RowKit Go.Sort

/-- The boxes that lie there, and what has turned. -/
structure FrL (w3 : World) (K : List (Nat × Array Value × Nat)) (W : World) : Prop where
  below : Below w3.heap.size w3 W
  all : ∀ p ∈ K, W.heap[p.1]? = some (.cells p.2.1 p.2.2 (0, 0))
theorem FrL.on {w3 W W' : World} {K : List (Nat × Array Value × Nat)} (h : FrL w3 K W) (hb : Below W.heap.size W W') : FrL w3 K W' := ⟨h.below.trans (hb.mono h.below.size), fun p hp => below_kept (h.all p hp) hb⟩
theorem FrL.mark {w3 W W' : World} {K : List (Nat × Array Value × Nat)} {S : Nat → Prop} (h : FrL w3 K W) (ht : TouchS S W W') (h1 : ∀ i, S i → w3.heap.size ≤ i) (h2 : ∀ p ∈ K, ¬ S p.1) : FrL w3 K W' :=
  ⟨ht.below_lo h.below h1 h.below.size, fun p hp => (ht.block p.1 (Array.getElem?_eq_some_iff.1 (h.all p hp)).1 (h2 p hp)).trans (h.all p hp)⟩
theorem FrL.add {w3 W : World} {K : List (Nat × Array Value × Nat)} (h : FrL w3 K W) (q : Nat × Array Value × Nat) (hq : W.heap[q.1]? = some (.cells q.2.1 q.2.2 (0, 0))) : FrL w3 (q :: K) W :=
  ⟨h.below, fun p hp => by
    rcases List.mem_cons.1 hp with rfl | hp
    · exact hq
    · exact h.all p hp⟩
theorem AnW.lower {B B' : Nat} {w : World} {p1 : Option Addr} {m f1 : Nat} {p2 : Option Addr} {n f2 : Nat} {z : CP} {sl : Nat → Sl} (h : AnW B w p1 m f1 p2 n f2 z sl) (hB : B' ≤ B) : AnW B' w p1 m f1 p2 n f2 z sl :=
  ⟨fun hp => owns_monoC (h.nm hp) hB, h.en.lowerC hB, h.l1, h.l2, h.l3, h.hl⟩
theorem AnS.zero {B : Nat} {w : World} {p1 : Option Addr} {m f1 : Nat} {p2 : Option Addr} {n f2 : Nat} {z : CP} (h : AnS B w p1 m f1 p2 n f2 z) : AnS 0 w p1 m f1 p2 n f2 z := ⟨h.ex.imp fun _ q => q.lower (Nat.zero_le _)⟩
theorem AnS.crs {B : Nat} {w : World} {p1 : Option Addr} {m f1 : Nat} {p2 : Option Addr} {n f2 : Nat} {p3 : Option Addr} {z : CP} (h : AnS B w p1 m f1 p2 n f2 z) (hz : CpOk m n 0 z) : Crs w p1 m p2 n p3 0 z := by
  obtain ⟨sl, q⟩ := h.ex
  exact q.crs hz
theorem eqCrl_raw (a1 : Option Addr) (n1 c1 : Nat) (a2 : Option Addr) (n2 c2 : Nat) (a3 : Option Addr) (n3 c3 : Nat) (b1 : Option Addr) (d1 : Nat) (b2 : Option Addr) (d2 : Nat) (b3 : Option Addr) (d3 : Nat) (x : CP) (w : World) (h : Crs w a1 n1 a2 n2 a3 n3 x) (h2 : Crs w b1 n1 b2 n2 b3 n3 x) (hm : n3 ≤ 1048576) :
    Calls Tryd.prog 11 #[.agg #[.slice a1 n1 c1, .int .i64 x.num, .int .i64 x.base, .int .i64 x.tm, .int .i64 x.next, .int .i64 x.scope, .bool x.ind, .slice a2 n2 c2, .slice a3 n3 c3], .agg #[.slice b1 n1 d1, .int .i64 x.num, .int .i64 x.base, .int .i64 x.tm, .int .i64 x.next, .int .i64 x.scope, .bool x.ind, .slice b2 n2 d2, .slice b3 n3 d3]] w fun e w' => e = .returned (.bool true) ∧ Below w.heap.size w w' :=
  eqCrl_same a1 n1 c1 a2 n2 c2 a3 n3 c3 b1 d1 b2 d2 b3 d3 x w h h2 hm
theorem markCrl_raw (B : Nat) (S : Nat → Prop) (a1 : Option Addr) (n1 c1 : Nat) (a2 : Option Addr) (n2 c2 : Nat) (a3 : Option Addr) (n3 c3 : Nat) (x : CP) (v1 : List Value) (sl : Nat → Sl) (pv : Nat → List Value) (vs : List Value) (bs : List Int) (k : Nat) (w : World) (h : OwnC B w a1 n1 c1 a2 n2 c2 a3 n3 c3 v1 sl pv vs bs) (hin : InC S a1 n1 a2 n2 a3 sl) (hz : CpOk n1 n2 n3 x) (hs : ∀ j, j < n2 → (sl j).2.1 ≤ 1048576) (h0 : 0 < k) (hk : k ≤ 100000000000000) :
    Calls Tryd.prog 14 #[.agg #[.slice a1 n1 c1, .int .i64 x.num, .int .i64 x.base, .int .i64 x.tm, .int .i64 x.next, .int .i64 x.scope, .bool x.ind, .slice a2 n2 c2, .slice a3 n3 c3], .int .i64 k] w fun e w' => e = .returned (.int .i64 (nxQ sl (k + 2 * n1) n2 + n3 : Nat)) ∧ OwnC B w' a1 n1 c1 a2 n2 c2 a3 n3 c3 (mkPs k n1) sl (mkP sl (k + 2 * n1) pv n2) (mkV sl (k + 2 * n1) vs n2) (marks (nxQ sl (k + 2 * n1) n2) n3) ∧ TouchS S w w' ∧ nxQ sl (k + 2 * n1) n2 + n3 ≤ k + 2199031000000 := by
  have hq := nxQ_small hk hz.1 hz.2.2.1 hs
  have h3 := hz.2.2.2.2
  refine (markCrl_any B S a1 n1 c1 a2 n2 c2 a3 n3 c3 x v1 sl pv vs bs k w h hin hz.1 hz.2.2.1 h3 hs h0 (by omega)).mono ?_
  rintro e w' ⟨q1, q2, q3⟩
  exact ⟨q1, q2, q3, by omega⟩
theorem heldCrl_raw (B : Nat) (a1 : Option Addr) (n1 c1 : Nat) (a2 : Option Addr) (n2 c2 : Nat) (a3 : Option Addr) (n3 c3 : Nat) (x : CP) (sl : Nat → Sl) (pv : Nat → List Value) (vs : List Value) (k : Nat) (w : World) (h : OwnC B w a1 n1 c1 a2 n2 c2 a3 n3 c3 (mkPs k n1) sl (mkP sl (k + 2 * n1) pv n2) (mkV sl (k + 2 * n1) vs n2) (marks (nxQ sl (k + 2 * n1) n2) n3)) (hz : CpOk n1 n2 n3 x) (hs : ∀ j, j < n2 → (sl j).2.1 ≤ 1048576) (h0 : 0 < k) (hk : k ≤ 100000000000000) :
    Calls Tryd.prog 15 #[.agg #[.slice a1 n1 c1, .int .i64 x.num, .int .i64 x.base, .int .i64 x.tm, .int .i64 x.next, .int .i64 x.scope, .bool x.ind, .slice a2 n2 c2, .slice a3 n3 c3], .int .i64 k] w fun e w' => e = .returned (.int .i64 (nxQ sl (k + 2 * n1) n2 + n3 : Nat)) ∧ Below w.heap.size w w' :=
  heldCrl_any B a1 n1 c1 a2 n2 c2 a3 n3 c3 x sl pv vs k w h hz.1 hz.2.2.1 hz.2.2.2.2 hs h0 (by have := nxQ_small (sl := sl) hk hz.1 hz.2.2.1 hs; omega)
theorem szCrl_raw (a1 : Option Addr) (n1 c1 : Nat) (a2 : Option Addr) (n2 c2 : Nat) (a3 : Option Addr) (n3 c3 : Nat) (x : CP) (lf : Int) (w : World) (h : Crs w a1 n1 a2 n2 a3 n3 x) (hl0 : 0 ≤ lf) (hl1 : lf ≤ 1048576) :
    Calls Tryd.prog 7 #[.agg #[.slice a1 n1 c1, .int .i64 x.num, .int .i64 x.base, .int .i64 x.tm, .int .i64 x.next, .int .i64 x.scope, .bool x.ind, .slice a2 n2 c2, .slice a3 n3 c3], .int .i64 lf] w fun e w' => ∃ r, e = .returned (.int .i64 r) ∧ (r < 0 ∨ (0 ≤ r ∧ r ≤ 1048576 ∧ CpOk n1 n2 n3 x)) ∧ Below w.heap.size w w' :=
  szCrl_any a1 n1 c1 a2 n2 c2 a3 n3 c3 x lf w h hl0 hl1

end Go.Proofs.YtbfjkmlmnhphoaaDoor
