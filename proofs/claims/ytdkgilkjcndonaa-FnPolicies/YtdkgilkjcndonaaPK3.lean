import Derived.Test.YtdkgilkjcndonaaPK2
import Derived.Test.YtdkgilkjcndonaaPL2
import Derived.Test.YtdkgilkjcndonaaWRd2
import Derived.Deep.AppendLies
import Derived.Deep.RegionHeldLaw
import Derived.Deep.DeepCutAuto
namespace Go.Proofs.Ytdkgilkjcndonaa
open Go.RowKit

theorem owns_ne {w : World} {B B' e e' s s' n n' : Nat} {a a' : Option Addr} {c c' : Nat} {xs xs' : List Value} (h : w.ownsRow B e s (.slice a n c) n xs) (h' : w.ownsRow B' e' s' (.slice a' n' c') n' xs') (he : e ≠ e') : ∀ g, a = some ⟨g, 0, none⟩ → a' ≠ some ⟨g, 0, none⟩ := by
  intro g ha ha'
  subst ha ha'
  rcases h.2 with ⟨hv, _⟩ | ⟨g1, cap, cur, hv, _, hg, _⟩
  · cases hv
  · rcases h'.2 with ⟨hv', _⟩ | ⟨g2, cap', cur', hv', _, hg', _⟩
    · cases hv'
    · simp only [Value.slice.injEq, Option.some.injEq, Addr.mk.injEq, and_true, true_and] at hv hv'
      rw [← hv.1] at hg
      rw [← hv'.1, hg] at hg'
      simp only [Option.some.injEq, Obj.cells.injEq] at hg'
      exact he hg'.2.1
/-- What owns its row does so while its block is the same. -/
theorem owns_same {w w' : World} {B e s n : Nat} {a : Option Addr} {c : Nat} {xs : List Value} (h : w.ownsRow B e s (.slice a n c) n xs) (hb : ∀ g, a = some ⟨g, 0, none⟩ → g < w.heap.size → w'.heap[g]? = w.heap[g]?) : w'.ownsRow B e s (.slice a n c) n xs := by
  refine ⟨h.1, ?_⟩
  rcases h.2 with hn | ⟨g, cap, cur, hv, hbb, hgg, rest⟩
  · exact .inl hn
  · have ha : a = some ⟨g, 0, none⟩ := by simp only [Value.slice.injEq] at hv; exact hv.1
    exact .inr ⟨g, cap, cur, hv, hbb, (hb g ha (Array.getElem?_eq_some_iff.1 hgg).1).trans hgg, rest⟩
theorem owns_cap {w : World} {B e s n : Nat} {a : Option Addr} {c : Nat} {xs : List Value} (h : w.ownsRow B e s (.slice a n c) n xs) : n ≤ c ∧ c ≤ 9223372036854775807 := by
  rcases h.2 with ⟨hv, _⟩ | ⟨g, cap, cur, hv, _, _, h1, h2, _⟩
  · simp only [Value.slice.injEq] at hv
    omega
  · simp only [Value.slice.injEq] at hv
    unfold maxLen at h2
    omega
/-- A certificate's two lists are its own, between lo and hi. -/
structure PcO (lo hi : Nat) (w : World) (a1 : Option Addr) (n1 c1 : Nat) (a2 : Option Addr) (n2 c2 : Nat) (x : PC) : Prop where
  pol : Own64 lo hi w a1 n1 c1 x.pols
  mp : OwnPm lo hi w a2 n2 c2 x.maps
  sm : n1 ≤ 1000 ∧ n2 ≤ 1000
theorem PcO.at_ {lo hi : Nat} {w : World} {a1 : Option Addr} {n1 c1 : Nat} {a2 : Option Addr} {n2 c2 : Nat} {x : PC} (h : PcO lo hi w a1 n1 c1 a2 n2 c2 x) : PcAt w a1 n1 c1 a2 n2 x := ⟨h.pol.toRow, (owns_cap h.pol.row).1, (owns_cap h.pol.row).2, h.mp.toPms⟩
theorem PcO.stab {B lo hi : Nat} {a1 : Option Addr} {n1 c1 : Nat} {a2 : Option Addr} {n2 c2 : Nat} {x : PC} (h : B ≤ lo) : StabP B (fun W => PcO lo hi W a1 n1 c1 a2 n2 c2 x) := fun W W' hb hr => ⟨stab_64 h W W' hb hr.pol, stab_pm h W W' hb hr.mp, hr.sm⟩
theorem PcO.mono {lo hi lo' hi' : Nat} {w : World} {a1 : Option Addr} {n1 c1 : Nat} {a2 : Option Addr} {n2 c2 : Nat} {x : PC} (h : PcO lo hi w a1 n1 c1 a2 n2 c2 x) (h1 : lo' ≤ lo) (h2 : hi ≤ hi') : PcO lo' hi' w a1 n1 c1 a2 n2 c2 x := ⟨h.pol.monoP h1 h2, h.mp.monoP h1 h2, h.sm⟩

/-- A path as it is drawn: each certificate's lists lie between two marks. -/
structure DP (B : Nat) (w : World) (ao : Option Addr) (n cap : Nat) (xs : List PC) (S : Nat → Nat) : Prop where
  len : xs.length = n
  row : ∃ vs, w.ownsRow B 41 6 (.slice ao n cap) n vs
  base : B ≤ S 0
  mono : ∀ j, j < n → S j ≤ S (j + 1)
  top : S n ≤ w.heap.size
  get : ∀ j, j < n → ∃ g a1 n1 c1 a2 n2 c2, ao = some ⟨g, 0, none⟩ ∧ CellsP w g (j * 6) a1 n1 c1 a2 n2 c2 (xs.getD j default) ∧ PcO (S j) (S (j + 1)) w a1 n1 c1 a2 n2 c2 (xs.getD j default)
theorem DP.low {B : Nat} {w : World} {ao : Option Addr} {n cap : Nat} {xs : List PC} {S : Nat → Nat} (h : DP B w ao n cap xs S) : ∀ j, j ≤ n → B ≤ S j
  | 0, _ => h.base
  | j + 1, hj => Nat.le_trans (h.low j (by omega)) (h.mono j (by omega))
theorem DP.gt {B : Nat} {w : World} {ao : Option Addr} {n cap : Nat} {xs : List PC} {S : Nat → Nat} (h : DP B w ao n cap xs S) {g : Nat} (hg : ao = some ⟨g, 0, none⟩) : B ≤ g ∧ g < w.heap.size := by
  obtain ⟨vs, hv⟩ := h.row
  subst hg
  exact hv.lt g rfl
theorem DP.stab {B : Nat} {w w' : World} {ao : Option Addr} {n cap : Nat} {xs : List PC} {S : Nat → Nat} (h : DP B w ao n cap xs S) (hb : ∀ l, B ≤ l → l < w.heap.size → w'.heap[l]? = w.heap[l]?) (hs : w.heap.size ≤ w'.heap.size) : DP B w' ao n cap xs S := by
  obtain ⟨vs, hv⟩ := h.row
  refine ⟨h.len, ⟨vs, stab_row (Nat.le_refl _) w w' hb hv⟩, h.base, h.mono, Nat.le_trans h.top hs, fun j hj => ?_⟩
  obtain ⟨g, a1, n1, c1, a2, n2, c2, ha, hc, ho⟩ := h.get j hj
  have hg := h.gt ha
  exact ⟨g, a1, n1, c1, a2, n2, c2, ha, hc.of (fun i => World.cell?_of_block (a := ⟨g, i, none⟩) (hb g hg.1 hg.2)), PcO.stab (h.low j (by omega)) w w' hb ho⟩
theorem DP.pcs {B : Nat} {w : World} {ao : Option Addr} {n cap : Nat} {xs : List PC} {S : Nat → Nat} (h : DP B w ao n cap xs S) (hn : n ≤ 9223372036854775807) : Pcs w ao n xs := by
  refine ⟨h.len, hn, fun j hj => ?_⟩
  obtain ⟨g, a1, n1, c1, a2, n2, c2, ha, hc, ho⟩ := h.get j hj
  exact ⟨g, 0, a1, n1, c1, a2, n2, c2, ha, (h.gt ha).2, by rw [Nat.zero_add]; exact hc, ho.at_⟩
theorem dp_empty (w : World) : DP w.heap.size (w.alloc (.cells #[] 41)) (some ⟨w.heap.size, 0, none⟩) 0 0 [] (fun _ => w.heap.size) :=
  ⟨rfl, ⟨_, World.ownsRow_lit w #[] 0 (Nat.le_refl _) (by unfold maxLen; omega) rfl⟩, Nat.le_refl _, fun j hj => absurd hj (Nat.not_lt_zero _), by simp, fun j hj => absurd hj (Nat.not_lt_zero _)⟩

/-- Behind an append of one certificate. -/
theorem DP.more {B : Nat} {w w' : World} {ao : Option Addr} {n cap : Nat} {xs : List PC} {S : Nat → Nat} (h : DP B w ao n cap xs S) {vs : List Value} (hv : w.ownsRow B 41 6 (.slice ao n cap) n vs) {a1 : Option Addr} {n1 c1 : Nat} {a2 : Option Addr} {n2 c2 : Nat} {x : PC} {lo hi : Nat} (hx : PcO lo hi w a1 n1 c1 a2 n2 c2 x) (hlo : S n ≤ lo) (hhi : lo ≤ hi) (hh : hi ≤ w.heap.size)
    {g' cap' : Nat} (hr : w'.ownsRow B 41 6 (.slice (some ⟨g', 0, none⟩) (n + 1) cap') (n + 1) (vs ++ [.slice a1 n1 c1, .slice a2 n2 c2, .bool x.self, .int .i64 x.need, .int .i64 x.nomap, .int .i64 x.noany])) (hg : w.grownBy w' (Value.slice ao n cap).ownBlock) :
    DP B w' (some ⟨g', 0, none⟩) (n + 1) cap' (xs ++ [x]) (fun j => if j ≤ n then S j else hi) := by
  have hvl : vs.length = n * 6 := hv.1
  have keep : ∀ {lo hi a1 n1 c1 a2 n2 c2 y}, PcO lo hi w a1 n1 c1 a2 n2 c2 y → PcO lo hi w' a1 n1 c1 a2 n2 c2 y := fun {lo hi a1 n1 c1 a2 n2 c2 y} ho => by
    have bl : ∀ (a : Option Addr) (m c e s Bb : Nat) (zs : List Value), w.ownsRow Bb e s (.slice a m c) m zs → e ≠ 41 → ∀ g, a = some ⟨g, 0, none⟩ → g < w.heap.size → w'.heap[g]? = w.heap[g]? := fun a m c e s Bb zs hz he g ha hgs => by
      refine hg.block g hgs (fun e' => ?_)
      cases ao with
      | none => simp [Value.ownBlock] at e'
      | some ad =>
        simp [Value.ownBlock] at e'
        rcases hv.2 with ⟨hv', _⟩ | ⟨g2, _, _, hv', _⟩
        · cases hv'
        · simp only [Value.slice.injEq, Option.some.injEq] at hv'
          rw [hv'.1] at e' hv
          simp only at e'
          subst e'
          exact owns_ne hz hv he g ha rfl
    exact ⟨⟨owns_same ho.pol.row (bl _ _ _ _ _ _ _ ho.pol.row (by decide)), ho.pol.lt⟩, ⟨owns_same ho.mp.row (bl _ _ _ _ _ _ _ ho.mp.row (by decide)), ho.mp.max, ho.mp.lt⟩, ho.sm⟩
  have cc : ∀ j, j < (n + 1) * 6 → w'.cell? ⟨g', j, none⟩ = (vs ++ [.slice a1 n1 c1, .slice a2 n2 c2, .bool x.self, .int .i64 x.need, .int .i64 x.nomap, .int .i64 x.noany])[j]? := fun j hj => hr.cellAt j hj
  refine ⟨by simp [h.len], ⟨_, hr⟩, by simpa using h.base, fun j hj => ?_, ?_, fun j hj => ?_⟩
  · by_cases e : j < n
    · rw [if_pos (by omega), if_pos (by omega)]; exact h.mono j e
    · obtain rfl : j = n := by omega
      rw [if_pos (Nat.le_refl _), if_neg (by omega)]; omega
  · rw [if_neg (by omega)]; exact Nat.le_trans hh hg.size
  · by_cases e : j < n
    · obtain ⟨g, b1, m1, d1, b2, m2, d2, ha, hc, ho⟩ := h.get j e
      have ex : (xs ++ [x]).getD j default = xs.getD j default := by
        have hjx : j < xs.length := by rw [h.len]; exact e
        simp [List.getElem?_append_left hjx]
      rw [ex, if_pos (by omega), if_pos (by omega)]
      subst ha
      have old : ∀ i, i < n * 6 → w'.cell? ⟨g', i, none⟩ = w.cell? ⟨g, i, none⟩ := fun i hi => by
        rw [cc i (by omega), List.getElem?_append_left (by omega), hv.cellAt i hi]
      exact ⟨g', b1, m1, d1, b2, m2, d2, rfl, ⟨(old _ (by omega)).trans hc.c0, (old _ (by omega)).trans hc.c1, (old _ (by omega)).trans hc.c2, (old _ (by omega)).trans hc.c3, (old _ (by omega)).trans hc.c4, (old _ (by omega)).trans hc.c5⟩, keep ho⟩
    · obtain rfl : j = n := by omega
      have ex : (xs ++ [x]).getD j default = x := by simp [← h.len]
      rw [ex, if_pos (Nat.le_refl _), if_neg (by omega)]
      have new : ∀ i, i < 6 → w'.cell? ⟨g', j * 6 + i, none⟩ = ([.slice a1 n1 c1, .slice a2 n2 c2, .bool x.self, .int .i64 x.need, .int .i64 x.nomap, .int .i64 x.noany] : List Value)[i]? := fun i hi => by
        rw [cc _ (by omega), List.getElem?_append_right (by omega)]
        congr 1
        omega
      exact ⟨g', a1, n1, c1, a2, n2, c2, rfl, ⟨new 0 (by omega), new 1 (by omega), new 2 (by omega), new 3 (by omega), new 4 (by omega), new 5 (by omega)⟩, (keep hx).mono hlo (Nat.le_refl _)⟩

end Go.Proofs.Ytdkgilkjcndonaa
