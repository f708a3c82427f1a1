import Derived.Test.YtdkgilkjcndonaaPK3
import Derived.Test.YtdkgilkjcndonaaPL9a
namespace Go.Proofs.Ytdkgilkjcndonaa
open Go.RowKit

theorem DP.upto {B : Nat} {w : World} {ao : Option Addr} {n cap : Nat} {xs : List PC} {S : Nat → Nat} (h : DP B w ao n cap xs S) (i : Nat) : ∀ j, i ≤ j → j ≤ n → S i ≤ S j
  | 0, h1, _ => by obtain rfl : i = 0 := by omega
                   exact Nat.le_refl _
  | j + 1, h1, h2 => by
    by_cases e : i = j + 1
    · rw [e]; exact Nat.le_refl _
    · exact Nat.le_trans (h.upto i j (by omega) (by omega)) (h.mono j (by omega))
/-- The block of the row of a drawn path. -/
theorem DP.blk {B : Nat} {w : World} {g2 : Nat} {n cap : Nat} {xs : List PC} {S : Nat → Nat} (h : DP B w (some ⟨g2, 0, none⟩) n cap xs S) : ∃ cur, w.heap[g2]? = some (.cells cur 41 (0, 0)) ∧ n * 6 ≤ cur.size := by
  obtain ⟨vs, hv⟩ := h.row
  rcases hv.2 with ⟨hv', _⟩ | ⟨g3, cap', cur, hv', _, hg, h1, _, h3, _⟩
  · cases hv'
  · simp only [Value.slice.injEq, Option.some.injEq, Addr.mk.injEq, and_true, true_and] at hv'
    rw [← hv'.1] at hg
    exact ⟨cur, hg, by omega⟩
/-- A row of another type lies in another block. -/
theorem row_ne {w : World} {B e s n : Nat} {a : Option Addr} {c : Nat} {xs : List Value} (h : w.ownsRow B e s (.slice a n c) n xs) {g2 : Nat} {cur : Array Value} {t : TypeId} (hg : w.heap[g2]? = some (.cells cur t (0, 0))) (he : e ≠ t) : ∀ l, a = some ⟨l, 0, none⟩ → l ≠ g2 := by
  intro l ha hl
  subst ha hl
  rcases h.2 with ⟨hv, _⟩ | ⟨g1, cap, cur', hv, _, hg1, _⟩
  · cases hv
  · simp only [Value.slice.injEq, Option.some.injEq, Addr.mk.injEq, and_true, true_and] at hv
    rw [← hv.1, hg] at hg1
    simp only [Option.some.injEq, Obj.cells.injEq] at hg1
    exact he hg1.2.1.symm

/-- One certificate of a drawn path is altered. -/
theorem DP.alter {B : Nat} {w w' : World} {g2 : Nat} {n cap : Nat} {xs : List PC} {S : Nat → Nat} (h : DP B w (some ⟨g2, 0, none⟩) n cap xs S) (hn : n ≤ 100) (I : Nat) (f : Nat) (hf : f < 6) (u : Value) {cur : Array Value} (hcur : w.heap[g2]? = some (.cells cur 41 (0, 0))) (hg : w'.heap[g2]? = some (.cells (cur.setIfInBounds (I * 6 + f) u) 41 (0, 0)))
    (skip : Nat → Prop) (hb : ∀ l, B ≤ l → l < w.heap.size → l ≠ g2 → ¬ skip l → w'.heap[l]? = w.heap[l]?) (hskip : ∀ l, skip l → S I ≤ l ∧ l < S (I + 1)) (hI : I < n) (y : PC) (hnew : ∃ a1 n1 c1 a2 n2 c2, CellsP w' g2 (I * 6) a1 n1 c1 a2 n2 c2 y ∧ PcAt w' a1 n1 c1 a2 n2 y) : Pcs w' (some ⟨g2, 0, none⟩) n (xs.set I y) := by
  have hl2 : g2 < w'.heap.size := (Array.getElem?_eq_some_iff.1 hg).1
  refine ⟨by simp [h.len], by omega, fun j hj => ?_⟩
  by_cases e : j = I
  · subst e
    obtain ⟨a1, n1, c1, a2, n2, c2, hc, hp⟩ := hnew
    have ex : (xs.set j y).getD j default = y := by simp [show j < xs.length by rw [h.len]; exact hj]
    rw [ex]
    exact ⟨g2, 0, a1, n1, c1, a2, n2, c2, rfl, hl2, by rw [Nat.zero_add]; exact hc, hp⟩
  · obtain ⟨g3, a1, n1, c1, a2, n2, c2, ha, hc, ho⟩ := h.get j hj
    simp only [Option.some.injEq, Addr.mk.injEq, and_true] at ha
    subst ha
    have ex : (xs.set I y).getD j default = xs.getD j default := by
      rw [List.getD_eq_getElem?_getD, List.getD_eq_getElem?_getD, List.getElem?_set_ne (by omega)]
    rw [ex]
    have cell : ∀ i, i < 6 → w'.cell? ⟨g2, j * 6 + i, none⟩ = w.cell? ⟨g2, j * 6 + i, none⟩ := fun i hi => by
      rw [cell_of_row _ g2 _ _ 41 (0, 0) hg, cell_of_row _ g2 _ _ 41 (0, 0) hcur, Array.getElem?_setIfInBounds_ne (by omega)]
    have low := h.low j (by omega)
    have apart : ∀ l, S j ≤ l → l < S (j + 1) → ¬ skip l := fun l h1 h2 hs => by
      have hk := hskip l hs
      rcases Nat.lt_or_gt_of_ne e with h3 | h3
      · have := h.upto (j + 1) I (by omega) (by omega); omega
      · have := h.upto (I + 1) j (by omega) (by omega); omega
    have p1 : Own64 (S j) (S (j + 1)) w' a1 n1 c1 (xs.getD j default).pols := ⟨owns_same ho.pol.row (fun l hl hs => hb l (by
      subst hl
      have := (ho.pol.row.lt l rfl).1
      omega) hs (row_ne ho.pol.row hcur (by decide) l hl) (apart l (by subst hl; exact (ho.pol.row.lt l rfl).1) (ho.pol.lt _ hl))), ho.pol.lt⟩
    have p2 : OwnPm (S j) (S (j + 1)) w' a2 n2 c2 (xs.getD j default).maps := ⟨owns_same ho.mp.row (fun l hl hs => hb l (by
      subst hl
      have := (ho.mp.row.lt l rfl).1
      omega) hs (row_ne ho.mp.row hcur (by decide) l hl) (apart l (by subst hl; exact (ho.mp.row.lt l rfl).1) (ho.mp.lt _ hl))), ho.mp.max, ho.mp.lt⟩
    exact ⟨g2, 0, a1, n1, c1, a2, n2, c2, rfl, hl2, by rw [Nat.zero_add]; exact ⟨(cell 0 (by omega)).trans hc.c0, (cell 1 (by omega)).trans hc.c1, (cell 2 (by omega)).trans hc.c2, (cell 3 (by omega)).trans hc.c3, (cell 4 (by omega)).trans hc.c4, (cell 5 (by omega)).trans hc.c5⟩, (⟨p1, p2, ho.sm⟩ : PcO _ _ w' a1 n1 c1 a2 n2 c2 _).at_⟩

/-- Its first list is another. -/
theorem DP.alter0 {B : Nat} {w w1 : World} {g2 : Nat} {n cap : Nat} {xs : List PC} {S : Nat → Nat} (h : DP B w (some ⟨g2, 0, none⟩) n cap xs S) (hn : n ≤ 100) (I : Nat) (hI : I < n) {a1 : Option Addr} {n1 c1 : Nat} {a2 : Option Addr} {n2 c2 : Nat} (hc : CellsP w g2 (I * 6) a1 n1 c1 a2 n2 c2 (xs.getD I default)) (ho : PcO (S I) (S (I + 1)) w a1 n1 c1 a2 n2 c2 (xs.getD I default))
    (hb : ∀ l, B ≤ l → l < w.heap.size → a1 ≠ some ⟨l, 0, none⟩ → w1.heap[l]? = w.heap[l]?) (hs1 : w.heap.size ≤ w1.heap.size) {a' : Option Addr} {n' c' Bx : Nat} {zs : List Int} (hBx : B ≤ Bx) (hr : w1.ownsRow Bx 2 1 (.slice a' n' c') n' (zs.map (Value.int .i64))) :
    ∃ xs', ∀ W' : World, (∀ l, B ≤ l → l < w1.heap.size → W'.heap[l]? = (w1.setCell ⟨g2, I * 6, none⟩ (.slice a' n' c')).heap[l]?) → Pcs W' (some ⟨g2, 0, none⟩) n xs' := by
  obtain ⟨cur, hcur, hsz⟩ := h.blk
  have hg2 := h.gt rfl
  have h1 : w1.heap[g2]? = some (.cells cur 41 (0, 0)) := (hb g2 hg2.1 hg2.2 (fun e => row_ne ho.pol.row hcur (by decide) g2 e rfl)).trans hcur
  have hs : (w1.setCell ⟨g2, I * 6, none⟩ (.slice a' n' c')).heap[g2]? = some (.cells (cur.setIfInBounds (I * 6 + 0) (.slice a' n' c')) 41 (0, 0)) := heap_setCell_same w1 g2 (I * 6) _ 41 _ h1
  have so : ∀ l, l ≠ g2 → (w1.setCell ⟨g2, I * 6, none⟩ (.slice a' n' c')).heap[l]? = w1.heap[l]? := fun l hl => Below.heap_setCell _ _ _ _ (by show l ≠ g2; exact hl)
  refine ⟨xs.set I { (xs.getD I default) with pols := zs }, fun W' hW => ?_⟩
  replace hs := (hW g2 hg2.1 (Nat.lt_of_lt_of_le hg2.2 hs1)).trans hs
  replace so : ∀ l, B ≤ l → l < w1.heap.size → l ≠ g2 → W'.heap[l]? = w1.heap[l]? := fun l h1 h2 h3 => (hW l h1 h2).trans (so l h3)
  refine h.alter hn I 0 (by omega) (.slice a' n' c') hcur hs (fun l => a1 = some ⟨l, 0, none⟩) (fun l h1 h2 h3 h4 => (so l h1 (by omega) h3).trans (hb l h1 h2 h4)) (fun l hl => ⟨by subst hl; exact (ho.pol.row.lt l rfl).1, ho.pol.lt _ hl⟩) hI { (xs.getD I default) with pols := zs } ⟨a', n', c', a2, n2, c2, ?_, ?_⟩
  · have cell : ∀ i, 0 < i → i < 6 → W'.cell? ⟨g2, I * 6 + i, none⟩ = w.cell? ⟨g2, I * 6 + i, none⟩ := fun i h0 hi => by
      rw [cell_of_row _ g2 _ _ 41 (0, 0) hs, cell_of_row _ g2 _ _ 41 (0, 0) hcur, Array.getElem?_setIfInBounds_ne (by omega)]
    refine ⟨?_, (cell 1 (by omega) (by omega)).trans hc.c1, (cell 2 (by omega) (by omega)).trans hc.c2, (cell 3 (by omega) (by omega)).trans hc.c3, (cell 4 (by omega) (by omega)).trans hc.c4, (cell 5 (by omega) (by omega)).trans hc.c5⟩
    rw [cell_of_row _ g2 _ _ 41 (0, 0) hs, Nat.add_zero, Array.getElem?_setIfInBounds_self, if_pos (by omega)]
  · have r' : W'.ownsRow Bx 2 1 (.slice a' n' c') n' (zs.map (Value.int .i64)) := owns_same hr (fun l hl hs' => so l (Nat.le_trans hBx (by subst hl; exact (hr.lt l rfl).1)) hs' (row_ne hr h1 (by decide) l hl))
    have m' : OwnPm (S I) (S (I + 1)) W' a2 n2 c2 (xs.getD I default).maps := ⟨owns_same ho.mp.row (fun l hl hs' => (so l (Nat.le_trans (h.low I (by omega)) (by subst hl; exact (ho.mp.row.lt l rfl).1)) (Nat.lt_of_lt_of_le hs' hs1) (row_ne ho.mp.row hcur (by decide) l hl)).trans (hb l (Nat.le_trans (h.low I (by omega)) (by subst hl; exact (ho.mp.row.lt l rfl).1)) hs' (fun e => owns_ne ho.pol.row ho.mp.row (by decide) l e hl))), ho.mp.max, ho.mp.lt⟩
    exact ⟨(⟨r'⟩ : OwnL Bx _ a' n' c' zs).toRow, (owns_cap r').1, (owns_cap r').2, m'.toPms⟩

/-- Its second list is another. -/
theorem DP.alter1 {B : Nat} {w w1 : World} {g2 : Nat} {n cap : Nat} {xs : List PC} {S : Nat → Nat} (h : DP B w (some ⟨g2, 0, none⟩) n cap xs S) (hn : n ≤ 100) (I : Nat) (hI : I < n) {a1 : Option Addr} {n1 c1 : Nat} {a2 : Option Addr} {n2 c2 : Nat} (hc : CellsP w g2 (I * 6) a1 n1 c1 a2 n2 c2 (xs.getD I default)) (ho : PcO (S I) (S (I + 1)) w a1 n1 c1 a2 n2 c2 (xs.getD I default))
    (hb : ∀ l, B ≤ l → l < w.heap.size → a2 ≠ some ⟨l, 0, none⟩ → w1.heap[l]? = w.heap[l]?) (hs1 : w.heap.size ≤ w1.heap.size) {a' : Option Addr} {n' c' Bx : Nat} {ps : List (Int × Int)} (hn' : n' ≤ 2000) (hBx : B ≤ Bx) (hr : w1.ownsRow Bx 43 2 (.slice a' n' c') n' (flat ps)) :
    ∃ xs', ∀ W' : World, (∀ l, B ≤ l → l < w1.heap.size → W'.heap[l]? = (w1.setCell ⟨g2, I * 6 + 1, none⟩ (.slice a' n' c')).heap[l]?) → Pcs W' (some ⟨g2, 0, none⟩) n xs' := by
  obtain ⟨cur, hcur, hsz⟩ := h.blk
  have hg2 := h.gt rfl
  have h1 : w1.heap[g2]? = some (.cells cur 41 (0, 0)) := (hb g2 hg2.1 hg2.2 (fun e => row_ne ho.mp.row hcur (by decide) g2 e rfl)).trans hcur
  have hs : (w1.setCell ⟨g2, I * 6 + 1, none⟩ (.slice a' n' c')).heap[g2]? = some (.cells (cur.setIfInBounds (I * 6 + 1) (.slice a' n' c')) 41 (0, 0)) := heap_setCell_same w1 g2 (I * 6 + 1) _ 41 _ h1
  have so : ∀ l, l ≠ g2 → (w1.setCell ⟨g2, I * 6 + 1, none⟩ (.slice a' n' c')).heap[l]? = w1.heap[l]? := fun l hl => Below.heap_setCell _ _ _ _ (by show l ≠ g2; exact hl)
  refine ⟨xs.set I { (xs.getD I default) with maps := ps }, fun W' hW => ?_⟩
  replace hs := (hW g2 hg2.1 (Nat.lt_of_lt_of_le hg2.2 hs1)).trans hs
  replace so : ∀ l, B ≤ l → l < w1.heap.size → l ≠ g2 → W'.heap[l]? = w1.heap[l]? := fun l h1 h2 h3 => (hW l h1 h2).trans (so l h3)
  refine h.alter hn I 1 (by omega) (.slice a' n' c') hcur hs (fun l => a2 = some ⟨l, 0, none⟩) (fun l h1 h2 h3 h4 => (so l h1 (by omega) h3).trans (hb l h1 h2 h4)) (fun l hl => ⟨by subst hl; exact (ho.mp.row.lt l rfl).1, ho.mp.lt _ hl⟩) hI { (xs.getD I default) with maps := ps } ⟨a1, n1, c1, a', n', c', ?_, ?_⟩
  · have cell : ∀ i, i ≠ 1 → i < 6 → W'.cell? ⟨g2, I * 6 + i, none⟩ = w.cell? ⟨g2, I * 6 + i, none⟩ := fun i h0 hi => by
      rw [cell_of_row _ g2 _ _ 41 (0, 0) hs, cell_of_row _ g2 _ _ 41 (0, 0) hcur, Array.getElem?_setIfInBounds_ne (by omega)]
    refine ⟨(cell 0 (by omega) (by omega)).trans hc.c0, ?_, (cell 2 (by omega) (by omega)).trans hc.c2, (cell 3 (by omega) (by omega)).trans hc.c3, (cell 4 (by omega) (by omega)).trans hc.c4, (cell 5 (by omega) (by omega)).trans hc.c5⟩
    rw [cell_of_row _ g2 _ _ 41 (0, 0) hs, Array.getElem?_setIfInBounds_self, if_pos (by omega)]
  · have r' : W'.ownsRow Bx 43 2 (.slice a' n' c') n' (flat ps) := owns_same hr (fun l hl hs' => so l (Nat.le_trans hBx (by subst hl; exact (hr.lt l rfl).1)) hs' (row_ne hr h1 (by decide) l hl))
    have m' : Own64 (S I) (S (I + 1)) W' a1 n1 c1 (xs.getD I default).pols := ⟨owns_same ho.pol.row (fun l hl hs' => (so l (Nat.le_trans (h.low I (by omega)) (by subst hl; exact (ho.pol.row.lt l rfl).1)) (Nat.lt_of_lt_of_le hs' hs1) (row_ne ho.pol.row hcur (by decide) l hl)).trans (hb l (Nat.le_trans (h.low I (by omega)) (by subst hl; exact (ho.pol.row.lt l rfl).1)) hs' (fun e => owns_ne ho.mp.row ho.pol.row (by decide) l e hl))), ho.pol.lt⟩
    have hpm : Pms W' a' n' ps := by
      have hl : ps.length = n' := by
        have := r'.1
        rw [flat_len] at this
        omega
      refine ⟨hl, by omega, fun k hk => ?_⟩
      have hf := flat_get ps k (by rw [hl]; exact hk)
      rcases r'.2 with ⟨_, h0⟩ | ⟨g, cap', cur', hv, hb', hg', _⟩
      · omega
      · simp only [Value.slice.injEq] at hv
        obtain ⟨rfl, _, rfl⟩ := hv
        exact ⟨g, 0, rfl, (Array.getElem?_eq_some_iff.1 hg').1, by rw [Nat.zero_add, r'.cellAt _ (by omega)]; exact hf.1, by rw [Nat.zero_add, r'.cellAt _ (by omega)]; exact hf.2⟩
    exact ⟨m'.toRow, (owns_cap m'.row).1, (owns_cap m'.row).2, hpm⟩

/-- Its last number is another. -/
theorem DP.alter5 {B : Nat} {w w1 : World} {g2 : Nat} {n cap : Nat} {xs : List PC} {S : Nat → Nat} (h : DP B w (some ⟨g2, 0, none⟩) n cap xs S) (hn : n ≤ 100) (I : Nat) (hI : I < n) {a1 : Option Addr} {n1 c1 : Nat} {a2 : Option Addr} {n2 c2 : Nat} (hc : CellsP w g2 (I * 6) a1 n1 c1 a2 n2 c2 (xs.getD I default)) (ho : PcO (S I) (S (I + 1)) w a1 n1 c1 a2 n2 c2 (xs.getD I default))
    (hb : ∀ l, B ≤ l → l < w.heap.size → w1.heap[l]? = w.heap[l]?) (hs1 : w.heap.size ≤ w1.heap.size) (v : Int) :
    ∃ xs', ∀ W' : World, (∀ l, B ≤ l → l < w1.heap.size → W'.heap[l]? = (w1.setCell ⟨g2, I * 6 + 5, none⟩ (.int .i64 v)).heap[l]?) → Pcs W' (some ⟨g2, 0, none⟩) n xs' := by
  obtain ⟨cur, hcur, hsz⟩ := h.blk
  have hg2 := h.gt rfl
  have h1 : w1.heap[g2]? = some (.cells cur 41 (0, 0)) := (hb g2 hg2.1 hg2.2).trans hcur
  have hs : (w1.setCell ⟨g2, I * 6 + 5, none⟩ (.int .i64 v)).heap[g2]? = some (.cells (cur.setIfInBounds (I * 6 + 5) (.int .i64 v)) 41 (0, 0)) := heap_setCell_same w1 g2 (I * 6 + 5) _ 41 _ h1
  have so : ∀ l, l ≠ g2 → (w1.setCell ⟨g2, I * 6 + 5, none⟩ (.int .i64 v)).heap[l]? = w1.heap[l]? := fun l hl => Below.heap_setCell _ _ _ _ (by show l ≠ g2; exact hl)
  refine ⟨xs.set I { (xs.getD I default) with noany := v }, fun W' hW => ?_⟩
  replace hs := (hW g2 hg2.1 (Nat.lt_of_lt_of_le hg2.2 hs1)).trans hs
  replace so : ∀ l, B ≤ l → l < w1.heap.size → l ≠ g2 → W'.heap[l]? = w1.heap[l]? := fun l h1 h2 h3 => (hW l h1 h2).trans (so l h3)
  refine h.alter hn I 5 (by omega) (.int .i64 v) hcur hs (fun _ => False) (fun l h1 h2 h3 _ => (so l h1 (by omega) h3).trans (hb l h1 h2)) (fun l hl => absurd hl id) hI { (xs.getD I default) with noany := v } ⟨a1, n1, c1, a2, n2, c2, ?_, ?_⟩
  · have cell : ∀ i, i < 5 → W'.cell? ⟨g2, I * 6 + i, none⟩ = w.cell? ⟨g2, I * 6 + i, none⟩ := fun i hi => by
      rw [cell_of_row _ g2 _ _ 41 (0, 0) hs, cell_of_row _ g2 _ _ 41 (0, 0) hcur, Array.getElem?_setIfInBounds_ne (by omega)]
    refine ⟨(cell 0 (by omega)).trans hc.c0, (cell 1 (by omega)).trans hc.c1, (cell 2 (by omega)).trans hc.c2, (cell 3 (by omega)).trans hc.c3, (cell 4 (by omega)).trans hc.c4, ?_⟩
    rw [cell_of_row _ g2 _ _ 41 (0, 0) hs, Array.getElem?_setIfInBounds_self, if_pos (by omega)]
  · have p1 : Own64 (S I) (S (I + 1)) W' a1 n1 c1 (xs.getD I default).pols := ⟨owns_same ho.pol.row (fun l hl hs' => (so l (Nat.le_trans (h.low I (by omega)) (by subst hl; exact (ho.pol.row.lt l rfl).1)) (Nat.lt_of_lt_of_le hs' hs1) (row_ne ho.pol.row hcur (by decide) l hl)).trans (hb l (Nat.le_trans (h.low I (by omega)) (by subst hl; exact (ho.pol.row.lt l rfl).1)) hs')), ho.pol.lt⟩
    have p2 : OwnPm (S I) (S (I + 1)) W' a2 n2 c2 (xs.getD I default).maps := ⟨owns_same ho.mp.row (fun l hl hs' => (so l (Nat.le_trans (h.low I (by omega)) (by subst hl; exact (ho.mp.row.lt l rfl).1)) (Nat.lt_of_lt_of_le hs' hs1) (row_ne ho.mp.row hcur (by decide) l hl)).trans (hb l (Nat.le_trans (h.low I (by omega)) (by subst hl; exact (ho.mp.row.lt l rfl).1)) hs')), ho.mp.max, ho.mp.lt⟩
    have q := (⟨p1, p2, ho.sm⟩ : PcO _ _ _ a1 n1 c1 a2 n2 c2 (xs.getD I default)).at_
    exact ⟨q.pol, q.le, q.max, q.mp⟩

/-- A path whose certificates' lists lie wherever they lie, each in a row of its own kind. -/
structure DQ (B : Nat) (w : World) (ao : Option Addr) (n cap : Nat) (xs : List PC) : Prop where
  len : xs.length = n
  row : ∃ vs, w.ownsRow B 41 6 (.slice ao n cap) n vs
  get : ∀ j, j < n → ∃ g a1 n1 c1 a2 n2 c2 lo hi, ao = some ⟨g, 0, none⟩ ∧ CellsP w g (j * 6) a1 n1 c1 a2 n2 c2 (xs.getD j default) ∧ B ≤ lo ∧ PcO lo hi w a1 n1 c1 a2 n2 c2 (xs.getD j default)
theorem DP.dq {B : Nat} {w : World} {ao : Option Addr} {n cap : Nat} {xs : List PC} {S : Nat → Nat} (h : DP B w ao n cap xs S) : DQ B w ao n cap xs :=
  ⟨h.len, h.row, fun j hj => by
    obtain ⟨g, a1, n1, c1, a2, n2, c2, ha, hc, ho⟩ := h.get j hj
    exact ⟨g, a1, n1, c1, a2, n2, c2, _, _, ha, hc, h.low j (by omega), ho⟩⟩
theorem DQ.gt {B : Nat} {w : World} {ao : Option Addr} {n cap : Nat} {xs : List PC} (h : DQ B w ao n cap xs) {g : Nat} (hg : ao = some ⟨g, 0, none⟩) : B ≤ g ∧ g < w.heap.size := by
  obtain ⟨vs, hv⟩ := h.row
  subst hg
  exact hv.lt g rfl
theorem DQ.stab {B : Nat} {w w' : World} {ao : Option Addr} {n cap : Nat} {xs : List PC} (h : DQ B w ao n cap xs) (hb : ∀ l, B ≤ l → l < w.heap.size → w'.heap[l]? = w.heap[l]?) : DQ B w' ao n cap xs := by
  obtain ⟨vs, hv⟩ := h.row
  refine ⟨h.len, ⟨vs, stab_row (Nat.le_refl _) w w' hb hv⟩, fun j hj => ?_⟩
  obtain ⟨g, a1, n1, c1, a2, n2, c2, lo, hi, ha, hc, hlo, ho⟩ := h.get j hj
  have hg := h.gt ha
  exact ⟨g, a1, n1, c1, a2, n2, c2, lo, hi, ha, hc.of (fun i => World.cell?_of_block (a := ⟨g, i, none⟩) (hb g hg.1 hg.2)), hlo, PcO.stab hlo w w' hb ho⟩
theorem DQ.pcs {B : Nat} {w : World} {ao : Option Addr} {n cap : Nat} {xs : List PC} (h : DQ B w ao n cap xs) (hn : n ≤ 9223372036854775807) : Pcs w ao n xs := by
  refine ⟨h.len, hn, fun j hj => ?_⟩
  obtain ⟨g, a1, n1, c1, a2, n2, c2, lo, hi, ha, hc, hlo, ho⟩ := h.get j hj
  exact ⟨g, 0, a1, n1, c1, a2, n2, c2, ha, (h.gt ha).2, by rw [Nat.zero_add]; exact hc, ho.at_⟩
theorem DQ.more {B : Nat} {w w' : World} {ao : Option Addr} {n cap : Nat} {xs : List PC} (h : DQ B w ao n cap xs) {vs : List Value} (hv : w.ownsRow B 41 6 (.slice ao n cap) n vs) {a1 : Option Addr} {n1 c1 : Nat} {a2 : Option Addr} {n2 c2 : Nat} {x : PC} {lo hi : Nat} (hx : PcO lo hi w a1 n1 c1 a2 n2 c2 x) (hlo : B ≤ lo)
    {g' cap' : Nat} (hr : w'.ownsRow B 41 6 (.slice (some ⟨g', 0, none⟩) (n + 1) cap') (n + 1) (vs ++ [.slice a1 n1 c1, .slice a2 n2 c2, .bool x.self, .int .i64 x.need, .int .i64 x.nomap, .int .i64 x.noany])) (hg : w.grownBy w' (Value.slice ao n cap).ownBlock) :
    DQ B w' (some ⟨g', 0, none⟩) (n + 1) cap' (xs ++ [x]) := by
  have hvl : vs.length = n * 6 := hv.1
  have keep : ∀ {lo hi a1 n1 c1 a2 n2 c2 y}, PcO lo hi w a1 n1 c1 a2 n2 c2 y → PcO lo hi w' a1 n1 c1 a2 n2 c2 y := fun {lo hi a1 n1 c1 a2 n2 c2 y} ho => by
    have bl : ∀ (a : Option Addr) (m c e s Bb : Nat) (zs : List Value), w.ownsRow Bb e s (.slice a m c) m zs → e ≠ 41 → ∀ g, a = some ⟨g, 0, none⟩ → g < w.heap.size → w'.heap[g]? = w.heap[g]? := fun a m c e s Bb zs hz he g ha hgs => by
      refine hg.block g hgs (fun e' => ?_)
      cases ao with
      | none => simp [Value.ownBlock] at e'
      | some ad =>
        simp [Value.ownBlock] at e'
        rcases hv.2 with ⟨hv', _⟩ | ⟨g2, _, _, hv', _⟩
        · cases hv'
        · simp only [Value.slice.injEq, Option.some.injEq] at hv'
          rw [hv'.1] at e' hv
          simp only at e'
          subst e'
          exact owns_ne hz hv he g ha rfl
    exact ⟨⟨owns_same ho.pol.row (bl _ _ _ _ _ _ _ ho.pol.row (by decide)), ho.pol.lt⟩, ⟨owns_same ho.mp.row (bl _ _ _ _ _ _ _ ho.mp.row (by decide)), ho.mp.max, ho.mp.lt⟩, ho.sm⟩
  have cc : ∀ j, j < (n + 1) * 6 → w'.cell? ⟨g', j, none⟩ = (vs ++ [.slice a1 n1 c1, .slice a2 n2 c2, .bool x.self, .int .i64 x.need, .int .i64 x.nomap, .int .i64 x.noany])[j]? := fun j hj => hr.cellAt j hj
  refine ⟨by simp [h.len], ⟨_, hr⟩, fun j hj => ?_⟩
  by_cases e : j < n
  · obtain ⟨g, b1, m1, d1, b2, m2, d2, l1, h1, ha, hc, hl1, ho⟩ := h.get j e
    have ex : (xs ++ [x]).getD j default = xs.getD j default := by
      have hjx : j < xs.length := by rw [h.len]; exact e
      simp [List.getElem?_append_left hjx]
    rw [ex]
    subst ha
    have old : ∀ i, i < n * 6 → w'.cell? ⟨g', i, none⟩ = w.cell? ⟨g, i, none⟩ := fun i hi => by
      rw [cc i (by omega), List.getElem?_append_left (by omega), hv.cellAt i hi]
    exact ⟨g', b1, m1, d1, b2, m2, d2, l1, h1, rfl, ⟨(old _ (by omega)).trans hc.c0, (old _ (by omega)).trans hc.c1, (old _ (by omega)).trans hc.c2, (old _ (by omega)).trans hc.c3, (old _ (by omega)).trans hc.c4, (old _ (by omega)).trans hc.c5⟩, hl1, keep ho⟩
  · obtain rfl : j = n := by omega
    have ex : (xs ++ [x]).getD j default = x := by simp [← h.len]
    rw [ex]
    have new : ∀ i, i < 6 → w'.cell? ⟨g', j * 6 + i, none⟩ = ([.slice a1 n1 c1, .slice a2 n2 c2, .bool x.self, .int .i64 x.need, .int .i64 x.nomap, .int .i64 x.noany] : List Value)[i]? := fun i hi => by
      rw [cc _ (by omega), List.getElem?_append_right (by omega)]
      congr 1
      omega
    exact ⟨g', a1, n1, c1, a2, n2, c2, lo, hi, rfl, ⟨new 0 (by omega), new 1 (by omega), new 2 (by omega), new 3 (by omega), new 4 (by omega), new 5 (by omega)⟩, hlo, keep hx⟩

end Go.Proofs.Ytdkgilkjcndonaa
