import Derived.Test.YtoncodoimnideaaGreatDoorN1
namespace Go.Proofs.YtoncodoimnideaaGreatDoor
open Go.RowKit

theorem alloc_old' (w : World) (o : Obj) (g : Nat) (hg : g < w.heap.size) : (w.alloc o).heap[g]? = w.heap[g]? := ((Below.refl w.heap.size w).alloc (Nat.le_refl _) o).block g hg
theorem three_blocks' (w : World) (o0 o1 o2 : Obj) : (((w.alloc o0).alloc o1).alloc o2).heap[w.heap.size]? = some o0 ∧ (((w.alloc o0).alloc o1).alloc o2).heap[w.heap.size + 1]? = some o1 ∧ (((w.alloc o0).alloc o1).alloc o2).heap[w.heap.size + 2]? = some o2 := by
  have s1 : (w.alloc o0).heap.size = w.heap.size + 1 := by simp
  have s2 : ((w.alloc o0).alloc o1).heap.size = w.heap.size + 2 := by simp
  exact ⟨(alloc_old' _ o2 _ (by omega)).trans ((alloc_old' _ o1 _ (by omega)).trans (heap_alloc_new w o0)), (alloc_old' _ o2 _ (by omega)).trans (by rw [← s1]; exact heap_alloc_new _ o1), by rw [← s2]; exact heap_alloc_new _ o2⟩
theorem touch_set' {p q : Nat} (w : World) (g j : Nat) (u : Value) (h1 : p ≤ g) (h2 : g < q) : Touch p q w (w.setCell ⟨g, j, none⟩ u) :=
  ⟨rfl, rfl, rfl, by simp, fun k _ hk => heap_setCell_other w ⟨g, j, none⟩ k u (by simp; omega)⟩
theorem heap_kept' {B : Nat} {w w' : World} (h : Below B w w') {g : Nat} (hg : g < B) {o : Obj} (e : w.heap[g]? = some o) : w'.heap[g]? = some o := (h.block g hg).trans e
theorem three_below (w : World) (o0 o1 o2 : Obj) : Below w.heap.size w (((w.alloc o0).alloc o1).alloc o2) := (((Below.refl _ _).alloc (Nat.le_refl _) _).alloc (by simp) _).alloc (by simp; omega) _

theorem Tryz.infoPart : (Tryz.prog.info? 80).map (fun i => (i.zero, i.size, i.bytes)) = some (some (.agg #[.int .i64 0, .string ByteArray.empty]), 2, 24) := by kernel_rfl

theorem results_pt {fn : Func} {t : Tmp} (h : fn.results = #[.cell t 80]) (tmps : Array Value) (g : Nat) (ht : tmps.getD t undef = .pointer (some ⟨g, 0, none⟩)) (w : World) (c0 c1 : Value)
    (hb : w.heap[g]? = some (.cells #[c0, c1] 80 (0, 0))) : (results fn tmps).run Tryz.prog w = .ok (.agg #[c0, c1]) w := by
  have d0 : w.cell? ⟨g, 0, none⟩ = some c0 := (cell_of_row _ g 0 _ 80 (0, 0) hb).trans rfl
  have d1 : w.cell? ⟨g, 1, none⟩ = some c1 := (cell_of_row _ g 1 _ 80 (0, 0) hb).trans rfl
  clear hb
  have ht' : tmps[t]?.getD undef = .pointer (some ⟨g, 0, none⟩) := by rw [← ht]; simp
  simp [results, h, go_sem, ht', d0, d1]
theorem results_nm {fn : Func} {t : Tmp} (h : fn.results = #[.cell t 28]) (tmps : Array Value) (g : Nat) (ht : tmps.getD t undef = .pointer (some ⟨g, 0, none⟩)) (w : World) (c0 : Value)
    (hb : w.heap[g]? = some (.cells #[c0] 28 (0, 0))) : (results fn tmps).run Tryz.prog w = .ok (.agg #[c0]) w := by
  have d0 : w.cell? ⟨g, 0, none⟩ = some c0 := (cell_of_row _ g 0 _ 28 (0, 0) hb).trans rfl
  clear hb
  have ht' : tmps[t]?.getD undef = .pointer (some ⟨g, 0, none⟩) := by rw [← ht]; simp
  simp [results, h, go_sem, ht', d0]

/-- The first k parts lie in the row g. -/
def PtPre (w : World) (g k : Nat) (xs : List PT) : Prop := ∀ j, j < k → Cells2 w g (j * 2) (xs.getD j default)
theorem PtPre.kept {w w' : World} {g k : Nat} {xs : List PT} (h : PtPre w g k xs) (hg : g < w.heap.size) (hb : Below w.heap.size w w') : PtPre w' g k xs :=
  fun j hj => (h j hj).of (fun i => hb.cell (p := ⟨g, i, none⟩) hg)

def set2 (w : World) (g i : Nat) (u0 u1 : Value) : World := (w.setCell ⟨g, i * 2, none⟩ u0).setCell ⟨g, i * 2 + 1, none⟩ u1
structure Set2 (B : Nat) (w w' : World) (g n cap i : Nat) (x : PT) : Prop where
  own : ∃ vs, w'.ownsRow B 80 2 (.slice (some ⟨g, 0, none⟩) n cap) n vs
  touch : Touch g (g + 1) w w'
  size : w'.heap.size = w.heap.size
  old : ∀ j, j < n * 2 → j < i * 2 ∨ i * 2 + 2 ≤ j → w'.cell? ⟨g, j, none⟩ = w.cell? ⟨g, j, none⟩
  cells : Cells2 w' g (i * 2) x
theorem set2_is {B : Nat} {w : World} {g n cap : Nat} {vs : List Value} (h : w.ownsRow B 80 2 (.slice (some ⟨g, 0, none⟩) n cap) n vs) (i : Nat) (hi : i < n) (x : PT) : Set2 B w (set2 w g i (.int .i64 x.attr) (.string x.val)) g n cap i x := by
  have h1 := ((h.stored (i * 2) (.int .i64 x.attr)).1.stored (i * 2 + 1) (.string x.val)).1
  have hl : vs.length = n * 2 := h.1
  have cc := fun j (hj : j < n * 2) => h1.cellAt j hj
  refine ⟨⟨_, h1⟩, ?_, by simp [set2], fun j hj ho => ?_, ⟨?_, ?_⟩⟩
  · exact (touch_set' _ _ _ _ (Nat.le_refl _) (Nat.lt_succ_self _)).trans (touch_set' _ _ _ _ (Nat.le_refl _) (Nat.lt_succ_self _))
  · refine (cc j hj).trans ?_
    rw [h.cellAt j hj]
    rw [List.getElem?_set_ne (by omega), List.getElem?_set_ne (by omega)]
  · refine (cc _ (by omega)).trans ?_
    rw [List.getElem?_set_ne (by omega), List.getElem?_set_self (by omega)]
  · refine (cc _ (by omega)).trans ?_
    rw [List.getElem?_set_self (by simp; omega)]

theorem Pts.same {w w' : World} {g n : Nat} {xs : List PT} (h : Pts w (some ⟨g, 0, none⟩) n xs) (hb : w'.heap[g]? = w.heap[g]?) (hs : w.heap.size ≤ w'.heap.size) : Pts w' (some ⟨g, 0, none⟩) n xs := by
  refine ⟨h.len, h.max, fun k hk => ?_⟩
  obtain ⟨b, off, ha, hlt, hc, hn⟩ := h.get k hk
  simp only [Option.some.injEq, Addr.mk.injEq, and_true] at ha
  obtain ⟨rfl, rfl⟩ := ha
  exact ⟨g, 0, rfl, Nat.lt_of_lt_of_le hlt hs, hc.of (fun i => by simp [World.cell?, hb]), hn⟩

end Go.Proofs.YtoncodoimnideaaGreatDoor
