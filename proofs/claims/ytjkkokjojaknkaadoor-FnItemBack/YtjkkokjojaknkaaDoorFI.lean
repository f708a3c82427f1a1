import Derived.Test.YtjkkokjojaknkaaDoorFH
import Derived.Handy
namespace Go.Proofs.YtjkkokjojaknkaaDoor
open Go.RowKit

theorem Tryd.infoItem : (Tryd.prog.info? 26).map (fun i => (i.zero, i.size, i.bytes)) = some (some (.agg #[.int .i64 0, .int .i64 0, .bool false, .slice none 0 0, .slice none 0 0]), 5, 72) := by kernel_rfl

/-- What toItem answers. -/
def ToPost (d : Nat) (x : It) (nb nk : Nat) (w : World) (e : Ending) (w' : World) : Prop :=
  ∃ ab ak M, e = .returned (itv x ab nb nb ak nk nk) ∧ w.heap.size ≤ M ∧ M ≤ w'.heap.size ∧ OwnB w.heap.size M w' ab nb nb x.body ∧ OwnKids d M w'.heap.size w' ak nk x.kids ∧ Below w.heap.size w w'

theorem alloc_old (w : World) (o : Obj) (g : Nat) (hg : g < w.heap.size) : (w.alloc o).heap[g]? = w.heap[g]? := ((Below.refl w.heap.size w).alloc (Nat.le_refl _) o).block g hg
theorem three_blocks (w : World) (o0 o1 o2 : Obj) : (((w.alloc o0).alloc o1).alloc o2).heap[w.heap.size]? = some o0 ∧ (((w.alloc o0).alloc o1).alloc o2).heap[w.heap.size + 1]? = some o1 ∧ (((w.alloc o0).alloc o1).alloc o2).heap[w.heap.size + 2]? = some o2 := by
  have s1 : (w.alloc o0).heap.size = w.heap.size + 1 := by simp
  have s2 : ((w.alloc o0).alloc o1).heap.size = w.heap.size + 2 := by simp
  exact ⟨(alloc_old _ o2 _ (by omega)).trans ((alloc_old _ o1 _ (by omega)).trans (heap_alloc_new w o0)), (alloc_old _ o2 _ (by omega)).trans (by rw [← s1]; exact heap_alloc_new _ o1), by rw [← s2]; exact heap_alloc_new _ o2⟩
theorem touch_set {p q : Nat} (w : World) (g j : Nat) (u : Value) (h1 : p ≤ g) (h2 : g < q) : Touch p q w (w.setCell ⟨g, j, none⟩ u) :=
  ⟨rfl, rfl, rfl, by simp, fun k _ hk => heap_setCell_other w ⟨g, j, none⟩ k u (by simp; omega)⟩
theorem OwnB.mono {lo hi lo' hi' : Nat} {w : World} {a : Option Addr} {n cap : Nat} {bs : List Int} (h : OwnB lo hi w a n cap bs) (h1 : lo' ≤ lo) (h2 : hi ≤ hi') : OwnB lo' hi' w a n cap bs := ⟨h.own.mono h1, fun x hx => Nat.lt_of_lt_of_le (h.lt x hx) h2⟩

theorem results_item {fn : Func} {t : Tmp} (h : fn.results = #[.cell t 26]) (tmps : Array Value) (g : Nat) (ht : tmps.getD t undef = .pointer (some ⟨g, 0, none⟩)) (w : World) (c0 c1 c2 c3 c4 : Value)
    (hb : w.heap[g]? = some (.cells #[c0, c1, c2, c3, c4] 26 (0, 0))) : (results fn tmps).run Tryd.prog w = .ok (.agg #[c0, c1, c2, c3, c4]) w := by
  have d0 : w.cell? ⟨g, 0, none⟩ = some c0 := (cell_of_row _ g 0 _ 26 (0, 0) hb).trans rfl
  have d1 : w.cell? ⟨g, 1, none⟩ = some c1 := (cell_of_row _ g 1 _ 26 (0, 0) hb).trans rfl
  have d2 : w.cell? ⟨g, 2, none⟩ = some c2 := (cell_of_row _ g 2 _ 26 (0, 0) hb).trans rfl
  have d3 : w.cell? ⟨g, 3, none⟩ = some c3 := (cell_of_row _ g 3 _ 26 (0, 0) hb).trans rfl
  have d4 : w.cell? ⟨g, 4, none⟩ = some c4 := (cell_of_row _ g 4 _ 26 (0, 0) hb).trans rfl
  clear hb
  have ht' : tmps[t]?.getD undef = .pointer (some ⟨g, 0, none⟩) := by rw [← ht]; simp
  simp [results, h, go_sem, ht', d0, d1, d2, d3, d4]

theorem heap_kept {B : Nat} {w w' : World} (h : Below B w w') {g : Nat} (hg : g < B) {o : Obj} (e : w.heap[g]? = some o) : w'.heap[g]? = some o := (h.block g hg).trans e

end Go.Proofs.YtjkkokjojaknkaaDoor

namespace Go.Proofs.YtjkkokjojaknkaaDoor
open Go.RowKit

theorem ownsRow_below' {B e size n lo : Nat} {w w' : World} {v : Value} {xs : List Value} (h : w.ownsRow B e size v n xs) (hb : Below lo w w') (hl : ∀ k, v.ownBlock = some k → k < lo) : w'.ownsRow B e size v n xs := by
  refine ⟨h.1, ?_⟩
  rcases h.2 with hn | ⟨g, cap, cur, rfl, hbb, hgg, rest⟩
  · exact .inl hn
  · exact .inr ⟨g, cap, cur, rfl, hbb, (hb.block g (hl g rfl)).trans hgg, rest⟩

/-- The five cells of an item are stored. -/
def set5 (w : World) (g i : Nat) (u0 u1 u2 u3 u4 : Value) : World := ((((w.setCell ⟨g, i * 5, none⟩ u0).setCell ⟨g, i * 5 + 1, none⟩ u1).setCell ⟨g, i * 5 + 2, none⟩ u2).setCell ⟨g, i * 5 + 3, none⟩ u3).setCell ⟨g, i * 5 + 4, none⟩ u4

structure Set5 (B : Nat) (w w' : World) (g n cap i : Nat) (u0 u1 u2 u3 u4 : Value) : Prop where
  own : ∃ vs, w'.ownsRow B 26 5 (.slice (some ⟨g, 0, none⟩) n cap) n vs
  touch : Touch g (g + 1) w w'
  size : w'.heap.size = w.heap.size
  old : ∀ j, j < n * 5 → j < i * 5 ∨ i * 5 + 5 ≤ j → w'.cell? ⟨g, j, none⟩ = w.cell? ⟨g, j, none⟩
  c0 : w'.cell? ⟨g, i * 5, none⟩ = some u0
  c1 : w'.cell? ⟨g, i * 5 + 1, none⟩ = some u1
  c2 : w'.cell? ⟨g, i * 5 + 2, none⟩ = some u2
  c3 : w'.cell? ⟨g, i * 5 + 3, none⟩ = some u3
  c4 : w'.cell? ⟨g, i * 5 + 4, none⟩ = some u4

theorem set5_is {B : Nat} {w : World} {g n cap : Nat} {vs : List Value} (h : w.ownsRow B 26 5 (.slice (some ⟨g, 0, none⟩) n cap) n vs) (i : Nat) (hi : i < n) (u0 u1 u2 u3 u4 : Value) : Set5 B w (set5 w g i u0 u1 u2 u3 u4) g n cap i u0 u1 u2 u3 u4 := by
  have h1 := (((((h.stored (i * 5) u0).1.stored (i * 5 + 1) u1).1.stored (i * 5 + 2) u2).1.stored (i * 5 + 3) u3).1.stored (i * 5 + 4) u4).1
  have hl : vs.length = n * 5 := h.1
  have cc : ∀ j, j < n * 5 → (set5 w g i u0 u1 u2 u3 u4).cell? ⟨g, j, none⟩ = (((((vs.set (i * 5) u0).set (i * 5 + 1) u1).set (i * 5 + 2) u2).set (i * 5 + 3) u3).set (i * 5 + 4) u4)[j]? := fun j hj => h1.cellAt j hj
  refine ⟨⟨_, h1⟩, ?_, by simp [set5], fun j hj ho => ?_, ?_, ?_, ?_, ?_, ?_⟩
  · exact ((((touch_set _ _ _ _ (Nat.le_refl _) (Nat.lt_succ_self _)).trans (touch_set _ _ _ _ (Nat.le_refl _) (Nat.lt_succ_self _))).trans (touch_set _ _ _ _ (Nat.le_refl _) (Nat.lt_succ_self _))).trans (touch_set _ _ _ _ (Nat.le_refl _) (Nat.lt_succ_self _))).trans (touch_set _ _ _ _ (Nat.le_refl _) (Nat.lt_succ_self _))
  · rw [cc j hj, h.cellAt j hj]
    rw [List.getElem?_set_ne (by omega), List.getElem?_set_ne (by omega), List.getElem?_set_ne (by omega), List.getElem?_set_ne (by omega), List.getElem?_set_ne (by omega)]
  · rw [cc _ (by omega), List.getElem?_set_ne (by omega), List.getElem?_set_ne (by omega), List.getElem?_set_ne (by omega), List.getElem?_set_ne (by omega), List.getElem?_set_self (by omega)]
  · rw [cc _ (by omega), List.getElem?_set_ne (by omega), List.getElem?_set_ne (by omega), List.getElem?_set_ne (by omega), List.getElem?_set_self (by simp; omega)]
  · rw [cc _ (by omega), List.getElem?_set_ne (by omega), List.getElem?_set_ne (by omega), List.getElem?_set_self (by simp; omega)]
  · rw [cc _ (by omega), List.getElem?_set_ne (by omega), List.getElem?_set_self (by simp; omega)]
  · rw [cc _ (by omega), List.getElem?_set_self (by simp; omega)]

end Go.Proofs.YtjkkokjojaknkaaDoor
