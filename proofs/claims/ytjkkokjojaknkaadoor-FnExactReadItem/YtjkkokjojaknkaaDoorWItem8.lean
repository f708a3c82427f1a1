import Derived.Test.YtjkkokjojaknkaaDoorWItem7
namespace Go.Proofs.YtjkkokjojaknkaaDoor
open Go.RowKit

theorem ownsRow_below' {B e size n lo : Nat} {w w' : World} {v : Value} {xs : List Value} (h : w.ownsRow B e size v n xs) (hb : Below lo w w') (hl : ∀ k, v.ownBlock = some k → k < lo) : w'.ownsRow B e size v n xs := by
  refine ⟨h.1, ?_⟩
  rcases h.2 with hn | ⟨g, cap, cur, rfl, hbb, hgg, rest⟩
  · exact .inl hn
  · exact .inr ⟨g, cap, cur, rfl, hbb, (hb.block g (hl g rfl)).trans hgg, rest⟩

/-- The five cells of an item are stored. -/
def set5 (w : World) (g i : Nat) (u0 u1 u2 u3 u4 : Value) : World := ((((w.setCell ⟨g, i * 5, none⟩ u0).setCell ⟨g, i * 5 + 1, none⟩ u1).setCell ⟨g, i * 5 + 2, none⟩ u2).setCell ⟨g, i * 5 + 3, none⟩ u3).setCell ⟨g, i * 5 + 4, none⟩ u4

structure Set5 (B : Nat) (w w' : World) (g n cap i : Nat) (u0 u1 u2 u3 u4 : Value) : Prop where
  own : ∃ vs, w'.ownsRow B 26 5 (.slice (some ⟨g, 0, none⟩) n cap) n vs
  touch : Touch g (g + 1) w w'
  size : w'.heap.size = w.heap.size
  old : ∀ j, j < n * 5 → j < i * 5 ∨ i * 5 + 5 ≤ j → w'.cell? ⟨g, j, none⟩ = w.cell? ⟨g, j, none⟩
  c0 : w'.cell? ⟨g, i * 5, none⟩ = some u0
  c1 : w'.cell? ⟨g, i * 5 + 1, none⟩ = some u1
  c2 : w'.cell? ⟨g, i * 5 + 2, none⟩ = some u2
  c3 : w'.cell? ⟨g, i * 5 + 3, none⟩ = some u3
  c4 : w'.cell? ⟨g, i * 5 + 4, none⟩ = some u4

theorem set5_is {B : Nat} {w : World} {g n cap : Nat} {vs : List Value} (h : w.ownsRow B 26 5 (.slice (some ⟨g, 0, none⟩) n cap) n vs) (i : Nat) (hi : i < n) (u0 u1 u2 u3 u4 : Value) : Set5 B w (set5 w g i u0 u1 u2 u3 u4) g n cap i u0 u1 u2 u3 u4 := by
  have h1 := (((((h.stored (i * 5) u0).1.stored (i * 5 + 1) u1).1.stored (i * 5 + 2) u2).1.stored (i * 5 + 3) u3).1.stored (i * 5 + 4) u4).1
  have hl : vs.length = n * 5 := h.1
  have cc : ∀ j, j < n * 5 → (set5 w g i u0 u1 u2 u3 u4).cell? ⟨g, j, none⟩ = (((((vs.set (i * 5) u0).set (i * 5 + 1) u1).set (i * 5 + 2) u2).set (i * 5 + 3) u3).set (i * 5 + 4) u4)[j]? := fun j hj => h1.cellAt j hj
  refine ⟨⟨_, h1⟩, ?_, by simp [set5], fun j hj ho => ?_, ?_, ?_, ?_, ?_, ?_⟩
  · exact ((((touch_set _ _ _ _ (Nat.le_refl _) (Nat.lt_succ_self _)).trans (touch_set _ _ _ _ (Nat.le_refl _) (Nat.lt_succ_self _))).trans (touch_set _ _ _ _ (Nat.le_refl _) (Nat.lt_succ_self _))).trans (touch_set _ _ _ _ (Nat.le_refl _) (Nat.lt_succ_self _))).trans (touch_set _ _ _ _ (Nat.le_refl _) (Nat.lt_succ_self _))
  · rw [cc j hj, h.cellAt j hj]
    rw [List.getElem?_set_ne (by omega), List.getElem?_set_ne (by omega), List.getElem?_set_ne (by omega), List.getElem?_set_ne (by omega), List.getElem?_set_ne (by omega)]
  · rw [cc _ (by omega), List.getElem?_set_ne (by omega), List.getElem?_set_ne (by omega), List.getElem?_set_ne (by omega), List.getElem?_set_ne (by omega), List.getElem?_set_self (by omega)]
  · rw [cc _ (by omega), List.getElem?_set_ne (by omega), List.getElem?_set_ne (by omega), List.getElem?_set_ne (by omega), List.getElem?_set_self (by simp; omega)]
  · rw [cc _ (by omega), List.getElem?_set_ne (by omega), List.getElem?_set_ne (by omega), List.getElem?_set_self (by simp; omega)]
  · rw [cc _ (by omega), List.getElem?_set_ne (by omega), List.getElem?_set_self (by simp; omega)]
  · rw [cc _ (by omega), List.getElem?_set_self (by simp; omega)]

end Go.Proofs.YtjkkokjojaknkaaDoor
