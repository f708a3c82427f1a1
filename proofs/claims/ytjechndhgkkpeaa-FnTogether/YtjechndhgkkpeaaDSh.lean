import Derived.Test.YtjechndhgkkpeaaGL3
import Derived.Test.YtjechndhgkkpeaaGS
import Derived.Laws.AppendOwnNone
import Derived.Deep.RegionHeldLaw
namespace Go.Proofs.Ytjechndhgkkpeaa
open Go.RowKit

def flat (ps : List (Int × Int)) : List Value := ps.flatMap fun p => [Value.int .i64 p.1, .int .i64 p.2]
theorem flat_nil : flat [] = [] := rfl
theorem flat_cons (p : Int × Int) (r : List (Int × Int)) : flat (p :: r) = Value.int .i64 p.1 :: .int .i64 p.2 :: flat r := rfl
theorem flat_append (a b : List (Int × Int)) : flat (a ++ b) = flat a ++ flat b := by simp [flat, List.flatMap_append]
theorem flat_len (ps : List (Int × Int)) : (flat ps).length = ps.length * 2 := by
  induction ps with
  | nil => rfl
  | cons p r ih => rw [flat_cons]; simp [ih]; omega
theorem flat_get (ps : List (Int × Int)) : ∀ k, k < ps.length → (flat ps)[k * 2]? = some (.int .i64 (ps.getD k (0, 0)).1) ∧ (flat ps)[k * 2 + 1]? = some (.int .i64 (ps.getD k (0, 0)).2) := by
  induction ps with
  | nil => intro k h; simp at h
  | cons p r ih =>
    intro k h
    cases k with
    | zero => simp [flat_cons]
    | succ k =>
      have := ih k (by simpa using h)
      rw [flat_cons, show (k + 1) * 2 = k * 2 + 1 + 1 by omega]
      simpa using this
theorem flat_set (ps : List (Int × Int)) : ∀ k (u : Int × Int), k < ps.length → ((flat ps).set (k * 2) (.int .i64 u.1)).set (k * 2 + 1) (.int .i64 u.2) = flat (ps.set k u) := by
  induction ps with
  | nil => intro k u h; simp at h
  | cons p r ih =>
    intro k u h
    cases k with
    | zero => simp [flat_cons]
    | succ k =>
      have := ih k u (by simpa using h)
      rw [flat_cons, show (k + 1) * 2 = k * 2 + 1 + 1 by omega]
      simp only [List.set_cons_succ, flat_cons]
      rw [this]

/-- The slice at a reads as these shares. -/
structure Shs (w : World) (a : Option Addr) (n : Nat) (ps : List (Int × Int)) : Prop where
  len : ps.length = n
  max : n ≤ 9223372036854775807
  get : ∀ k, k < n → ∃ b off, a = some ⟨b, off, none⟩ ∧ b < w.heap.size ∧ w.cell? ⟨b, off + k * 2, none⟩ = some (.int .i64 (ps.getD k (0, 0)).1) ∧ w.cell? ⟨b, off + k * 2 + 1, none⟩ = some (.int .i64 (ps.getD k (0, 0)).2)
theorem Shs.kept {w w' : World} {a : Option Addr} {n : Nat} {ps : List (Int × Int)} (h : Shs w a n ps) (hb : Below w.heap.size w w') : Shs w' a n ps := by
  refine ⟨h.len, h.max, fun k hk => ?_⟩
  obtain ⟨b, off, ha, hlt, h0, h1⟩ := h.get k hk
  exact ⟨b, off, ha, Nat.lt_of_lt_of_le hlt hb.size, (hb.cell (p := ⟨b, off + k * 2, none⟩) hlt).trans h0, (hb.cell (p := ⟨b, off + k * 2 + 1, none⟩) hlt).trans h1⟩
/-- Shares of our own, from B on. -/
structure OwnSh (B : Nat) (w : World) (a : Option Addr) (n cap : Nat) (ps : List (Int × Int)) : Prop where
  row : w.ownsRow B 33 2 (.slice a n cap) n (flat ps)
  max : n ≤ 9223372036854775807
theorem OwnSh.len {B : Nat} {w : World} {a : Option Addr} {n cap : Nat} {ps : List (Int × Int)} (h : OwnSh B w a n cap ps) : ps.length = n := by
  have := h.row.1
  rw [flat_len] at this
  omega
theorem OwnSh.shape {B : Nat} {w : World} {a : Option Addr} {n cap : Nat} {ps : List (Int × Int)} (h : OwnSh B w a n cap ps) (hn : 0 < n) : ∃ g, a = some ⟨g, 0, none⟩ ∧ B ≤ g ∧ g < w.heap.size := by
  rcases h.row.2 with ⟨_, h0⟩ | ⟨g, cap', cur, hv, hb, hg, _⟩
  · omega
  · simp only [Value.slice.injEq] at hv
    exact ⟨g, hv.1, hb, (Array.getElem?_eq_some_iff.1 hg).1⟩
theorem OwnSh.toShs {B : Nat} {w : World} {a : Option Addr} {n cap : Nat} {ps : List (Int × Int)} (h : OwnSh B w a n cap ps) : Shs w a n ps := by
  refine ⟨h.len, h.max, fun k hk => ?_⟩
  obtain ⟨g, rfl, _, hg⟩ := h.shape (by omega)
  have hf := flat_get ps k (by rw [h.len]; exact hk)
  exact ⟨g, 0, rfl, hg, by rw [Nat.zero_add, h.row.cellAt _ (by omega)]; exact hf.1, by rw [Nat.zero_add, h.row.cellAt _ (by omega)]; exact hf.2⟩
theorem OwnSh.kept {B : Nat} {w w' : World} {a : Option Addr} {n cap : Nat} {ps : List (Int × Int)} (h : OwnSh B w a n cap ps) (hb : Below w.heap.size w w') : OwnSh B w' a n cap ps := ⟨ownsRow_below h.row hb, h.max⟩
theorem OwnSh.touch {lo hi B : Nat} {w w' : World} {a : Option Addr} {n cap : Nat} {ps : List (Int × Int)} (h : OwnSh B w a n cap ps) (ht : Touch lo hi w w') (hd : hi ≤ B) : OwnSh B w' a n cap ps := by
  refine ⟨⟨h.row.1, ?_⟩, h.max⟩
  rcases h.row.2 with hn' | ⟨g, cap', cur, hv, hbb, hgg, rest⟩
  · exact .inl hn'
  · exact .inr ⟨g, cap', cur, hv, hbb, (ht.block g (Array.getElem?_eq_some_iff.1 hgg).1 (by omega)).trans hgg, rest⟩
theorem Shs.touch {lo hi q : Nat} {w w' : World} {a : Option Addr} {n : Nat} {ps : List (Int × Int)} (h : Shs w a n ps) (hq : ∀ b off, a = some ⟨b, off, none⟩ → 0 < n → b < q) (hd : q ≤ lo) (ht : Touch lo hi w w') : Shs w' a n ps := by
  refine ⟨h.len, h.max, fun k hk => ?_⟩
  obtain ⟨b, off, ha, hlt, h0, h1⟩ := h.get k hk
  have hp := hq b off ha (by omega)
  exact ⟨b, off, ha, Nat.lt_of_lt_of_le hlt ht.size, (World.cell?_of_block (a := ⟨b, off + k * 2, none⟩) (ht.block b hlt (by omega))).trans h0, (World.cell?_of_block (a := ⟨b, off + k * 2 + 1, none⟩) (ht.block b hlt (by omega))).trans h1⟩
theorem Shs.under {w : World} {a : Option Addr} {n : Nat} {ps : List (Int × Int)} (h : Shs w a n ps) : ∀ b off, a = some ⟨b, off, none⟩ → 0 < n → b < w.heap.size := by
  intro b off ha hn
  obtain ⟨b', off', ha', hb, _⟩ := h.get 0 hn
  rw [ha'] at ha
  simp at ha
  omega
theorem OwnSh.store {B : Nat} {w : World} {g n cap : Nat} {ps : List (Int × Int)} (h : OwnSh B w (some ⟨g, 0, none⟩) n cap ps) (k : Nat) (hk : k < n) (u : Int × Int) :
    OwnSh B ((w.setCell ⟨g, k * 2, none⟩ (.int .i64 u.1)).setCell ⟨g, k * 2 + 1, none⟩ (.int .i64 u.2)) (some ⟨g, 0, none⟩) n cap (ps.set k u) := by
  refine ⟨?_, h.max⟩
  have := ((h.row.stored (k * 2) (.int .i64 u.1)).1.stored (k * 2 + 1) (.int .i64 u.2)).1
  rwa [flat_set ps k u (by rw [h.len]; exact hk)] at this
theorem own_sh_empty (w : World) : OwnSh w.heap.size (w.alloc (.cells #[] 33)) (some ⟨w.heap.size, 0, none⟩) 0 0 [] :=
  ⟨World.ownsRow_lit w #[] 0 (Nat.le_refl _) (Nat.zero_le _) rfl, by decide⟩
theorem own_sh_none (B : Nat) (w : World) : OwnSh B w none 0 0 [] := ⟨World.ownsRow_nil _ _ _ _, by decide⟩

end Go.Proofs.Ytjechndhgkkpeaa
