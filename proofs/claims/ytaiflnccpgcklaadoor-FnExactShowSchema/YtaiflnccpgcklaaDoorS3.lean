import Derived.Test.YtaiflnccpgcklaaDoorS2
namespace Go.Proofs.YtaiflnccpgcklaaDoor
open Go.RowKit

set_option maxHeartbeats 400000 in
theorem l1In_any (x lo hi : Int) (w : World) : Calls Tryd.prog 32 #[.int .i64 x, .int .i64 lo, .int .i64 hi] w fun e w' => e = .returned (.bool (decide (lo ≤ x ∧ x ≤ hi))) ∧ w = w' := by
  by_cases h1 : lo ≤ x
  · by_cases h2 : x ≤ hi
    · go_enter Tryd.func32, Tryd.ntmps32
      go_wp2
      go_ret
      exact ⟨by rw [decide_eq_true ⟨h1, h2⟩]; simp [*], rfl⟩
    · go_enter Tryd.func32, Tryd.ntmps32
      go_wp2
      go_ret
      exact ⟨by rw [decide_eq_false (by omega)]; simp [*], rfl⟩
  · go_enter Tryd.func32, Tryd.ntmps32
    go_wp2
    go_ret
    exact ⟨by rw [decide_eq_false (by omega)]; simp [*], rfl⟩

/-- The bounds of a type. -/
def bnd (x : ST) (least most : Int) : Prop := least ≤ x.lo ∧ x.lo ≤ x.hi ∧ x.hi ≤ most
instance (x : ST) (l m : Int) : Decidable (bnd x l m) := by unfold bnd; infer_instance

set_option maxHeartbeats 1000000 in
theorem boundsOk_any (x : ST) (a : Option Addr) (n c : Nat) (least most : Int) (w : World) :
    Calls Tryd.prog 33 #[stv x a n c, .int .i64 least, .int .i64 most] w fun e w' => e = .returned (.bool (decide (bnd x least most))) ∧ Below w.heap.size w w' := by
  have hbl : Below w.heap.size w (w.alloc (.cells #[.int .i64 x.kind, .int .i64 x.lo, .int .i64 x.hi, .bool x.ext, .bool x.opt, .slice a n c] 35)) := (Below.refl _ _).alloc (Nat.le_refl _) _
  by_cases h1 : least ≤ x.lo
  · by_cases h2 : x.lo ≤ x.hi
    · by_cases h3 : x.hi ≤ most
      · have HB : Hid (decide (bnd x least most) = true) := decide_eq_true ⟨h1, h2, h3⟩
        unfold stv
        go_enter Tryd.func33, Tryd.ntmps33
        go_wp2
        go_ret
        exact ⟨by rw [HB.out]; rfl, hbl⟩
      · have HB : Hid (decide (bnd x least most) = false) := decide_eq_false (fun h => h3 h.2.2)
        unfold stv
        go_enter Tryd.func33, Tryd.ntmps33
        go_wp2
        go_ret
        exact ⟨by rw [HB.out]; simp [Array.getD] <;> omega, hbl⟩
    · have HB : Hid (decide (bnd x least most) = false) := decide_eq_false (fun h => h2 h.2.1)
      unfold stv
      go_enter Tryd.func33, Tryd.ntmps33
      go_wp2
      go_ret
      exact ⟨by rw [HB.out]; simp [Array.getD] <;> omega, hbl⟩
  · have HB : Hid (decide (bnd x least most) = false) := decide_eq_false (fun h => h1 h.1)
    unfold stv
    go_enter Tryd.func33, Tryd.ntmps33
    go_wp2
    go_ret
    exact ⟨by rw [HB.out]; simp [Array.getD] <;> omega, hbl⟩

set_option maxHeartbeats 1000000 in
theorem l3Span_any (x : ST) (a : Option Addr) (n c : Nat) (least most : Int) (w : World) :
    Calls Tryd.prog 31 #[stv x a n c, .int .i64 least, .int .i64 most] w fun e w' => e = .returned (.bool (decide (bnd x least most))) ∧ Below w.heap.size w w' := by
  have hbl : Below w.heap.size w (w.alloc (.cells #[.int .i64 x.kind, .int .i64 x.lo, .int .i64 x.hi, .bool x.ext, .bool x.opt, .slice a n c] 35)) := (Below.refl _ _).alloc (Nat.le_refl _) _
  unfold stv
  by_cases h1 : least ≤ x.lo ∧ x.lo ≤ most
  · by_cases h2 : least ≤ x.hi ∧ x.hi ≤ most
    · by_cases h3 : x.lo ≤ x.hi
      · have HB : Hid (decide (bnd x least most) = true) := decide_eq_true ⟨h1.1, h3, h2.2⟩
        go_enter Tryd.func31, Tryd.ntmps31
        go_wp2_with fail
        refine (l1In_any x.lo least most _).mono ?_
        rintro e w1 ⟨rfl, rfl⟩
        rw [decide_eq_true h1]
        go_wp2_with fail
        refine (l1In_any x.hi least most _).mono ?_
        rintro e w1 ⟨rfl, rfl⟩
        rw [decide_eq_true h2]
        go_wp2
        go_ret
        exact ⟨by rw [HB.out]; rfl, hbl⟩
      · have HB : Hid (decide (bnd x least most) = false) := decide_eq_false (fun h => h3 h.2.1)
        go_enter Tryd.func31, Tryd.ntmps31
        go_wp2_with fail
        refine (l1In_any x.lo least most _).mono ?_
        rintro e w1 ⟨rfl, rfl⟩
        rw [decide_eq_true h1]
        go_wp2_with fail
        refine (l1In_any x.hi least most _).mono ?_
        rintro e w1 ⟨rfl, rfl⟩
        rw [decide_eq_true h2]
        go_wp2
        go_ret
        exact ⟨by rw [HB.out]; simp [Array.getD] <;> omega, hbl⟩
    · have HB : Hid (decide (bnd x least most) = false) := decide_eq_false (fun h => h2 (by have := h.1; have := h.2.1; have := h.2.2; omega))
      go_enter Tryd.func31, Tryd.ntmps31
      go_wp2_with fail
      refine (l1In_any x.lo least most _).mono ?_
      rintro e w1 ⟨rfl, rfl⟩
      rw [decide_eq_true h1]
      go_wp2_with fail
      refine (l1In_any x.hi least most _).mono ?_
      rintro e w1 ⟨rfl, rfl⟩
      rw [decide_eq_false h2]
      go_wp2
      go_ret
      exact ⟨by rw [HB.out]; rfl, hbl⟩
  · have HB : Hid (decide (bnd x least most) = false) := decide_eq_false (fun h => h1 (by have := h.1; have := h.2.1; have := h.2.2; omega))
    go_enter Tryd.func31, Tryd.ntmps31
    go_wp2_with fail
    refine (l1In_any x.lo least most _).mono ?_
    rintro e w1 ⟨rfl, rfl⟩
    rw [decide_eq_false h1]
    go_wp2
    go_ret
    exact ⟨by rw [HB.out]; rfl, hbl⟩

/-- One type alone. -/
def fieldsP (x : ST) : Prop :=
  (x.kind = 1 ∧ x.lo = 0 ∧ x.hi = 0 ∧ x.ext = false ∧ x.kids.length = 0) ∨ (x.kind = 2 ∧ bnd x (-1000000000000000) 1000000000000000 ∧ x.ext = false ∧ x.kids.length = 0) ∨
  ((x.kind = 3 ∨ x.kind = 4) ∧ bnd x 0 1000 ∧ x.ext = false ∧ x.kids.length = 0) ∨ (x.kind = 5 ∧ x.lo = 0 ∧ bnd x 0 1000 ∧ x.kids.length = 0) ∨ (x.kind = 6 ∧ x.lo = 0 ∧ x.hi = 0 ∧ x.kids.length ≤ 12) ∨
  (x.kind = 7 ∧ bnd x 0 200 ∧ x.ext = false ∧ x.kids.length = 1) ∨ (x.kind = 8 ∧ x.lo = 0 ∧ x.hi = 0 ∧ 1 ≤ x.kids.length ∧ x.kids.length ≤ 12) ∨ (x.kind = 9 ∧ x.hi = 0 ∧ 1 ≤ x.kids.length ∧ x.kids.length ≤ 12)

/-- A bool that tells whether p. -/
def Tells (p : Prop) (w : World) (e : Ending) (w' : World) : Prop := ∃ b, e = .returned (.bool b) ∧ Hid (b = true ↔ p) ∧ Below w.heap.size w w'

end Go.Proofs.YtaiflnccpgcklaaDoor
