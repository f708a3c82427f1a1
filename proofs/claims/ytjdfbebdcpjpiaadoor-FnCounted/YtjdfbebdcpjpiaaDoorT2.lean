import Derived.Test.YtjdfbebdcpjpiaaDoorT1
namespace Go.Proofs.YtjdfbebdcpjpiaaDoor
open Go.RowKit

def Says (P : Prop) (w : World) (e : Ending) (w' : World) : Prop := ∃ b, e = .returned (.bool b) ∧ Hid (b = true ↔ P) ∧ Below w.heap.size w w'
theorem says_t {P : Prop} {w w' : World} (h : P) (hb : Below w.heap.size w w') : Says P w (.returned (.bool true)) w' := ⟨true, rfl, ⟨fun _ => h, fun _ => rfl⟩, hb⟩
theorem says_f {P : Prop} {w w' : World} (h : ¬ P) (hb : Below w.heap.size w w') : Says P w (.returned (.bool false)) w' := ⟨false, rfl, ⟨fun e => (by cases e), fun e => absurd e h⟩, hb⟩
theorem below_drewN' {B : Nat} {w w' : World} (h : Below B w w') (n : Nat) : Below B w (w'.drewN n) := by
  induction n with
  | zero => simpa [World.drewN] using h
  | succ n ih => exact ih.drew

/-- The signs of a time: 0 where a digit stands. -/
def tsign : List Int := [0, 0, 0, 0, 45, 0, 0, 45, 0, 0, 32, 0, 0, 58, 0, 0, 58, 0, 0]
def fits (j : Nat) (c : Int) : Prop := if tsign.getD j 0 = 0 then 48 ≤ c ∧ c ≤ 57 else c = tsign.getD j 0
def timeF (s : ByteArray) : Prop := s.size = 19 ∧ ∀ j, j < 19 → fits j (cAt s j)

set_option maxRecDepth 10000 in
set_option maxHeartbeats 400000 in
theorem l6MonthF_any (y : Int) (w : World) (h0 : 0 ≤ y) (h1 : y ≤ 100000) :
    Calls Tryd.prog 43 #[.int .i64 y, .int .i64 2] w fun e w' => e = .returned (.int .i64 (mdays y 2)) ∧ Below w.heap.size w w' := by
  have hl : 365 ≤ ldays y ∧ ldays y ≤ 366 := by unfold ldays; split <;> omega
  obtain ⟨l, hl2⟩ : ∃ l, l = ldays y := ⟨_, rfl⟩
  have HL : Hid (l = ldays y) := hl2
  rw [← hl2] at hl
  go_enter Tryd.func43, Tryd.ntmps43
  go_wp2_with fail
  refine (l6Days_any y _ h0 h1).mono ?_
  rintro e w1 ⟨rfl, hw1⟩
  subst hw1
  rw [← hl2]
  clear hl2
  go_wp2
  go_ret
  exact ⟨by show _ = Ending.returned (.int .i64 (ldays y - 337)); rw [← HL.out]; rfl, Below.refl _ _⟩

set_option maxRecDepth 10000 in
set_option maxHeartbeats 2000000 in
theorem l6Month_any (y m : Int) (w : World) (h0 : 0 ≤ y) (h1 : y ≤ 100000) (hm0 : 1 ≤ m) (hm1 : m ≤ 12) :
    Calls Tryd.prog 43 #[.int .i64 y, .int .i64 m] w fun e w' => e = .returned (.int .i64 (mdays y m)) ∧ Below w.heap.size w w' := by
  by_cases hm2 : m = 2
  · subst hm2; exact l6MonthF_any y w h0 h1
  have hm : m = 1 ∨ m = 3 ∨ m = 4 ∨ m = 5 ∨ m = 6 ∨ m = 7 ∨ m = 8 ∨ m = 9 ∨ m = 10 ∨ m = 11 ∨ m = 12 := by omega
  clear hm0 hm1 hm2
  have hb : ∀ o, Below w.heap.size w (w.alloc o) := fun o => (Below.refl _ _).alloc (Nat.le_refl _) o
  rcases hm with rfl | rfl | rfl | rfl | rfl | rfl | rfl | rfl | rfl | rfl | rfl
  all_goals
    go_enter Tryd.func43, Tryd.ntmps43
    go_wp2
    go_ret
    exact ⟨rfl, hb _⟩

/-- The table that the program reads. -/
structure TabW (w : World) : Prop where
  at_ : ∀ j, j < 12 → w.cell? ⟨0, j, none⟩ = some (.int .i64 (mtab.getD j 0))
theorem TabW.lt {w : World} (h : TabW w) : 0 < w.heap.size := World.block_lt_of_cell? w _ (h.at_ 0 (by decide))
theorem TabW.kept {w w' : World} (h : TabW w) (hb : Below w.heap.size w w') : TabW w' := ⟨fun j hj => (hb.cell (p := ⟨0, j, none⟩) h.lt).trans (h.at_ j hj)⟩

set_option maxRecDepth 10000 in
set_option maxHeartbeats 2000000 in
theorem monthDays_any (y m : Int) (w : World) (hT : TabW w) (h0 : 1 ≤ y) (h1 : y ≤ 99999) (hm0 : 1 ≤ m) (hm1 : m ≤ 12) :
    Calls Tryd.prog 38 #[.int .i64 y, .int .i64 m] w fun e w' => e = .returned (.int .i64 (mdays y m)) ∧ w' = w := by
  have c0 : w.cell? ⟨0, 0, none⟩ = some (.int .i64 31) := hT.at_ 0 (by decide)
  have c1 : w.cell? ⟨0, 1, none⟩ = some (.int .i64 28) := hT.at_ 1 (by decide)
  have c2 : w.cell? ⟨0, 2, none⟩ = some (.int .i64 31) := hT.at_ 2 (by decide)
  have c3 : w.cell? ⟨0, 3, none⟩ = some (.int .i64 30) := hT.at_ 3 (by decide)
  have c4 : w.cell? ⟨0, 4, none⟩ = some (.int .i64 31) := hT.at_ 4 (by decide)
  have c5 : w.cell? ⟨0, 5, none⟩ = some (.int .i64 30) := hT.at_ 5 (by decide)
  have c6 : w.cell? ⟨0, 6, none⟩ = some (.int .i64 31) := hT.at_ 6 (by decide)
  have c7 : w.cell? ⟨0, 7, none⟩ = some (.int .i64 31) := hT.at_ 7 (by decide)
  have c8 : w.cell? ⟨0, 8, none⟩ = some (.int .i64 30) := hT.at_ 8 (by decide)
  have c9 : w.cell? ⟨0, 9, none⟩ = some (.int .i64 31) := hT.at_ 9 (by decide)
  have c10 : w.cell? ⟨0, 10, none⟩ = some (.int .i64 30) := hT.at_ 10 (by decide)
  have c11 : w.cell? ⟨0, 11, none⟩ = some (.int .i64 31) := hT.at_ 11 (by decide)
  clear hT
  by_cases hm2 : m = 2
  · subst hm2
    have hl : 365 ≤ ldays y ∧ ldays y ≤ 366 := by unfold ldays; split <;> omega
    have hn := longY_next y
    have ha : -100000 ≤ longY y ∧ longY y ≤ 100000 := by unfold longY; omega
    obtain ⟨A, hA⟩ : ∃ A, A = longY y := ⟨_, rfl⟩
    obtain ⟨B, hB⟩ : ∃ B, B = longY (y + 1) := ⟨_, rfl⟩
    have HM : Hid (mdays y 2 = 28 + (B - A)) := by show ldays y - 337 = _; rw [hA, hB]; omega
    rw [← hA] at hn ha
    rw [← hB] at hn
    have hb2 : -200000 ≤ B ∧ B ≤ 200000 := by omega
    clear hn hl c0 c2 c3 c4 c5 c6 c7 c8 c9 c10 c11 hm0 hm1
    go_enter Tryd.func38, Tryd.ntmps38
    go_wp2_with fail
    refine (longYears_any (y + 1) _ (by omega) (by omega)).mono ?_
    rintro e w1 ⟨rfl, hw1⟩
    subst hw1
    rw [← hB]
    clear hB
    go_wp2_with fail
    refine (longYears_any y _ (by omega) (by omega)).mono ?_
    rintro e w2 ⟨rfl, hw2⟩
    subst hw2
    rw [← hA]
    clear hA
    go_wp2
    go_ret
    exact ⟨by rw [HM.out]; rfl, rfl⟩
  · have hm : m = 1 ∨ m = 3 ∨ m = 4 ∨ m = 5 ∨ m = 6 ∨ m = 7 ∨ m = 8 ∨ m = 9 ∨ m = 10 ∨ m = 11 ∨ m = 12 := by omega
    clear hm0 hm1 hm2
    rcases hm with rfl | rfl | rfl | rfl | rfl | rfl | rfl | rfl | rfl | rfl | rfl
    all_goals
      go_enter Tryd.func38, Tryd.ntmps38
      go_wp2
      go_ret
      exact ⟨rfl, rfl⟩

def dAhead (y : Int) : Int := 365 * (y - 1970) + longY y - longY 1970
set_option maxRecDepth 10000 in
set_option maxHeartbeats 400000 in
theorem daysAhead_any (y : Int) (w : World) (h0 : 1 ≤ y) (h1 : y ≤ 99999) :
    Calls Tryd.prog 39 #[.int .i64 y] w fun e w' => e = .returned (.int .i64 (dAhead y)) ∧ w' = w := by
  have ha : -100000 ≤ longY y ∧ longY y ≤ 100000 := by unfold longY; omega
  obtain ⟨A, hA⟩ : ∃ A, A = longY y := ⟨_, rfl⟩
  have e70 : longY 1970 = 477 := by decide
  have HM : Hid (dAhead y = 365 * (y - 1970) + A - 477) := by show _ = _; unfold dAhead; rw [hA, e70]
  rw [← hA] at ha
  go_enter Tryd.func39, Tryd.ntmps39
  go_wp2_with fail
  refine (longYears_any y _ (by omega) (by omega)).mono ?_
  rintro e w1 ⟨rfl, hw1⟩
  subst hw1
  rw [← hA]
  clear hA
  go_wp2_with fail
  refine (longYears_any 1970 _ (by decide) (by decide)).mono ?_
  rintro e w2 ⟨rfl, hw2⟩
  subst hw2
  rw [e70]
  clear e70
  go_wp2
  go_ret
  exact ⟨by rw [HM.out]; rfl, rfl⟩
/-- The days of n years from 1970 on. -/
def ysum : Nat → Int
  | 0 => 0
  | n + 1 => ysum n + ldays (1970 + n)
theorem ysum_is (n : Nat) : ysum n = dAhead (1970 + n) := by
  induction n with
  | zero => rfl
  | succ n ih =>
    have h := longY_next (1970 + n)
    rw [ysum, ih]
    unfold dAhead
    have e : (1970 : Int) + (n + 1 : Nat) = 1970 + n + 1 := by omega
    rw [e]
    omega
def msum (y : Int) : Nat → Int
  | 0 => 0
  | n + 1 => msum y n + mdays y (n + 1)

end Go.Proofs.YtjdfbebdcpjpiaaDoor
