import Derived.Test.YtjdfbebdcpjpiaaDoorT2
namespace Go.Proofs.YtjdfbebdcpjpiaaDoor
open Go.RowKit

set_option maxRecDepth 10000 in
set_option maxHeartbeats 400000 in
theorem inBounds_t (x lo hi : Int) (w : World) (h : lo ≤ x ∧ x ≤ hi) : Calls Tryd.prog 33 #[.int .i64 x, .int .i64 lo, .int .i64 hi] w fun e w' => e = .returned (.bool true) ∧ w' = w := by
  obtain ⟨h1, h2⟩ := h
  go_enter Tryd.func33, Tryd.ntmps33
  go_wp2
  go_ret
  exact ⟨by simp [*], rfl⟩

set_option maxRecDepth 10000 in
set_option maxHeartbeats 400000 in
theorem inBounds_f (x lo hi : Int) (w : World) (h : ¬ (lo ≤ x ∧ x ≤ hi)) : Calls Tryd.prog 33 #[.int .i64 x, .int .i64 lo, .int .i64 hi] w fun e w' => e = .returned (.bool false) ∧ w' = w := by
  by_cases h1 : lo ≤ x
  · have h2 : hi < x := by omega
    clear h
    go_enter Tryd.func33, Tryd.ntmps33
    go_wp2
    go_ret
    exact ⟨by simp [*], rfl⟩
  · have h2 : x < lo := by omega
    clear h h1
    go_enter Tryd.func33, Tryd.ntmps33
    go_wp2
    go_ret
    exact ⟨by simp [*], rfl⟩

set_option maxRecDepth 10000 in
set_option maxHeartbeats 400000 in
theorem l1In_t (x lo hi : Int) (w : World) (h : lo ≤ x ∧ x ≤ hi) : Calls Tryd.prog 42 #[.int .i64 x, .int .i64 lo, .int .i64 hi] w fun e w' => e = .returned (.bool true) ∧ w' = w := by
  obtain ⟨h1, h2⟩ := h
  go_enter Tryd.func42, Tryd.ntmps42
  go_wp2
  go_ret
  exact ⟨by simp [*], rfl⟩

set_option maxRecDepth 10000 in
set_option maxHeartbeats 400000 in
theorem l1In_f (x lo hi : Int) (w : World) (h : ¬ (lo ≤ x ∧ x ≤ hi)) : Calls Tryd.prog 42 #[.int .i64 x, .int .i64 lo, .int .i64 hi] w fun e w' => e = .returned (.bool false) ∧ w' = w := by
  by_cases h1 : lo ≤ x
  · have h2 : hi < x := by omega
    clear h
    go_enter Tryd.func42, Tryd.ntmps42
    go_wp2
    go_ret
    exact ⟨by simp [*], rfl⟩
  · have h2 : x < lo := by omega
    clear h h1
    go_enter Tryd.func42, Tryd.ntmps42
    go_wp2
    go_ret
    exact ⟨by simp [*], rfl⟩

theorem ext_size (s : ByteArray) (a b : Nat) (hb : b ≤ s.size) : (s.extract a b).size = b - a := by
  rw [ByteArray.size_extract]
  omega
theorem ext_cAt (s : ByteArray) (a b j : Nat) (h : a + j < b) (hb : b ≤ s.size) : cAt (s.extract a b) j = cAt s (a + j) := by
  rw [cAt_get _ j (by rw [ext_size s a b hb]; omega), cAt_get s (a + j) (by omega)]
  rw [ByteArray.getElem_extract]

/-- The number at places a .. b of a text. -/
def gv (s : ByteArray) (a b : Nat) : Int := dgs (s.extract a b) (b - a)
def rangeP (s : ByteArray) : Prop := 1970 ≤ gv s 0 4 ∧ (1 ≤ gv s 5 7 ∧ gv s 5 7 ≤ 12) ∧ (1 ≤ gv s 8 10 ∧ gv s 8 10 ≤ mdays (gv s 0 4) (gv s 5 7)) ∧ gv s 11 13 ≤ 23 ∧ gv s 14 16 ≤ 59 ∧ gv s 17 19 ≤ 59
def valT (s : ByteArray) : Int := 86400 * (dAhead (gv s 0 4) + gv s 8 10 - 1 + msum (gv s 0 4) ((gv s 5 7).toNat - 1)) + 3600 * gv s 11 13 + 60 * gv s 14 16 + gv s 17 19
def timeR (s : ByteArray) (v : Int) (ok : Bool) : Prop := (ok = true ∧ timeF s ∧ rangeP s ∧ v = valT s) ∨ (ok = false ∧ v = 0 ∧ ¬ (timeF s ∧ rangeP s))
theorem timeR_one {s : ByteArray} {v v' : Int} {x y : Bool} (h : timeR s v x) (k : timeR s v' y) : v = v' ∧ x = y := by
  rcases h with ⟨rfl, h1, h2, rfl⟩ | ⟨rfl, rfl, h1⟩
  · rcases k with ⟨rfl, _, _, rfl⟩ | ⟨_, _, k1⟩
    · exact ⟨rfl, rfl⟩
    · exact absurd ⟨h1, h2⟩ k1
  · rcases k with ⟨_, k1, k2, _⟩ | ⟨rfl, rfl, _⟩
    · exact absurd ⟨k1, k2⟩ h1
    · exact ⟨rfl, rfl⟩
def TPost (s : ByteArray) (w : World) (e : Ending) (w' : World) : Prop := ∃ (v : Int) (ok : Bool), e = .returned (.tuple #[.int .i64 v, .bool ok]) ∧ timeR s v ok ∧ Below w.heap.size w w'
theorem tpost_f {s : ByteArray} {w w' : World} (h : ¬ (timeF s ∧ rangeP s)) (hb : Below w.heap.size w w') : TPost s w (.returned (.tuple #[.int .i64 0, .bool false])) w' := ⟨0, false, rfl, .inr ⟨rfl, rfl, h⟩, hb⟩

/-- The digits of a group, where the text has the form of a time. -/
theorem group_dig {s : ByteArray} (h : timeF s) (a b : Nat) (hb : b ≤ 19) (hd : ∀ j, j < b → a ≤ j → tsign.getD j 0 = 0) : digP (s.extract a b) (b - a) := by
  intro j hj
  have h1 := h.2 (a + j) (by omega)
  have h2 := h.1
  rw [ext_cAt s a b j (by omega) (by omega)]
  unfold fits at h1
  rw [if_pos (hd (a + j) (by omega) (by omega))] at h1
  exact h1
theorem dig1_gv {s : ByteArray} (h : timeF s) (a b : Nat) (hb : b ≤ 19) (hd : ∀ j, j < b → a ≤ j → tsign.getD j 0 = 0) : dig1 (s.extract a b) = gv s a b := by
  have e := ext_size s a b (by have := h.1; omega)
  unfold dig1 gv
  rw [e, if_pos (group_dig h a b hb hd)]
theorem dig1_back {s : ByteArray} (a b : Nat) (hb : b ≤ s.size) (h : 0 ≤ dig1 (s.extract a b)) : digP (s.extract a b) (b - a) := by
  have e := ext_size s a b hb
  unfold dig1 at h
  split at h
  · rename_i h2; rw [e] at h2; exact h2
  · omega
theorem dig1_bd (s : ByteArray) (h : s.size ≤ 4) : -1 ≤ dig1 s ∧ dig1 s < 10000 := by
  unfold dig1
  split
  · rename_i h2
    have := dgs_bd4 s s.size h h2
    omega
  · omega
theorem group_fits {s : ByteArray} {a b : Nat} (h : digP (s.extract a b) (b - a)) (hb : b ≤ s.size) (j : Nat) (h1 : a ≤ j) (h2 : j < b) (h0 : tsign.getD j 0 = 0) : fits j (cAt s j) := by
  unfold fits
  rw [if_pos h0]
  have := h (j - a) (by omega)
  rw [ext_cAt s a b (j - a) (by omega) hb, show a + (j - a) = j by omega] at this
  exact this
theorem mdays_bd (y m : Int) (h0 : 1 ≤ m) (h1 : m ≤ 12) : 28 ≤ mdays y m ∧ mdays y m ≤ 31 := by
  by_cases h2 : m = 2
  · unfold mdays ldays; rw [if_pos h2]; split <;> omega
  · have hm : m = 1 ∨ m = 3 ∨ m = 4 ∨ m = 5 ∨ m = 6 ∨ m = 7 ∨ m = 8 ∨ m = 9 ∨ m = 10 ∨ m = 11 ∨ m = 12 := by omega
    unfold mdays
    rw [if_neg h2]
    rcases hm with rfl | rfl | rfl | rfl | rfl | rfl | rfl | rfl | rfl | rfl | rfl <;> decide
theorem msum_bd (y : Int) (n : Nat) (h : n ≤ 12) : 0 ≤ msum y n ∧ msum y n ≤ 31 * n := by
  induction n with
  | zero => exact ⟨Int.le_refl _, by show (0 : Int) ≤ 31 * 0; decide⟩
  | succ n ih =>
    have h1 := ih (by omega)
    have h2 := mdays_bd y (n + 1) (by omega) (by omega)
    rw [msum]
    push_cast
    omega
theorem ysum_bd (n : Nat) : 0 ≤ ysum n ∧ ysum n ≤ 366 * n := by
  induction n with
  | zero => exact ⟨Int.le_refl _, by decide⟩
  | succ n ih =>
    have h2 : 365 ≤ ldays (1970 + n) ∧ ldays (1970 + n) ≤ 366 := by unfold ldays; split <;> omega
    rw [ysum]
    push_cast
    omega
theorem dAhead_bd (y : Int) (h0 : 1970 ≤ y) (h1 : y < 10000) : 0 ≤ dAhead y ∧ dAhead y ≤ 3000000 := by
  obtain ⟨n, hn⟩ : ∃ n : Nat, y = 1970 + n := ⟨(y - 1970).toNat, by omega⟩
  have := ysum_bd n
  rw [ysum_is, ← hn] at this
  omega

end Go.Proofs.YtjdfbebdcpjpiaaDoor
