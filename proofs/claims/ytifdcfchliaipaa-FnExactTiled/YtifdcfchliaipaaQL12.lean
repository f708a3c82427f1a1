import Derived.Test.YtifdcfchliaipaaQLM
namespace Go.Proofs.Ytifdcfchliaipaa
open Go.RowKit Go.Sort

/-- The roots of the parts of a tile, those that are whole, of the first k. -/
def tlF (zs : List Int) (p ix : Nat) : Nat → List Int
  | 0 => []
  | k + 1 => if (4 * ix + k) * p + p ≤ zs.length then tlF zs p ix k ++ [rootL ((zs.drop ((4 * ix + k) * p)).take p)] else tlF zs p ix k
theorem tlF_len (zs : List Int) (p ix k : Nat) : (tlF zs p ix k).length ≤ k := by
  induction k with
  | zero => exact Nat.le_refl _
  | succ k ih => rw [tlF]; split; rw [List.length_append, List.length_singleton]; omega; omega
theorem tlF_bd (zs : List Int) (p ix k : Nat) (h : ∀ k, U64 (zs.getD k 0)) : ∀ j, U64 ((tlF zs p ix k).getD j 0) := by
  induction k with
  | zero => intro j; simp [tlF, U64]
  | succ k ih =>
    rw [tlF]
    split
    · exact u64_snoc ih (rootL_bd _ (u64_take (u64_drop h _) _))
    · exact ih
theorem tlF_next (zs : List Int) (p ix k : Nat) (h : (4 * ix + k) * p + p ≤ zs.length) : tlF zs p ix (k + 1) = tlF zs p ix k ++ [rootL ((zs.drop ((4 * ix + k) * p)).take p)] := by rw [tlF, if_pos h]
theorem tlF_stop (zs : List Int) (p ix k : Nat) (h : ¬ (4 * ix + k) * p + p ≤ zs.length) : ∀ j, tlF zs p ix (k + j) = tlF zs p ix k := by
  intro j
  induction j with
  | zero => rfl
  | succ j ih =>
    rw [← Nat.add_assoc, tlF, if_neg, ih]
    have : (4 * ix + k) * p ≤ (4 * ix + (k + j)) * p := Nat.mul_le_mul_right _ (by omega)
    omega
theorem tlF_full (zs : List Int) (p ix k : Nat) (h : (4 * ix + k) * p + p ≤ zs.length) : ∀ j, j ≤ k + 1 → (tlF zs p ix j).length = j := by
  intro j
  induction j with
  | zero => intro _; rfl
  | succ j ih =>
    intro hj
    have : (4 * ix + j) * p ≤ (4 * ix + k) * p := Nat.mul_le_mul_right _ (by omega)
    rw [tlF_next zs p ix j (by omega), List.length_append, ih (by omega), List.length_singleton]
def tileR (zs : List Int) (lv ix : Int) : List Int × Bool := if zs.length ≤ 200 ∧ 0 ≤ lv ∧ lv ≤ 3 ∧ 0 ≤ ix ∧ ix ≤ 200 then (tlF zs (4 ^ lv.toNat) ix.toNat 4, decide (0 < (tlF zs (4 ^ lv.toNat) ix.toNat 4).length)) else ([], false)
theorem tileR_le (zs : List Int) (lv ix : Int) : (tileR zs lv ix).1.length ≤ 1002 := by
  unfold tileR
  split
  · have := tlF_len zs (4 ^ lv.toNat) ix.toNat 4
    show (tlF zs (4 ^ lv.toNat) ix.toNat 4).length ≤ _
    omega
  · exact Nat.zero_le _
theorem pow4_le (l : Nat) (h : l ≤ 3) : 0 < 4 ^ l ∧ 4 ^ l ≤ 64 := by
  have h1 := Nat.pow_le_pow_right (n := 4) (by decide) h
  have h2 := Nat.pow_pos (n := l) (show 0 < 4 by decide)
  exact ⟨h2, h1⟩

set_option maxHeartbeats 1000000 in
theorem partSize_any (l : Nat) (w : World) (hl : l ≤ 3) :
    Calls Try.prog 50 #[.int .i64 l] w fun e w' => e = .returned (.int .i64 ((4 ^ l : Nat) : Int)) ∧ w' = w := by
  go_enter Try.func50, Try.ntmps50
  go_wp2
  go_loop [3, 5] (fun s i => ∃ k p : Nat, k ≤ l ∧ i = .int .i64 k ∧ s = .int .i64 p ∧ p ≤ 64 ∧ Hid (p = 4 ^ k)) (fun _ i => l - (intOf i).toNat)
  case atStart => exact ⟨0, 1, Nat.zero_le _, rfl, rfl, by decide, rfl⟩
  case round =>
    obtain ⟨k, p, hk, rfl, rfl, hp, HP⟩ := hrel
    by_cases hlt : k < l
    · have hi : (k : Int) < (l : Int) := by omega
      have HP2 : Hid (p * 4 = 4 ^ (k + 1)) := by show _ = _; rw [HP.out, Nat.pow_succ]
      go_wp2
      go_round
      case rel => exact ⟨k + 1, p * 4, by omega, by go_num, by go_num, by have := HP2.out; have := (pow4_le (k + 1) (by omega)).2; omega, HP2⟩
      case measure => simp [intOf]; omega
    · obtain rfl : k = l := by omega
      go_wp2
      go_ret
      exact ⟨by rw [HP.out]; rfl, rfl⟩

end Go.Proofs.Ytifdcfchliaipaa
