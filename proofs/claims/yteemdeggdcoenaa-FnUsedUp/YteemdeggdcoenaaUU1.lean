import Derived.Test.YteemdeggdcoenaaTS1
namespace Go.Proofs.Yteemdeggdcoenaa
open Go.RowKit

theorem steps_add (v : Int) (a b : Nat) : stepsN (stepsN v a) b = stepsN v (a + b) := by
  induction b with
  | zero => rfl
  | succ b ih => rw [stepsN, ih]; rfl
theorem endV_made (seed next : Int) (bs : List Int) (i : Nat) (hi : i < 18) : endV bs (endSs seed next bs) i = endN seed next i := by
  have hd := diL_bd (hashL bs) i
  unfold endV
  rw [endSs_get seed next bs i hi]
  unfold endS
  rw [steps_add]
  unfold endN
  congr 1
  omega
theorem endVs_made (seed next : Int) (bs : List Int) : endVs bs (endSs seed next bs) = endsN seed next := by
  unfold endVs endsN
  apply List.map_congr_left
  intro i hi
  exact endV_made seed next bs i (List.mem_range.1 hi)
theorem pathN_get (zs : List Int) (L H k : Nat) (hk : k < H) : (pathN zs L H).getD k 0 = (lev zs k).getD (sib (L / 2 ^ k)) 0 := by
  induction H with
  | zero => omega
  | succ H ih =>
    rw [pathN, List.getD_eq_getElem?_getD, List.getElem?_append]
    by_cases h : k < H
    · rw [if_pos (by rw [pathN_len]; exact h), ← List.getD_eq_getElem?_getD, ih h]
    · obtain rfl : k = H := by omega
      rw [if_neg (by rw [pathN_len]; omega), pathN_len, Nat.sub_self]
      rfl
theorem climb_made (zs : List Int) (L H : Nat) (hz : zs.length = 2 ^ H) (hL : L < 2 ^ H) (k : Nat) (hk : k ≤ H) : climb (zs.getD L 0) L (pathN zs L H) k = (lev zs k).getD (L / 2 ^ k) 0 := by
  induction k with
  | zero => simp [climb, lev]
  | succ k ih =>
    have hx := div_pow_lt hL hk
    have hl := lev_len zs H k hz (by omega)
    have e : L / 2 ^ (k + 1) = L / 2 ^ k / 2 := by rw [Nat.pow_succ, Nat.div_div_eq_div_mul]
    rw [climb, ih (by omega), pathN_get zs L H k (by omega), lev, upL_get _ _ (by have e2 : 2 ^ (H - k) = 2 ^ (H - (k + 1)) * 2 := by { rw [show H - k = H - (k + 1) + 1 by omega, Nat.pow_succ] }; rw [hl, e2, Nat.mul_div_cancel _ (by decide)]; exact hx)]
    unfold upN sib
    rw [e]
    obtain ⟨x, hxx⟩ : ∃ x, x = L / 2 ^ k := ⟨_, rfl⟩
    rw [← hxx]
    by_cases h : x % 2 = 0
    · rw [if_pos h, if_pos h, show 2 * (x / 2) = x by omega]
    · rw [if_neg h, if_neg h, show 2 * (x / 2) + 1 = x by omega, show 2 * (x / 2) = x - 1 by omega]
theorem made_taken (seed h next : Int) (bs : List Int) (hk : kP h next) (hu : ¬ (next = ((2 ^ h.toNat : Nat) : Int))) :
    tvP (rootN seed h) h bs next (endSs seed next bs) (pathN (leavesN seed (2 ^ h.toNat)) next.toNat h.toNat) := by
  obtain ⟨hh, hn0, hn1⟩ := hk
  have hL : next.toNat < 2 ^ h.toNat := by omega
  refine ⟨hh, ⟨hn0, by omega⟩, endSs_len _ _ _, by rw [pathN_len]; omega, ?_⟩
  rw [endVs_made, pathN_len]
  have e : hashD leW (endsN seed next) = (leavesN seed (2 ^ h.toNat)).getD next.toNat 0 := by
    rw [leavesN_get seed _ _ hL]
    show leafN seed next = leafN seed ((next.toNat : Nat) : Int)
    rw [show ((next.toNat : Nat) : Int) = next by omega]
  rw [e, climb_made _ _ h.toNat (leavesN_len _ _) hL h.toNat (Nat.le_refl _)]
  unfold rootN
  rw [Nat.div_eq_of_lt hL]

end Go.Proofs.Yteemdeggdcoenaa
