import Derived.Test.YtkngnmnfkedfcaaGreatTT8
namespace Go.Proofs.YtkngnmnfkedfcaaGreat
open Go.RowKit

def lenT : Value → Nat
  | .slice _ n _ => n
  | _ => 0
def sib (x : Nat) : Nat := if x % 2 = 0 then x + 1 else x - 1
theorem xor_sib : ∀ x : Nat, x < 32 → bits .xor .i64 (x : Int) 1 = (sib x : Int) := by decide +kernel
theorem sib_lt {x m : Nat} (h : x < 2 * m) : sib x < 2 * m := by unfold sib; split <;> omega
/-- The rows above a row. -/
def lev (zs : List Int) : Nat → List Int
  | 0 => zs
  | k + 1 => upL (lev zs k)
theorem lev_len (zs : List Int) (H k : Nat) (hz : zs.length = 2 ^ H) (hk : k ≤ H) : (lev zs k).length = 2 ^ (H - k) := by
  induction k with
  | zero => exact hz
  | succ k ih =>
    rw [lev, upL_len, ih (by omega), show H - k = H - (k + 1) + 1 by omega, Nat.pow_succ]
    omega
theorem lev_bd (zs : List Int) (hz : ∀ k, U64 (zs.getD k 0)) (j : Nat) : ∀ k, U64 ((lev zs j).getD k 0) := by
  cases j with
  | zero => exact hz
  | succ j => exact upL_bd _
/-- What stands beside the way up from a leaf. -/
def pathN (zs : List Int) (L : Nat) : Nat → List Int
  | 0 => []
  | k + 1 => pathN zs L k ++ [(lev zs k).getD (sib (L / 2 ^ k)) 0]
theorem pathN_len (zs : List Int) (L k : Nat) : (pathN zs L k).length = k := by
  induction k with
  | zero => rfl
  | succ k ih => rw [pathN, List.length_append, ih]; rfl
theorem pathN_bd (zs : List Int) (hz : ∀ k, U64 (zs.getD k 0)) (L k : Nat) : ∀ j, U64 ((pathN zs L k).getD j 0) := by
  induction k with
  | zero => intro j; simp [pathN, U64]
  | succ k ih => exact u64_snoc ih (lev_bd zs hz k _)
theorem div_pow_lt {L H k : Nat} (hL : L < 2 ^ H) (hk : k ≤ H) : L / 2 ^ k < 2 ^ (H - k) := by
  rw [Nat.div_lt_iff_lt_mul (Nat.pow_pos (by decide)), ← Nat.pow_add, show H - k + k = H by omega]
  exact hL
theorem HN.pow {h : Int} {N : Nat} (hn : HN h N) : N = 2 ^ h.toNat ∧ h.toNat ≤ 5 := by
  unfold HN at hn
  rcases hn with ⟨rfl, rfl⟩ | ⟨rfl, rfl⟩ | ⟨rfl, rfl⟩ | ⟨rfl, rfl⟩ | ⟨rfl, rfl⟩ | ⟨rfl, rfl⟩ <;> decide

end Go.Proofs.YtkngnmnfkedfcaaGreat
