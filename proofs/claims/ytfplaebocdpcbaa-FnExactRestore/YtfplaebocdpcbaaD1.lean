import Derived.Test.YtfplaebocdpcbaaDSh2
import Derived.Test.YtfplaebocdpcbaaGJ1
import Derived.OwnWalk
namespace Go.Proofs.Ytfplaebocdpcbaa
open Go.RowKit

/-- The last k numbers, from the last on, by z. -/
def hornF (ms : List Int) (z : Int) : Nat → Int
  | 0 => 0
  | k + 1 => (hornF ms z k + ms.getD (ms.length - 1 - k) 0) * z % 500000003
theorem hornF_bd (ms : List Int) (z : Int) (k : Nat) : 0 ≤ hornF ms z k ∧ hornF ms z k < 500000003 := by
  cases k with
  | zero => exact ⟨Int.le_refl _, by show (0 : Int) < _; decide⟩
  | succ k => exact mod_bd _ (by decide)
def valN (s : Int) (ms : List Int) (z : Int) : Int := (hornF ms z ms.length + s) % 500000003
theorem mul20 {x z : Int} (h0 : 0 ≤ x) (h1 : x ≤ 1000000006) (hz0 : 0 ≤ z) (hz1 : z ≤ 20) : 0 ≤ x * z ∧ x * z ≤ 20000000120 := by
  refine ⟨Int.mul_nonneg h0 hz0, ?_⟩
  have := Int.mul_le_mul_of_nonneg_left hz1 h0
  omega

def dealt (s : Int) (ms : List Int) (i : Nat) : Int × Int := (((i + 1 : Nat) : Int), valN s ms ((i + 1 : Nat) : Int))
def dealL (s : Int) (ms : List Int) (n : Nat) : List (Int × Int) := (List.range n).map (dealt s ms)
theorem dealL_len (s : Int) (ms : List Int) (n : Nat) : (dealL s ms n).length = n := by simp [dealL]
theorem dealL_get (s : Int) (ms : List Int) (n k : Nat) (h : k < n) : (dealL s ms n).getD k (0, 0) = dealt s ms k := by simp [dealL, h]
def dealP (s : Int) (ms : List Int) (n : Int) : Prop := expP s ∧ ms.length ≤ 19 ∧ expsP ms ∧ (1 ≤ n ∧ n ≤ 20)
instance (s : Int) (ms : List Int) (n : Int) : Decidable (dealP s ms n) := by unfold dealP; infer_instance
def dealR (s : Int) (ms : List Int) (n : Int) : List (Int × Int) := if dealP s ms n then dealL s ms n.toNat else []

/-- The first k shares lie in the row. -/
def Pre2 (vs : List Value) (ps : List (Int × Int)) (k : Nat) : Prop := ∀ j, j < k → vs[j * 2]? = some (.int .i64 (ps.getD j (0, 0)).1) ∧ vs[j * 2 + 1]? = some (.int .i64 (ps.getD j (0, 0)).2)
theorem Pre2.set {vs : List Value} {ps : List (Int × Int)} {k : Nat} (h : Pre2 vs ps k) (hk : k * 2 + 1 < vs.length) : Pre2 ((vs.set (k * 2) (.int .i64 (ps.getD k (0, 0)).1)).set (k * 2 + 1) (.int .i64 (ps.getD k (0, 0)).2)) ps (k + 1) := by
  intro j hj
  by_cases e : j = k
  · subst e
    refine ⟨?_, ?_⟩
    · rw [List.getElem?_set_ne (by omega), List.getElem?_set_self (by omega)]
    · rw [List.getElem?_set_self (by simp; omega)]
  · have h1 := h j (by omega)
    refine ⟨?_, ?_⟩
    · rw [List.getElem?_set_ne (by omega), List.getElem?_set_ne (by omega)]; exact h1.1
    · rw [List.getElem?_set_ne (by omega), List.getElem?_set_ne (by omega)]; exact h1.2
theorem Pre2.all {vs : List Value} {ps : List (Int × Int)} {n : Nat} (h : Pre2 vs ps n) (hv : vs.length = n * 2) (hp : ps.length = n) : vs = flat ps := by
  apply List.ext_getElem?
  intro i
  by_cases hi : i < n * 2
  · have h1 := h (i / 2) (by omega)
    have h2 := flat_get ps (i / 2) (by omega)
    rcases Nat.mod_two_eq_zero_or_one i with e | e
    · have ei : i / 2 * 2 = i := by omega
      rw [ei] at h1 h2
      exact h1.1.trans h2.1.symm
    · have ei : i / 2 * 2 + 1 = i := by omega
      rw [ei] at h1 h2
      exact h1.2.trans h2.2.symm
  · rw [List.getElem?_eq_none (by omega), List.getElem?_eq_none (by rw [flat_len]; omega)]

theorem Try.infoShare : (Try.prog.info? 38).map (fun i => (i.zero, i.size, i.bytes)) = some (some (.agg #[.int .i64 0, .int .i64 0]), 2, 16) := by kernel_rfl

end Go.Proofs.Ytfplaebocdpcbaa
