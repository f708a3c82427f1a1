import Derived.Test.YtgbjleapaioemaaGreatTV3
namespace Go.Proofs.YtgbjleapaioemaaGreat
open Go.RowKit

theorem run_index_vA (w : World) (l : List Int) (hl : l.length = 18) (k : Nat) (hk : k < 18) : (Instr.index 156 (.agg (vA l)) (.int .i64 (k : Int))).run Tryz.prog w = .ok (.int .i64 (l.getD k 0)) w := by
  have h1 : 0 ≤ (k : Int) ∧ (k : Int) < ((18 : Nat) : Int) := by omega
  have h3 : (vA l)[k]? = some (.int .i64 (l.getD k 0)) := by rw [vA_get, List.getElem?_eq_getElem (by omega)]; simp [show k < l.length by omega]
  simp [Instr.index, run_underlying Tryz.underlying156, asIntOf, h1, part, go_sem]
  rw [if_pos hk, h3]
  simp
def tsv (leaf : Int) (ae : Option Addr) (ne ce : Nat) (ap : Option Addr) (np cp : Nat) : Value := .agg #[.int .i64 leaf, .slice ae ne ce, .slice ap np cp]
def endV (bs ez : List Int) (i : Nat) : Int := stepsN (ez.getD i 0) (15 - (diL (hashL bs)).getD i 0).toNat
def endVs (bs ez : List Int) : List Int := (List.range 18).map (endV bs ez)
theorem endVs_len (bs ez : List Int) : (endVs bs ez).length = 18 := by simp [endVs]
theorem endVs_get (bs ez : List Int) (d : Nat) (h : d < 18) : (endVs bs ez).getD d 0 = endV bs ez d := by simp [endVs, h]
theorem endVs_bd (bs ez : List Int) (hz : ∀ k, U64 (ez.getD k 0)) : ∀ k, U64 ((endVs bs ez).getD k 0) := by
  intro k
  by_cases h : k < 18
  · rw [endVs_get bs ez k h]; exact stepsN_bd _ (hz k) _
  · rw [List.getD_eq_getElem?_getD, List.getElem?_eq_none (by rw [endVs_len]; omega)]; simp [U64]
def tvP (root h : Int) (bs : List Int) (leaf : Int) (ez pz : List Int) : Prop := (0 ≤ h ∧ h ≤ 5) ∧ (0 ≤ leaf ∧ leaf ≤ ((2 ^ h.toNat : Nat) : Int) - 1) ∧ ez.length = 18 ∧ (pz.length : Int) = h ∧ climb (hashD leW (endVs bs ez)) leaf.toNat pz pz.length = root
instance (root h : Int) (bs : List Int) (leaf : Int) (ez pz : List Int) : Decidable (tvP root h bs leaf ez pz) := by unfold tvP; infer_instance

end Go.Proofs.YtgbjleapaioemaaGreat
