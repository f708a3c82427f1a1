import Derived.Test.YtlcojjcgaibbiaaGB
namespace Go.Proofs.Ytlcojjcgaibbiaa
open Go.RowKit

/-- What PowMod answers. -/
def powOk (b e m : Int) : Prop := (1 ≤ m ∧ m ≤ 2147483648) ∧ (0 ≤ b ∧ b ≤ m - 1) ∧ 0 ≤ e
instance (b e m : Int) : Decidable (powOk b e m) := by unfold powOk; infer_instance
def powV (b e m : Int) : Int × Bool := if powOk b e m then (pw b e.toNat m, true) else (0, false)
def pair (t : Int × Bool) : Value := .tuple #[.int .i64 t.1, .bool t.2]

end Go.Proofs.Ytlcojjcgaibbiaa
