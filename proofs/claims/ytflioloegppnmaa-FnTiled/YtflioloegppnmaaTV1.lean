import Derived.Test.YtflioloegppnmaaTTA
import Derived.Test.YtflioloegppnmaaWI64
namespace Go.Proofs.Ytflioloegppnmaa
open Go.RowKit

theorem wraps_u64' (n : Int) (h₀ : 0 ≤ n) (h₁ : n < 2 ^ 64) : IntKind.u64.wrap n = n := by rw [IntKind.wrap_u64]; omega
theorem and15 (x : Int) (hx : 0 ≤ x) (hx' : x ≤ 18446744073709551615) : bits .and .u64 x 15 = x % 16 := bits_mask .u64 64 (by decide) wraps_u64' 4 (by decide) x hx (by omega)
theorem and15i (x : Int) (hx : 0 ≤ x) (hx' : x ≤ 9223372036854775807) : bits .and .i64 x 15 = x % 16 := bits_mask .i64 63 (by decide) wraps_i64' 4 (by decide) x hx (by omega)

end Go.Proofs.Ytflioloegppnmaa
