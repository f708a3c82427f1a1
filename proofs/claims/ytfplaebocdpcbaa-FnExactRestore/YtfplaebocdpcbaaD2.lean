import Derived.Test.YtfplaebocdpcbaaD1
import Derived.Test.YtfplaebocdpcbaaWApp
namespace Go.Proofs.Ytfplaebocdpcbaa
open Go.RowKit

theorem horn_same (v q z : Int) : (v + q) % 500000003 * z % 500000003 = (v + q) * z % 500000003 := by
  rw [Int.mul_emod, Int.emod_emod_of_dvd _ (Int.dvd_refl _), ← Int.mul_emod]
theorem dealL_next (s : Int) (ms : List Int) (k : Nat) : dealL s ms (k + 1) = dealL s ms k ++ [dealt s ms k] := by simp [dealL, List.range_succ]
theorem own_sh_appended {B : Nat} {w : World} {v : Value} {m : Nat} {ps : List (Int × Int)} (hm : m ≤ 9223372036854775807) (h : w.ownsRow B 38 2 v m (flat ps)) : ∃ a cap, v = .slice a m cap ∧ OwnSh B w a m cap ps := by
  rcases h.2 with ⟨rfl, rfl⟩ | ⟨g, cap, cur, rfl, r⟩
  · exact ⟨_, _, rfl, h, hm⟩
  · exact ⟨_, _, rfl, h, hm⟩

end Go.Proofs.Ytfplaebocdpcbaa
