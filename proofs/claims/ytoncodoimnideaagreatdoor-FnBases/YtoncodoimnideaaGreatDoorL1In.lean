import Derived.Test.YtoncodoimnideaaGreatDoorCAt
import Derived.Test.YtoncodoimnideaaGreatDoorProg
namespace Go.Proofs.YtoncodoimnideaaGreatDoor
open Go.RowKit

set_option maxRecDepth 10000 in
set_option maxHeartbeats 400000 in
theorem l1In_says (x lo hi : Int) (w : World) : Calls Tryz.prog 41 #[.int .i64 x, .int .i64 lo, .int .i64 hi] w (SaysW (lo ≤ x ∧ x ≤ hi) w) := by
  have hc : (lo ≤ x ∧ x ≤ hi) ∨ (lo ≤ x ∧ hi < x) ∨ x < lo := by omega
  rcases hc with ⟨h1, h2⟩ | ⟨h1, h2⟩ | h1
  · have HN : Hid (lo ≤ x ∧ x ≤ hi) := ⟨h1, h2⟩
    have z1 : decide (lo ≤ x) = true := decide_eq_true h1
    have z2 : decide (x ≤ hi) = true := decide_eq_true h2
    go_enter Tryz.func41, Tryz.ntmps41
    go_wp2
    go_ret
    exact saysW_t HN.out
  · have HN : Hid (¬ (lo ≤ x ∧ x ≤ hi)) := fun h => by omega
    have z1 : decide (lo ≤ x) = true := decide_eq_true h1
    have z2 : decide (x ≤ hi) = false := decide_eq_false (by omega)
    go_enter Tryz.func41, Tryz.ntmps41
    go_wp2
    go_ret
    exact saysW_f HN.out
  · have HN : Hid (¬ (lo ≤ x ∧ x ≤ hi)) := fun h => by omega
    have z1 : decide (lo ≤ x) = false := decide_eq_false (by omega)
    go_enter Tryz.func41, Tryz.ntmps41
    go_wp2
    go_ret
    exact saysW_f HN.out

set_option maxRecDepth 10000 in
set_option maxHeartbeats 400000 in
theorem inBounds_says (x lo hi : Int) (w : World) : Calls Tryz.prog 68 #[.int .i64 x, .int .i64 lo, .int .i64 hi] w (SaysW (lo ≤ x ∧ x ≤ hi) w) := by
  have hc : (lo ≤ x ∧ x ≤ hi) ∨ (lo ≤ x ∧ hi < x) ∨ x < lo := by omega
  rcases hc with ⟨h1, h2⟩ | ⟨h1, h2⟩ | h1
  · have HN : Hid (lo ≤ x ∧ x ≤ hi) := ⟨h1, h2⟩
    have z1 : decide (lo ≤ x) = true := decide_eq_true h1
    have z2 : decide (x ≤ hi) = true := decide_eq_true h2
    go_enter Tryz.func68, Tryz.ntmps68
    go_wp2
    go_ret
    exact saysW_t HN.out
  · have HN : Hid (¬ (lo ≤ x ∧ x ≤ hi)) := fun h => by omega
    have z1 : decide (lo ≤ x) = true := decide_eq_true h1
    have z2 : decide (x ≤ hi) = false := decide_eq_false (by omega)
    go_enter Tryz.func68, Tryz.ntmps68
    go_wp2
    go_ret
    exact saysW_f HN.out
  · have HN : Hid (¬ (lo ≤ x ∧ x ≤ hi)) := fun h => by omega
    have z1 : decide (lo ≤ x) = false := decide_eq_false (by omega)
    go_enter Tryz.func68, Tryz.ntmps68
    go_wp2
    go_ret
    exact saysW_f HN.out

end Go.Proofs.YtoncodoimnideaaGreatDoor
