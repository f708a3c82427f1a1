import Derived.Test.YtcgmcdelgfemkaaTT9
import Derived.Test.YtcgmcdelgfemkaaGB
namespace Go.Proofs.Ytcgmcdelgfemkaa
open Go.RowKit

theorem below_dn {B : Nat} {w w' : World} (h : Below B w w') (n : Nat) : Below B w (w'.drewN n) := by
  induction n with
  | zero => simpa [World.drewN] using h
  | succ n ih => exact ih.drew
def kP (h n : Int) : Prop := (0 ≤ h ∧ h ≤ 5) ∧ (0 ≤ n ∧ n ≤ ((2 ^ h.toNat : Nat) : Int))
instance (h n : Int) : Decidable (kP h n) := by unfold kP; infer_instance

set_option maxRecDepth 10000 in
set_option maxHeartbeats 2000000 in
theorem l8KeyOk_any (seed h next : Int) (w : World) :
    Calls Try.prog 75 #[tkv seed h next] w fun e w' => e = .returned (.bool (decide (kP h next))) ∧ Below w.heap.size w w' := by
  have hbb : Below w.heap.size w (w.alloc (.cells #[.int .u64 seed, .int .i64 h, .int .i64 next] 103)) := (Below.refl _ _).alloc (Nat.le_refl _) _
  rw [tkv]
  by_cases h1 : 0 ≤ h ∧ h ≤ 5
  · obtain ⟨N, hN⟩ := HN.of h1.1 h1.2
    have hNp := hN.pow.1
    have hsh := hN.sh
    obtain ⟨h10, h15⟩ := h1
    by_cases h2 : 0 ≤ next ∧ next ≤ (N : Int)
    · have HV : Hid (decide (kP h next) = true) := decide_eq_true ⟨⟨h10, h15⟩, by rw [← hNp]; exact h2⟩
      clear hNp
      go_enter Try.func75, Try.ntmps75
      go_wp2_with fail
      refine (l1In_t h 0 5 _ ⟨h10, h15⟩).mono ?_
      rintro e w2 ⟨rfl, rfl⟩
      go_wp2_with fail
      refine (l1In_t next 0 _ _ (by first | (rw [hsh]; exact h2) | exact h2)).mono ?_
      rintro e w2 ⟨rfl, rfl⟩
      go_wp2
      go_ret
      exact ⟨by rw [HV.out]; rfl, hbb⟩
    · have HV : Hid (decide (kP h next) = false) := decide_eq_false (fun hh => h2 (by rw [hNp]; exact hh.2))
      clear hNp
      go_enter Try.func75, Try.ntmps75
      go_wp2_with fail
      refine (l1In_t h 0 5 _ ⟨h10, h15⟩).mono ?_
      rintro e w2 ⟨rfl, rfl⟩
      go_wp2_with fail
      refine (l1In_f next 0 _ _ (by first | (rw [hsh]; exact h2) | exact h2)).mono ?_
      rintro e w2 ⟨rfl, rfl⟩
      go_wp2
      go_ret
      exact ⟨by rw [HV.out]; rfl, hbb⟩
  · have HV : Hid (decide (kP h next) = false) := decide_eq_false (fun hh => h1 hh.1)
    go_enter Try.func75, Try.ntmps75
    go_wp2_with fail
    refine (l1In_f h 0 5 _ h1).mono ?_
    rintro e w2 ⟨rfl, rfl⟩
    go_wp2
    go_ret
    exact ⟨by rw [HV.out]; rfl, hbb⟩

end Go.Proofs.Ytcgmcdelgfemkaa
