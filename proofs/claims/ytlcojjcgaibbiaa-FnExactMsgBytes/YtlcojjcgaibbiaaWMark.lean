import Derived.Test.YtlcojjcgaibbiaaW2
import Derived.Test.YtlcojjcgaibbiaaTouch
namespace Go.Proofs.Ytlcojjcgaibbiaa
open Go.RowKit

theorem Touch.refl (lo hi : Nat) (w : World) : Touch lo hi w w := ⟨rfl, rfl, rfl, Nat.le_refl _, fun _ _ _ => rfl⟩

set_option maxRecDepth 10000 in
set_option maxHeartbeats 400000 in
theorem markByteS_zero (a : Option Addr) (cap : Nat) (k : Int) (w : World) :
    Calls Try.prog 11 #[.slice a 0 cap, .int .i64 k] w fun e w' => e = .returned (.int .i64 k) ∧ w' = w := by
  go_enter Try.func11, Try.ntmps11
  go_wp2
  refine wp_loop_rounds 1 ?_
  rw [rounds_succ]
  go_wp2
  go_ret
  exact ⟨rfl, rfl⟩

/-- markByteS, told by what it may turn. -/
theorem markByteS_t (B : Nat) (a : Option Addr) (n cap : Nat) (k : Int) (bs : List Int) (w : World) (h : 0 < n → Own B w a n cap bs) (hn : n ≤ 1000000000) (hk0 : 0 ≤ k) (hk : k ≤ 1000000000) :
    Calls Try.prog 11 #[.slice a n cap, .int .i64 k] w fun e w' => e = .returned (.int .i64 (k + n)) ∧ (0 < n → Own B w' a n cap (marks k.toNat n)) ∧ Row w' a n (marks k.toNat n) ∧ ∀ p q, In a n p q → Touch p q w w' := by
  rcases Nat.eq_zero_or_pos n with h0 | h0
  · subst h0
    refine (markByteS_zero a cap k w).mono ?_
    rintro e w' ⟨rfl, rfl⟩
    exact ⟨by simp, fun h => absurd h (Nat.lt_irrefl _), ⟨rfl, fun j hj => absurd hj (Nat.not_lt_zero _), by simp [marks]⟩, fun p q _ => Touch.refl _ _ _⟩
  · refine (markByteS_int B a n cap k bs w (h h0) hn hk0 hk).mono ?_
    rintro e w' ⟨rfl, ho, hg⟩
    exact ⟨rfl, fun _ => ho, ho.toRow, fun p q hp => (h h0).wrote hp h0 hg⟩

end Go.Proofs.Ytlcojjcgaibbiaa
