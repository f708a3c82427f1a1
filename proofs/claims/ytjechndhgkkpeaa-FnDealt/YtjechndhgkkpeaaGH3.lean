import Derived.Test.YtjechndhgkkpeaaGH2
import Derived.Deep.RegionHeldLaw
namespace Go.Proofs.Ytjechndhgkkpeaa
open Go.RowKit

theorem below_drewN2 {B : Nat} {w w' : World} (h : Below B w w') (n : Nat) : Below B w (w'.drewN n) := by
  induction n with
  | zero => simpa [World.drewN] using h
  | succ n ih => exact ih.drew
def verP (y : Int) (ms : List Int) (p : Int × Int) : Prop := keyP y ∧ expP p.1 ∧ expP p.2 ∧ p.1 = chalN (movN 1 y p.2 p.1) y ms
instance (y : Int) (ms : List Int) (p : Int × Int) : Decidable (verP y ms p) := by unfold verP; infer_instance
theorem movN_bd (r y a b : Int) : 0 ≤ movN r y a b ∧ movN r y a b < 1000000007 := mod_bd _ (by decide)

set_option maxHeartbeats 2000000 in
theorem implVerify_any (y : Int) (a : Option Addr) (n c : Nat) (ms : List Int) (p : Int × Int) (w : World) (h : Row w a n ms) (hn : n ≤ 1048576) (hc : a = none → c = 0) :
    Calls Try.prog 18 #[.int .i64 y, .slice a n c, sigv p] w fun e w' => e = .returned (.bool (decide (verP y ms p))) ∧ Below w.heap.size w w' := by
  have H0 : Hid (Row w a n ms) := h
  clear h
  obtain ⟨E, Z⟩ := p
  have hb0 : Below w.heap.size w (w.alloc (.cells #[.int .i64 E, .int .i64 Z] 43)) := (Below.refl _ _).alloc (Nat.le_refl _) _
  have hbx := boxS_new 43 w E Z
  have q0 := hbx.c0
  have q1 := hbx.c1
  unfold sigv
  by_cases h1 : keyP y
  · by_cases h2 : expP E
    · by_cases h3 : expP Z
      · have HV : Hid ((E == chalN (movN 1 y Z E) y ms) = decide (verP y ms (E, Z))) := by
          show _ = _
          by_cases h4 : E = chalN (movN 1 y Z E) y ms
          · rw [decide_eq_true ⟨h1, h2, h3, h4⟩, beq_iff_eq.2 h4]
          · rw [decide_eq_false (fun hh => h4 hh.2.2.2), beq_false_of_ne h4]
        have hy0 := h1.1.1.1
        have hy1 := h1.1.1.2
        go_enter Try.func18, Try.ntmps18
        go_wp2_with fail
        refine (isKey_any y _).mono ?_
        rintro e w1 ⟨rfl, rfl⟩
        rw [decide_eq_true h1]
        go_wp2_with fail
        refine (isExponent_any E _).mono ?_
        rintro e w1 ⟨rfl, rfl⟩
        rw [decide_eq_true h2]
        go_wp2_with fail
        refine (isExponent_any Z _).mono ?_
        rintro e w1 ⟨rfl, rfl⟩
        rw [decide_eq_true h3]
        obtain ⟨w1, hw1⟩ : ∃ w1, w1 = w.alloc (.cells #[.int .i64 E, .int .i64 Z] 43) := ⟨_, rfl⟩
        rw [← hw1] at q0 q1 hbx hb0 ⊢
        clear hw1
        go_wp2_with fail
        have hmb := movN_bd 1 y Z E
        have CH : Hid (_) := implChallenge_any (movN 1 y Z E) y a n c ms w1.drew (H0.out.kept hb0.drew) hn hc (by omega) (by omega)
        have HXD : ∀ (w7 : World), Below w1.drew.heap.size w1.drew w7 → w7.cell? ⟨w.heap.size, 0, none⟩ = some (.int .i64 E) ∧ w7.cell? ⟨w.heap.size, 1, none⟩ = some (.int .i64 Z) := fun w7 h7 =>
          have hk := (hbx.kept (Below.refl _ _).drew).kept h7
          ⟨hk.c0, hk.c1⟩
        have SS := HXD w1.drew (Below.refl _ _)
        clear q0 q1
        go_region_held_law (fun w' => w'.cell? ⟨w.heap.size, 0, none⟩ = some (.int .i64 E) ∧ w'.cell? ⟨w.heap.size, 1, none⟩ = some (.int .i64 Z)) (first | assumption | exact SS | exact SS3)
          (first
            | (go_at_call 43; refine (moved_any 1 y Z E _ (by decide) (by decide) (by omega) hy1 h3 h2).mono ?_; rintro e w2 ⟨rfl, rfl⟩)
            | (go_at_call 14; refine Calls.mono CH.out ?_; rintro e w3 ⟨rfl, hb3⟩; have SS3 := HXD w3 hb3))
        all_goals
          go_wp2
          go_ret
          exact ⟨by rw [← HV.out]; rfl, keep_first hb0.drew hb3⟩
      · have HV : Hid (decide (verP y ms (E, Z)) = false) := decide_eq_false (fun hh => h3 hh.2.2.1)
        go_enter Try.func18, Try.ntmps18
        go_wp2_with fail
        refine (isKey_any y _).mono ?_
        rintro e w1 ⟨rfl, rfl⟩
        rw [decide_eq_true h1]
        go_wp2_with fail
        refine (isExponent_any E _).mono ?_
        rintro e w1 ⟨rfl, rfl⟩
        rw [decide_eq_true h2]
        go_wp2_with fail
        refine (isExponent_any Z _).mono ?_
        rintro e w1 ⟨rfl, rfl⟩
        rw [decide_eq_false h3]
        go_wp2
        go_ret
        exact ⟨by rw [HV.out]; rfl, hb0⟩
    · have HV : Hid (decide (verP y ms (E, Z)) = false) := decide_eq_false (fun hh => h2 hh.2.1)
      go_enter Try.func18, Try.ntmps18
      go_wp2_with fail
      refine (isKey_any y _).mono ?_
      rintro e w1 ⟨rfl, rfl⟩
      rw [decide_eq_true h1]
      go_wp2_with fail
      refine (isExponent_any E _).mono ?_
      rintro e w1 ⟨rfl, rfl⟩
      rw [decide_eq_false h2]
      go_wp2
      go_ret
      exact ⟨by rw [HV.out]; rfl, hb0⟩
  · have HV : Hid (decide (verP y ms (E, Z)) = false) := decide_eq_false (fun hh => h1 hh.1)
    go_enter Try.func18, Try.ntmps18
    go_wp2_with fail
    refine (isKey_any y _).mono ?_
    rintro e w1 ⟨rfl, rfl⟩
    rw [decide_eq_false h1]
    go_wp2
    go_ret
    exact ⟨by rw [HV.out]; rfl, hb0⟩

end Go.Proofs.Ytjechndhgkkpeaa
