import Derived.Test.YtphhelhhploacaaGH1
import Derived.Test.YtphhelhhploacaaGB5
import Derived.Deep.RegionHeldLaw
namespace Go.Proofs.Ytphhelhhploacaa
open Go.RowKit

def askP (y r a b : Int) : Prop := keyP y ∧ keyP r ∧ expP a ∧ expP b
instance (y r a b : Int) : Decidable (askP y r a b) := by unfold askP; infer_instance
def askE (y r : Int) (ms : List Int) (a b : Int) : Int := chalN (movN r y a b) y ms
def askR (y r : Int) (ms : List Int) (a b : Int) : Int × Int × Bool := if askP y r a b then ((askE y r ms a b - b) % 500000003, askE y r ms a b, true) else (0, 0, false)
def trip3 (t : Int × Int × Bool) : Value := .tuple #[.int .i64 t.1, .int .i64 t.2.1, .bool t.2.2]
theorem movN_bd' (r y a b : Int) : 0 ≤ movN r y a b ∧ movN r y a b < 1000000007 := mod_bd _ (by decide)
theorem chalN_bd' (r y : Int) (ms : List Int) : 0 ≤ chalN r y ms ∧ chalN r y ms ≤ 500000002 := by unfold chalN; omega

set_option maxRecDepth 10000 in
set_option maxHeartbeats 2000000 in
theorem implBlindAsk_any (y r : Int) (am : Option Addr) (n c : Nat) (ms : List Int) (a b : Int) (w : World) (h : Row w am n ms) (hn : n ≤ 1048576) (hc : am = none → c = 0) :
    Calls Try.prog 24 #[.int .i64 y, .int .i64 r, .slice am n c, .int .i64 a, .int .i64 b] w fun e w' => e = .returned (trip3 (askR y r ms a b)) ∧ Below w.heap.size w w' := by
  have H0 : Hid (Row w am n ms) := h
  clear h
  by_cases h1 : keyP y
  · by_cases h2 : keyP r
    · by_cases h3 : expP a
      · by_cases h4 : expP b
        · have HV : Hid (askR y r ms a b = ((askE y r ms a b - b) % 500000003, askE y r ms a b, true)) := by show _ = _; unfold askR; rw [if_pos ⟨h1, h2, h3, h4⟩]
          have hb0 := h4.1
          have hb1 := h4.2
          have hm := movN_bd' r y a b
          have hch := chalN_bd' (movN r y a b) y ms
          have hy1 := h1.1.1.2
          go_enter Try.func24, Try.ntmps24
          go_wp2_with fail
          refine (isKey_any y _).mono ?_
          rintro e w1 ⟨rfl, rfl⟩
          rw [decide_eq_true h1]
          go_wp2_with fail
          refine (isKey_any r _).mono ?_
          rintro e w1 ⟨rfl, rfl⟩
          rw [decide_eq_true h2]
          go_wp2_with fail
          refine (isExponent_any a _).mono ?_
          rintro e w1 ⟨rfl, rfl⟩
          rw [decide_eq_true h3]
          go_wp2_with fail
          refine (isExponent_any b _).mono ?_
          rintro e w1 ⟨rfl, rfl⟩
          rw [decide_eq_true h4]
          go_wp2_with fail
          refine (moved_any r y a b _ (by have := h2.1.1.1; omega) h2.1.1.2 (by have := h1.1.1.1; omega) h1.1.1.2 h3 h4).mono ?_
          rintro e w2 ⟨rfl, rfl⟩
          go_wp2_with fail
          refine (implChallenge_any (movN r y a b) y am n c ms _ H0.out hn hc (by omega) (by omega)).mono ?_
          rintro e w3 ⟨rfl, hb3⟩
          obtain ⟨ee, hee⟩ : ∃ ee, ee = chalN (movN r y a b) y ms := ⟨_, rfl⟩
          have HEE : Hid (ee = askE y r ms a b) := hee
          rw [← hee] at hch ⊢
          clear hee hm
          obtain ⟨hch0, hch1⟩ := hch
          go_wp2_with fail
          refine (fromZero_any (ee - b) 500000003 _ (by decide) (by decide)).mono ?_
          rintro e w4 ⟨rfl, rfl⟩
          go_wp2
          go_ret3
          exact ⟨by rw [HV.out, ← HEE.out]; rfl, hb3⟩
        · have HV : Hid (askR y r ms a b = (0, 0, false)) := by show _ = _; unfold askR; rw [if_neg (fun hh => h4 hh.2.2.2)]
          go_enter Try.func24, Try.ntmps24
          go_wp2_with fail
          refine (isKey_any y _).mono ?_
          rintro e w1 ⟨rfl, rfl⟩
          rw [decide_eq_true h1]
          go_wp2_with fail
          refine (isKey_any r _).mono ?_
          rintro e w1 ⟨rfl, rfl⟩
          rw [decide_eq_true h2]
          go_wp2_with fail
          refine (isExponent_any a _).mono ?_
          rintro e w1 ⟨rfl, rfl⟩
          rw [decide_eq_true h3]
          go_wp2_with fail
          refine (isExponent_any b _).mono ?_
          rintro e w1 ⟨rfl, rfl⟩
          rw [decide_eq_false h4]
          go_wp2
          go_ret3
          exact ⟨by rw [HV.out]; rfl, Below.refl _ _⟩
      · have HV : Hid (askR y r ms a b = (0, 0, false)) := by show _ = _; unfold askR; rw [if_neg (fun hh => h3 hh.2.2.1)]
        go_enter Try.func24, Try.ntmps24
        go_wp2_with fail
        refine (isKey_any y _).mono ?_
        rintro e w1 ⟨rfl, rfl⟩
        rw [decide_eq_true h1]
        go_wp2_with fail
        refine (isKey_any r _).mono ?_
        rintro e w1 ⟨rfl, rfl⟩
        rw [decide_eq_true h2]
        go_wp2_with fail
        refine (isExponent_any a _).mono ?_
        rintro e w1 ⟨rfl, rfl⟩
        rw [decide_eq_false h3]
        go_wp2
        go_ret3
        exact ⟨by rw [HV.out]; rfl, Below.refl _ _⟩
    · have HV : Hid (askR y r ms a b = (0, 0, false)) := by show _ = _; unfold askR; rw [if_neg (fun hh => h2 hh.2.1)]
      go_enter Try.func24, Try.ntmps24
      go_wp2_with fail
      refine (isKey_any y _).mono ?_
      rintro e w1 ⟨rfl, rfl⟩
      rw [decide_eq_true h1]
      go_wp2_with fail
      refine (isKey_any r _).mono ?_
      rintro e w1 ⟨rfl, rfl⟩
      rw [decide_eq_false h2]
      go_wp2
      go_ret3
      exact ⟨by rw [HV.out]; rfl, Below.refl _ _⟩
  · have HV : Hid (askR y r ms a b = (0, 0, false)) := by show _ = _; unfold askR; rw [if_neg (fun hh => h1 hh.1)]
    go_enter Try.func24, Try.ntmps24
    go_wp2_with fail
    refine (isKey_any y _).mono ?_
    rintro e w1 ⟨rfl, rfl⟩
    rw [decide_eq_false h1]
    go_wp2
    go_ret3
    exact ⟨by rw [HV.out]; rfl, Below.refl _ _⟩

set_option maxRecDepth 10000 in
set_option maxHeartbeats 2000000 in
theorem specBlindAsk_any (y r : Int) (am : Option Addr) (n c : Nat) (ms : List Int) (a b : Int) (w : World) (h : Row w am n ms) (hn : n ≤ 1048576) (hc : am = none → c = 0) :
    Calls Try.prog 25 #[.int .i64 y, .int .i64 r, .slice am n c, .int .i64 a, .int .i64 b] w fun e w' => e = .returned (trip3 (askR y r ms a b)) ∧ Below w.heap.size w w' := by
  have H0 : Hid (Row w am n ms) := h
  clear h
  by_cases h1 : memP y
  · by_cases h2 : y ≠ 1
    · by_cases h3 : memP r
      · by_cases h4 : r ≠ 1
        · by_cases h5 : expP a
          · by_cases h6 : expP b
            · have HV : Hid (askR y r ms a b = ((askE y r ms a b - b) % 500000003, askE y r ms a b, true)) := by show _ = _; unfold askR; rw [if_pos ⟨⟨h1, h2⟩, ⟨h3, h4⟩, h5, h6⟩]
              have hb0 := h6.1
              have hb1 := h6.2
              have ha0 := h5.1
              have ha1 := h5.2
              have hr0 := h3.1.1
              have hr1 := h3.1.2
              have hy0 := h1.1.1
              have hy1 := h1.1.2
              have HM : Hid (r * gp 4 a % 1000000007 * gp y (500000003 - b) % 1000000007 = movN r y a b) := rfl
              have hm := movN_bd' r y a b
              have hch := chalN_bd' (movN r y a b) y ms
              obtain ⟨h10, h11⟩ := gp_bd 4 a
              obtain ⟨h20, h21⟩ := gp_bd y (500000003 - b)
              obtain ⟨hp0, hp1⟩ := prod_bd (show 0 ≤ r by omega) (show r < 1000000007 by omega) h10 h11 (Int.le_refl _)
              obtain ⟨hm0, hm1⟩ := mod_bd (r * gp 4 a) (show (1 : Int) ≤ 1000000007 by decide)
              obtain ⟨hq0, hq1⟩ := prod_bd hm0 hm1 h20 h21 (Int.le_refl _)
              have zy : (y == 1) = false := beq_false_of_ne h2
              have zr : (r == 1) = false := beq_false_of_ne h4
              go_enter Try.func25, Try.ntmps25
              go_wp2_with fail
              refine (l7Member_any y _).mono ?_
              rintro e w1 ⟨rfl, rfl⟩
              rw [decide_eq_true h1]
              go_wp2_with fail
              refine (l7Member_any r _).mono ?_
              rintro e w1 ⟨rfl, rfl⟩
              rw [decide_eq_true h3]
              go_wp2_with fail
              refine (l7Exp_any a _).mono ?_
              rintro e w1 ⟨rfl, rfl⟩
              rw [decide_eq_true h5]
              go_wp2_with fail
              refine (l7Exp_any b _).mono ?_
              rintro e w1 ⟨rfl, rfl⟩
              rw [decide_eq_true h6]
              go_wp2_with fail
              refine (l7PowP_any 4 a _ (by decide) (by decide) ha0 (by omega)).mono ?_
              rintro e w2 ⟨rfl, rfl⟩
              go_wp2_with fail
              refine (l7PowP_any y (500000003 - b) _ (by omega) hy1 (by omega) (by omega)).mono ?_
              rintro e w2 ⟨rfl, rfl⟩
              go_wp2_with fail
              rw [HM.out]
              refine (specChallenge_any (movN r y a b) y am n c ms _ H0.out hn hc (by omega) (by omega)).mono ?_
              rintro e w3 ⟨rfl, hb3⟩
              obtain ⟨ee, hee⟩ : ∃ ee, ee = chalN (movN r y a b) y ms := ⟨_, rfl⟩
              have HEE : Hid (ee = askE y r ms a b) := hee
              rw [← hee] at hch ⊢
              clear hee hm
              obtain ⟨hch0, hch1⟩ := hch
              have HF : Hid ((ee - b + 500000003) % 500000003 = (ee - b) % 500000003) := by show _ = _; omega
              go_wp2
              go_ret3
              exact ⟨by rw [HV.out, ← HEE.out, ← HF.out]; rfl, hb3⟩
            · have HV : Hid (askR y r ms a b = (0, 0, false)) := by show _ = _; unfold askR; rw [if_neg (fun hh => h6 hh.2.2.2)]
              have zy : (y == 1) = false := beq_false_of_ne h2
              have zr : (r == 1) = false := beq_false_of_ne h4
              go_enter Try.func25, Try.ntmps25
              go_wp2_with fail
              refine (l7Member_any y _).mono ?_
              rintro e w1 ⟨rfl, rfl⟩
              rw [decide_eq_true h1]
              go_wp2_with fail
              refine (l7Member_any r _).mono ?_
              rintro e w1 ⟨rfl, rfl⟩
              rw [decide_eq_true h3]
              go_wp2_with fail
              refine (l7Exp_any a _).mono ?_
              rintro e w1 ⟨rfl, rfl⟩
              rw [decide_eq_true h5]
              go_wp2_with fail
              refine (l7Exp_any b _).mono ?_
              rintro e w1 ⟨rfl, rfl⟩
              rw [decide_eq_false h6]
              go_wp2
              go_ret3
              exact ⟨by rw [HV.out]; rfl, Below.refl _ _⟩
          · have HV : Hid (askR y r ms a b = (0, 0, false)) := by show _ = _; unfold askR; rw [if_neg (fun hh => h5 hh.2.2.1)]
            have zy : (y == 1) = false := beq_false_of_ne h2
            have zr : (r == 1) = false := beq_false_of_ne h4
            go_enter Try.func25, Try.ntmps25
            go_wp2_with fail
            refine (l7Member_any y _).mono ?_
            rintro e w1 ⟨rfl, rfl⟩
            rw [decide_eq_true h1]
            go_wp2_with fail
            refine (l7Member_any r _).mono ?_
            rintro e w1 ⟨rfl, rfl⟩
            rw [decide_eq_true h3]
            go_wp2_with fail
            refine (l7Exp_any a _).mono ?_
            rintro e w1 ⟨rfl, rfl⟩
            rw [decide_eq_false h5]
            go_wp2
            go_ret3
            exact ⟨by rw [HV.out]; rfl, Below.refl _ _⟩
        · have HV : Hid (askR y r ms a b = (0, 0, false)) := by show _ = _; unfold askR; rw [if_neg (fun hh => h4 hh.2.1.2)]
          have zy : (y == 1) = false := beq_false_of_ne h2
          have zr : (r == 1) = true := beq_iff_eq.2 (Decidable.not_not.1 h4)
          go_enter Try.func25, Try.ntmps25
          go_wp2_with fail
          refine (l7Member_any y _).mono ?_
          rintro e w1 ⟨rfl, rfl⟩
          rw [decide_eq_true h1]
          go_wp2_with fail
          refine (l7Member_any r _).mono ?_
          rintro e w1 ⟨rfl, rfl⟩
          rw [decide_eq_true h3]
          go_wp2
          go_ret3
          exact ⟨by rw [HV.out]; rfl, Below.refl _ _⟩
      · have HV : Hid (askR y r ms a b = (0, 0, false)) := by show _ = _; unfold askR; rw [if_neg (fun hh => h3 hh.2.1.1)]
        have zy : (y == 1) = false := beq_false_of_ne h2
        go_enter Try.func25, Try.ntmps25
        go_wp2_with fail
        refine (l7Member_any y _).mono ?_
        rintro e w1 ⟨rfl, rfl⟩
        rw [decide_eq_true h1]
        go_wp2_with fail
        refine (l7Member_any r _).mono ?_
        rintro e w1 ⟨rfl, rfl⟩
        rw [decide_eq_false h3]
        go_wp2
        go_ret3
        exact ⟨by rw [HV.out]; rfl, Below.refl _ _⟩
    · have HV : Hid (askR y r ms a b = (0, 0, false)) := by show _ = _; unfold askR; rw [if_neg (fun hh => h2 hh.1.2)]
      have zy : (y == 1) = true := beq_iff_eq.2 (Decidable.not_not.1 h2)
      go_enter Try.func25, Try.ntmps25
      go_wp2_with fail
      refine (l7Member_any y _).mono ?_
      rintro e w1 ⟨rfl, rfl⟩
      rw [decide_eq_true h1]
      go_wp2
      go_ret3
      exact ⟨by rw [HV.out]; rfl, Below.refl _ _⟩
  · have HV : Hid (askR y r ms a b = (0, 0, false)) := by show _ = _; unfold askR; rw [if_neg (fun hh => h1 hh.1.1)]
    go_enter Try.func25, Try.ntmps25
    go_wp2_with fail
    refine (l7Member_any y _).mono ?_
    rintro e w1 ⟨rfl, rfl⟩
    rw [decide_eq_false h1]
    go_wp2
    go_ret3
    exact ⟨by rw [HV.out]; rfl, Below.refl _ _⟩

end Go.Proofs.Ytphhelhhploacaa
