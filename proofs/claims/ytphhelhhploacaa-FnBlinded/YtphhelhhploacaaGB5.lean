import Derived.Test.YtphhelhhploacaaGS
namespace Go.Proofs.Ytphhelhhploacaa
open Go.RowKit

def ansR (x k e : Int) : Int × Bool := if secP x ∧ secP k ∧ expP e then ((k + e * x) % 500000003, true) else (0, false)
def doneR (s a e : Int) : (Int × Int) × Bool := if expP s ∧ expP a ∧ expP e then ((e, (s + a) % 500000003), true) else ((0, 0), false)

set_option maxRecDepth 10000 in
set_option maxHeartbeats 1000000 in
theorem implBlindAnswer_any (x k e : Int) (w : World) :
    Calls Try.prog 27 #[.int .i64 x, .int .i64 k, .int .i64 e] w fun r w' => r = .returned (pair (ansR x k e)) ∧ w' = w := by
  by_cases h1 : secP x
  · by_cases h2 : secP k
    · by_cases h3 : expP e
      · have HV : Hid (ansR x k e = ((k + e * x) % 500000003, true)) := by show _ = _; unfold ansR; rw [if_pos ⟨h1, h2, h3⟩]
        go_enter Try.func27, Try.ntmps27
        go_wp2_with fail
        refine (isSecret_any x _).mono ?_
        rintro e w1 ⟨rfl, rfl⟩
        rw [decide_eq_true h1]
        go_wp2_with fail
        refine (isSecret_any k _).mono ?_
        rintro e w1 ⟨rfl, rfl⟩
        rw [decide_eq_true h2]
        go_wp2_with fail
        refine (isExponent_any e _).mono ?_
        rintro e w1 ⟨rfl, rfl⟩
        rw [decide_eq_true h3]
        go_wp2_with fail
        refine (answerTo_any k e x _ ⟨by have := h2.1; omega, h2.2⟩ h3 ⟨by have := h1.1; omega, h1.2⟩).mono ?_
        rintro r w2 ⟨rfl, rfl⟩
        go_wp2
        go_ret2
        exact ⟨by rw [HV.out]; rfl, rfl⟩
      · have HV : Hid (ansR x k e = (0, false)) := by show _ = _; unfold ansR; rw [if_neg (fun hh => h3 hh.2.2)]
        go_enter Try.func27, Try.ntmps27
        go_wp2_with fail
        refine (isSecret_any x _).mono ?_
        rintro e w1 ⟨rfl, rfl⟩
        rw [decide_eq_true h1]
        go_wp2_with fail
        refine (isSecret_any k _).mono ?_
        rintro e w1 ⟨rfl, rfl⟩
        rw [decide_eq_true h2]
        go_wp2_with fail
        refine (isExponent_any e _).mono ?_
        rintro e w1 ⟨rfl, rfl⟩
        rw [decide_eq_false h3]
        go_wp2
        go_ret2
        exact ⟨by rw [HV.out]; rfl, rfl⟩
    · have HV : Hid (ansR x k e = (0, false)) := by show _ = _; unfold ansR; rw [if_neg (fun hh => h2 hh.2.1)]
      go_enter Try.func27, Try.ntmps27
      go_wp2_with fail
      refine (isSecret_any x _).mono ?_
      rintro e w1 ⟨rfl, rfl⟩
      rw [decide_eq_true h1]
      go_wp2_with fail
      refine (isSecret_any k _).mono ?_
      rintro e w1 ⟨rfl, rfl⟩
      rw [decide_eq_false h2]
      go_wp2
      go_ret2
      exact ⟨by rw [HV.out]; rfl, rfl⟩
  · have HV : Hid (ansR x k e = (0, false)) := by show _ = _; unfold ansR; rw [if_neg (fun hh => h1 hh.1)]
    go_enter Try.func27, Try.ntmps27
    go_wp2_with fail
    refine (isSecret_any x _).mono ?_
    rintro e w1 ⟨rfl, rfl⟩
    rw [decide_eq_false h1]
    go_wp2
    go_ret2
    exact ⟨by rw [HV.out]; rfl, rfl⟩

set_option maxRecDepth 10000 in
set_option maxHeartbeats 1000000 in
theorem implBlindDone_any (s a e : Int) (w : World) :
    Calls Try.prog 28 #[.int .i64 s, .int .i64 a, .int .i64 e] w fun r w' => r = .returned (.tuple #[sigv (doneR s a e).1, .bool (doneR s a e).2]) ∧ Below w.heap.size w w' := by
  by_cases h1 : expP s
  · by_cases h2 : expP a
    · by_cases h3 : expP e
      · have HV : Hid (doneR s a e = ((e, (s + a) % 500000003), true)) := by show _ = _; unfold doneR; rw [if_pos ⟨h1, h2, h3⟩]
        have hs0 := h1.1
        have hs1 := h1.2
        have ha0 := h2.1
        have ha1 := h2.2
        have hbx := boxS_new 37 w 0 0
        have HBX : Hid (_) := hbx
        have hc0 := hbx.c0
        have hc1 := hbx.c1
        have hf0 := hbx.fr 0
        have hf1 := hbx.fr 1
        have hb0 : Below w.heap.size w (w.alloc (.cells #[.int .i64 0, .int .i64 0] 37)) := (Below.refl _ _).alloc (Nat.le_refl _) _
        clear hbx
        go_enter Try.func28, Try.ntmps28
        go_wp2_with fail
        refine (isExponent_any s _).mono ?_
        rintro e w1 ⟨rfl, rfl⟩
        rw [decide_eq_true h1]
        go_wp2_with fail
        refine (isExponent_any a _).mono ?_
        rintro e w1 ⟨rfl, rfl⟩
        rw [decide_eq_true h2]
        go_wp2_with fail
        refine (isExponent_any e _).mono ?_
        rintro e w1 ⟨rfl, rfl⟩
        rw [decide_eq_true h3]
        obtain ⟨w1, hw1⟩ : ∃ w1, w1 = w.alloc (.cells #[.int .i64 0, .int .i64 0] 37) := ⟨_, rfl⟩
        rw [← hw1] at HBX hc0 hc1 hf0 hf1 hb0 ⊢
        clear hw1
        go_wp2
        try simp only [Exit.inBlock, Exit.then]
        refine bodyPost_ret (results_sig2 rfl _ w.heap.size rfl _ rfl _ _ (HBX.out.set e ((s + a) % 500000003))) rfl ⟨?_, below_set2 hb0 _ (Nat.le_refl _) _ _⟩
        rw [HV.out]
        rfl
      · have HV : Hid (doneR s a e = ((0, 0), false)) := by show _ = _; unfold doneR; rw [if_neg (fun hh => h3 hh.2.2)]
        have hbx := boxS_new 37 w 0 0
        have HBX : Hid (_) := hbx
        have hc0 := hbx.c0
        have hc1 := hbx.c1
        have hf0 := hbx.fr 0
        have hf1 := hbx.fr 1
        have hb0 : Below w.heap.size w (w.alloc (.cells #[.int .i64 0, .int .i64 0] 37)) := (Below.refl _ _).alloc (Nat.le_refl _) _
        clear hbx
        go_enter Try.func28, Try.ntmps28
        go_wp2_with fail
        refine (isExponent_any s _).mono ?_
        rintro e w1 ⟨rfl, rfl⟩
        rw [decide_eq_true h1]
        go_wp2_with fail
        refine (isExponent_any a _).mono ?_
        rintro e w1 ⟨rfl, rfl⟩
        rw [decide_eq_true h2]
        go_wp2_with fail
        refine (isExponent_any e _).mono ?_
        rintro e w1 ⟨rfl, rfl⟩
        rw [decide_eq_false h3]
        go_wp2
        try simp only [Exit.inBlock, Exit.then]
        refine bodyPost_ret (results_sig2 rfl _ w.heap.size rfl _ rfl _ _ HBX.out) rfl ⟨?_, hb0⟩
        rw [HV.out]
        rfl
    · have HV : Hid (doneR s a e = ((0, 0), false)) := by show _ = _; unfold doneR; rw [if_neg (fun hh => h2 hh.2.1)]
      have hbx := boxS_new 37 w 0 0
      have HBX : Hid (_) := hbx
      have hc0 := hbx.c0
      have hc1 := hbx.c1
      have hf0 := hbx.fr 0
      have hf1 := hbx.fr 1
      have hb0 : Below w.heap.size w (w.alloc (.cells #[.int .i64 0, .int .i64 0] 37)) := (Below.refl _ _).alloc (Nat.le_refl _) _
      clear hbx
      go_enter Try.func28, Try.ntmps28
      go_wp2_with fail
      refine (isExponent_any s _).mono ?_
      rintro e w1 ⟨rfl, rfl⟩
      rw [decide_eq_true h1]
      go_wp2_with fail
      refine (isExponent_any a _).mono ?_
      rintro e w1 ⟨rfl, rfl⟩
      rw [decide_eq_false h2]
      go_wp2
      try simp only [Exit.inBlock, Exit.then]
      refine bodyPost_ret (results_sig2 rfl _ w.heap.size rfl _ rfl _ _ HBX.out) rfl ⟨?_, hb0⟩
      rw [HV.out]
      rfl
  · have HV : Hid (doneR s a e = ((0, 0), false)) := by show _ = _; unfold doneR; rw [if_neg (fun hh => h1 hh.1)]
    have hbx := boxS_new 37 w 0 0
    have HBX : Hid (_) := hbx
    have hc0 := hbx.c0
    have hc1 := hbx.c1
    have hf0 := hbx.fr 0
    have hf1 := hbx.fr 1
    have hb0 : Below w.heap.size w (w.alloc (.cells #[.int .i64 0, .int .i64 0] 37)) := (Below.refl _ _).alloc (Nat.le_refl _) _
    clear hbx
    go_enter Try.func28, Try.ntmps28
    go_wp2_with fail
    refine (isExponent_any s _).mono ?_
    rintro e w1 ⟨rfl, rfl⟩
    rw [decide_eq_false h1]
    go_wp2
    try simp only [Exit.inBlock, Exit.then]
    refine bodyPost_ret (results_sig2 rfl _ w.heap.size rfl _ rfl _ _ HBX.out) rfl ⟨?_, hb0⟩
    rw [HV.out]
    rfl

theorem keep2 {w w1 w2 : World} (h : Below w.heap.size w w1) (k : Below w1.heap.size w1 w2) : Below w.heap.size w w2 := h.trans (k.mono h.size)

end Go.Proofs.Ytphhelhhploacaa
