import Derived.Test.YthoooppdineldabGS
namespace Go.Proofs.Ythoooppdineldab
open Go.RowKit

def ansR (x k e : Int) : Int × Bool := if secP x ∧ secP k ∧ expP e then ((k + e * x) % 500000003, true) else (0, false)
def doneR (s a e : Int) : (Int × Int) × Bool := if expP s ∧ expP a ∧ expP e then ((e, (s + a) % 500000003), true) else ((0, 0), false)

set_option maxHeartbeats 1000000 in
theorem implBlindAnswer_any (x k e : Int) (w : World) :
    Calls Try.prog 14 #[.int .i64 x, .int .i64 k, .int .i64 e] w fun r w' => r = .returned (pair (ansR x k e)) ∧ w' = w := by
  by_cases h1 : secP x
  · by_cases h2 : secP k
    · by_cases h3 : expP e
      · have HV : Hid (ansR x k e = ((k + e * x) % 500000003, true)) := by show _ = _; unfold ansR; rw [if_pos ⟨h1, h2, h3⟩]
        go_enter Try.func14, Try.ntmps14
        go_wp2_with fail
        refine (isSecret_any x _).mono ?_
        rintro e w1 ⟨rfl, rfl⟩
        rw [decide_eq_true h1]
        go_wp2_with fail
        refine (isSecret_any k _).mono ?_
        rintro e w1 ⟨rfl, rfl⟩
        rw [decide_eq_true h2]
        go_wp2_with fail
        refine (isExponent_any e _).mono ?_
        rintro e w1 ⟨rfl, rfl⟩
        rw [decide_eq_true h3]
        go_wp2_with fail
        refine (answerTo_any k e x _ ⟨by have := h2.1; omega, h2.2⟩ h3 ⟨by have := h1.1; omega, h1.2⟩).mono ?_
        rintro r w2 ⟨rfl, rfl⟩
        go_wp2
        go_ret2
        exact ⟨by rw [HV.out]; rfl, rfl⟩
      · have HV : Hid (ansR x k e = (0, false)) := by show _ = _; unfold ansR; rw [if_neg (fun hh => h3 hh.2.2)]
        go_enter Try.func14, Try.ntmps14
        go_wp2_with fail
        refine (isSecret_any x _).mono ?_
        rintro e w1 ⟨rfl, rfl⟩
        rw [decide_eq_true h1]
        go_wp2_with fail
        refine (isSecret_any k _).mono ?_
        rintro e w1 ⟨rfl, rfl⟩
        rw [decide_eq_true h2]
        go_wp2_with fail
        refine (isExponent_any e _).mono ?_
        rintro e w1 ⟨rfl, rfl⟩
        rw [decide_eq_false h3]
        go_wp2
        go_ret2
        exact ⟨by rw [HV.out]; rfl, rfl⟩
    · have HV : Hid (ansR x k e = (0, false)) := by show _ = _; unfold ansR; rw [if_neg (fun hh => h2 hh.2.1)]
      go_enter Try.func14, Try.ntmps14
      go_wp2_with fail
      refine (isSecret_any x _).mono ?_
      rintro e w1 ⟨rfl, rfl⟩
      rw [decide_eq_true h1]
      go_wp2_with fail
      refine (isSecret_any k _).mono ?_
      rintro e w1 ⟨rfl, rfl⟩
      rw [decide_eq_false h2]
      go_wp2
      go_ret2
      exact ⟨by rw [HV.out]; rfl, rfl⟩
  · have HV : Hid (ansR x k e = (0, false)) := by show _ = _; unfold ansR; rw [if_neg (fun hh => h1 hh.1)]
    go_enter Try.func14, Try.ntmps14
    go_wp2_with fail
    refine (isSecret_any x _).mono ?_
    rintro e w1 ⟨rfl, rfl⟩
    rw [decide_eq_false h1]
    go_wp2
    go_ret2
    exact ⟨by rw [HV.out]; rfl, rfl⟩

set_option maxHeartbeats 1000000 in
theorem specBlindAnswer_any (x k e : Int) (w : World) :
    Calls Try.prog 13 #[.int .i64 x, .int .i64 k, .int .i64 e] w fun r w' => r = .returned (pair (ansR x k e)) ∧ w' = w := by
  by_cases h1 : secP x
  · by_cases h2 : secP k
    · by_cases h3 : expP e
      · have HV : Hid (ansR x k e = ((k + e * x) % 500000003, true)) := by show _ = _; unfold ansR; rw [if_pos ⟨h1, h2, h3⟩]
        have hp := prod_bd h3.1 (show e < 1000000007 by have := h3.2; omega) (show 0 ≤ x by have := h1.1; omega) (show x < 1000000007 by have := h1.2; omega) (Int.le_refl _)
        have hk0 := h2.1
        have hk1 := h2.2
        obtain ⟨hp0, hp1⟩ := hp
        go_enter Try.func13, Try.ntmps13
        go_wp2_with fail
        refine (l7Secret_any x _).mono ?_
        rintro e w1 ⟨rfl, rfl⟩
        rw [decide_eq_true h1]
        go_wp2_with fail
        refine (l7Secret_any k _).mono ?_
        rintro e w1 ⟨rfl, rfl⟩
        rw [decide_eq_true h2]
        go_wp2_with fail
        refine (l7Exp_any e _).mono ?_
        rintro e w1 ⟨rfl, rfl⟩
        rw [decide_eq_true h3]
        go_wp2
        go_ret2
        exact ⟨by rw [HV.out]; rfl, rfl⟩
      · have HV : Hid (ansR x k e = (0, false)) := by show _ = _; unfold ansR; rw [if_neg (fun hh => h3 hh.2.2)]
        go_enter Try.func13, Try.ntmps13
        go_wp2_with fail
        refine (l7Secret_any x _).mono ?_
        rintro e w1 ⟨rfl, rfl⟩
        rw [decide_eq_true h1]
        go_wp2_with fail
        refine (l7Secret_any k _).mono ?_
        rintro e w1 ⟨rfl, rfl⟩
        rw [decide_eq_true h2]
        go_wp2_with fail
        refine (l7Exp_any e _).mono ?_
        rintro e w1 ⟨rfl, rfl⟩
        rw [decide_eq_false h3]
        go_wp2
        go_ret2
        exact ⟨by rw [HV.out]; rfl, rfl⟩
    · have HV : Hid (ansR x k e = (0, false)) := by show _ = _; unfold ansR; rw [if_neg (fun hh => h2 hh.2.1)]
      go_enter Try.func13, Try.ntmps13
      go_wp2_with fail
      refine (l7Secret_any x _).mono ?_
      rintro e w1 ⟨rfl, rfl⟩
      rw [decide_eq_true h1]
      go_wp2_with fail
      refine (l7Secret_any k _).mono ?_
      rintro e w1 ⟨rfl, rfl⟩
      rw [decide_eq_false h2]
      go_wp2
      go_ret2
      exact ⟨by rw [HV.out]; rfl, rfl⟩
  · have HV : Hid (ansR x k e = (0, false)) := by show _ = _; unfold ansR; rw [if_neg (fun hh => h1 hh.1)]
    go_enter Try.func13, Try.ntmps13
    go_wp2_with fail
    refine (l7Secret_any x _).mono ?_
    rintro e w1 ⟨rfl, rfl⟩
    rw [decide_eq_false h1]
    go_wp2
    go_ret2
    exact ⟨by rw [HV.out]; rfl, rfl⟩

set_option maxHeartbeats 1000000 in
theorem lawBlindAnswer_walk (x k e : Int) (w : World) :
    Calls Try.prog 4 #[.int .i64 x, .int .i64 k, .int .i64 e] w fun r w' => r = .returned (.bool true) ∧ Below w.heap.size w w' := by
  go_enter Try.func4, Try.ntmps4
  go_wp2_with fail
  refine (specBlindAnswer_any x k e _).mono ?_
  rintro r w1 ⟨rfl, rfl⟩
  obtain ⟨t, ht⟩ : ∃ t, t = ansR x k e := ⟨_, rfl⟩
  have HT : Hid (t = ansR x k e) := ht
  rw [← ht, pair]
  clear ht
  obtain ⟨v, ok⟩ := t
  go_wp2_with fail
  refine (implBlindAnswer_any x k e _).mono ?_
  rintro r w1 ⟨rfl, rfl⟩
  rw [← HT.out, pair]
  have z1 : (v != v) = false := by simp
  have z2 : (ok != ok) = false := by simp
  go_wp2
  go_ret
  exact ⟨rfl, Below.refl _ _⟩

set_option maxHeartbeats 1000000 in
theorem implBlindDone_any (s a e : Int) (w : World) :
    Calls Try.prog 16 #[.int .i64 s, .int .i64 a, .int .i64 e] w fun r w' => r = .returned (.tuple #[sigv (doneR s a e).1, .bool (doneR s a e).2]) ∧ Below w.heap.size w w' := by
  by_cases h1 : expP s
  · by_cases h2 : expP a
    · by_cases h3 : expP e
      · have HV : Hid (doneR s a e = ((e, (s + a) % 500000003), true)) := by show _ = _; unfold doneR; rw [if_pos ⟨h1, h2, h3⟩]
        have hs0 := h1.1
        have hs1 := h1.2
        have ha0 := h2.1
        have ha1 := h2.2
        have hbx := boxS_new 32 w 0 0
        have HBX : Hid (_) := hbx
        have hc0 := hbx.c0
        have hc1 := hbx.c1
        have hf0 := hbx.fr 0
        have hf1 := hbx.fr 1
        have hb0 : Below w.heap.size w (w.alloc (.cells #[.int .i64 0, .int .i64 0] 32)) := (Below.refl _ _).alloc (Nat.le_refl _) _
        clear hbx
        go_enter Try.func16, Try.ntmps16
        go_wp2_with fail
        refine (isExponent_any s _).mono ?_
        rintro e w1 ⟨rfl, rfl⟩
        rw [decide_eq_true h1]
        go_wp2_with fail
        refine (isExponent_any a _).mono ?_
        rintro e w1 ⟨rfl, rfl⟩
        rw [decide_eq_true h2]
        go_wp2_with fail
        refine (isExponent_any e _).mono ?_
        rintro e w1 ⟨rfl, rfl⟩
        rw [decide_eq_true h3]
        obtain ⟨w1, hw1⟩ : ∃ w1, w1 = w.alloc (.cells #[.int .i64 0, .int .i64 0] 32) := ⟨_, rfl⟩
        rw [← hw1] at HBX hc0 hc1 hf0 hf1 hb0 ⊢
        clear hw1
        go_wp2
        try simp only [Exit.inBlock, Exit.then]
        refine bodyPost_ret (results_sig2 rfl _ w.heap.size rfl _ rfl _ _ (HBX.out.set e ((s + a) % 500000003))) rfl ⟨?_, below_set2 hb0 _ (Nat.le_refl _) _ _⟩
        rw [HV.out]
        rfl
      · have HV : Hid (doneR s a e = ((0, 0), false)) := by show _ = _; unfold doneR; rw [if_neg (fun hh => h3 hh.2.2)]
        have hbx := boxS_new 32 w 0 0
        have HBX : Hid (_) := hbx
        have hc0 := hbx.c0
        have hc1 := hbx.c1
        have hf0 := hbx.fr 0
        have hf1 := hbx.fr 1
        have hb0 : Below w.heap.size w (w.alloc (.cells #[.int .i64 0, .int .i64 0] 32)) := (Below.refl _ _).alloc (Nat.le_refl _) _
        clear hbx
        go_enter Try.func16, Try.ntmps16
        go_wp2_with fail
        refine (isExponent_any s _).mono ?_
        rintro e w1 ⟨rfl, rfl⟩
        rw [decide_eq_true h1]
        go_wp2_with fail
        refine (isExponent_any a _).mono ?_
        rintro e w1 ⟨rfl, rfl⟩
        rw [decide_eq_true h2]
        go_wp2_with fail
        refine (isExponent_any e _).mono ?_
        rintro e w1 ⟨rfl, rfl⟩
        rw [decide_eq_false h3]
        go_wp2
        try simp only [Exit.inBlock, Exit.then]
        refine bodyPost_ret (results_sig2 rfl _ w.heap.size rfl _ rfl _ _ HBX.out) rfl ⟨?_, hb0⟩
        rw [HV.out]
        rfl
    · have HV : Hid (doneR s a e = ((0, 0), false)) := by show _ = _; unfold doneR; rw [if_neg (fun hh => h2 hh.2.1)]
      have hbx := boxS_new 32 w 0 0
      have HBX : Hid (_) := hbx
      have hc0 := hbx.c0
      have hc1 := hbx.c1
      have hf0 := hbx.fr 0
      have hf1 := hbx.fr 1
      have hb0 : Below w.heap.size w (w.alloc (.cells #[.int .i64 0, .int .i64 0] 32)) := (Below.refl _ _).alloc (Nat.le_refl _) _
      clear hbx
      go_enter Try.func16, Try.ntmps16
      go_wp2_with fail
      refine (isExponent_any s _).mono ?_
      rintro e w1 ⟨rfl, rfl⟩
      rw [decide_eq_true h1]
      go_wp2_with fail
      refine (isExponent_any a _).mono ?_
      rintro e w1 ⟨rfl, rfl⟩
      rw [decide_eq_false h2]
      go_wp2
      try simp only [Exit.inBlock, Exit.then]
      refine bodyPost_ret (results_sig2 rfl _ w.heap.size rfl _ rfl _ _ HBX.out) rfl ⟨?_, hb0⟩
      rw [HV.out]
      rfl
  · have HV : Hid (doneR s a e = ((0, 0), false)) := by show _ = _; unfold doneR; rw [if_neg (fun hh => h1 hh.1)]
    have hbx := boxS_new 32 w 0 0
    have HBX : Hid (_) := hbx
    have hc0 := hbx.c0
    have hc1 := hbx.c1
    have hf0 := hbx.fr 0
    have hf1 := hbx.fr 1
    have hb0 : Below w.heap.size w (w.alloc (.cells #[.int .i64 0, .int .i64 0] 32)) := (Below.refl _ _).alloc (Nat.le_refl _) _
    clear hbx
    go_enter Try.func16, Try.ntmps16
    go_wp2_with fail
    refine (isExponent_any s _).mono ?_
    rintro e w1 ⟨rfl, rfl⟩
    rw [decide_eq_false h1]
    go_wp2
    try simp only [Exit.inBlock, Exit.then]
    refine bodyPost_ret (results_sig2 rfl _ w.heap.size rfl _ rfl _ _ HBX.out) rfl ⟨?_, hb0⟩
    rw [HV.out]
    rfl

set_option maxHeartbeats 1000000 in
theorem specBlindDone_any (s a e : Int) (w : World) :
    Calls Try.prog 15 #[.int .i64 s, .int .i64 a, .int .i64 e] w fun r w' => r = .returned (.tuple #[sigv (doneR s a e).1, .bool (doneR s a e).2]) ∧ Below w.heap.size w w' := by
  by_cases h1 : expP s
  · by_cases h2 : expP a
    · by_cases h3 : expP e
      · have HV : Hid (doneR s a e = ((e, (s + a) % 500000003), true)) := by show _ = _; unfold doneR; rw [if_pos ⟨h1, h2, h3⟩]
        have hs0 := h1.1
        have hs1 := h1.2
        have ha0 := h2.1
        have ha1 := h2.2
        have hbx := boxS_new 32 w 0 0
        have HBX : Hid (_) := hbx
        have hc0 := hbx.c0
        have hc1 := hbx.c1
        have hf0 := hbx.fr 0
        have hf1 := hbx.fr 1
        have hb0 : Below w.heap.size w (w.alloc (.cells #[.int .i64 0, .int .i64 0] 32)) := (Below.refl _ _).alloc (Nat.le_refl _) _
        clear hbx
        go_enter Try.func15, Try.ntmps15
        go_wp2_with fail
        refine (l7Exp_any s _).mono ?_
        rintro e w1 ⟨rfl, rfl⟩
        rw [decide_eq_true h1]
        go_wp2_with fail
        refine (l7Exp_any a _).mono ?_
        rintro e w1 ⟨rfl, rfl⟩
        rw [decide_eq_true h2]
        go_wp2_with fail
        refine (l7Exp_any e _).mono ?_
        rintro e w1 ⟨rfl, rfl⟩
        rw [decide_eq_true h3]
        obtain ⟨w1, hw1⟩ : ∃ w1, w1 = w.alloc (.cells #[.int .i64 0, .int .i64 0] 32) := ⟨_, rfl⟩
        rw [← hw1] at HBX hc0 hc1 hf0 hf1 hb0 ⊢
        clear hw1
        go_wp2
        try simp only [Exit.inBlock, Exit.then]
        refine bodyPost_ret (results_sig2 rfl _ w.heap.size rfl _ rfl _ _ (HBX.out.set e ((s + a) % 500000003))) rfl ⟨?_, below_set2 hb0 _ (Nat.le_refl _) _ _⟩
        rw [HV.out]
        rfl
      · have HV : Hid (doneR s a e = ((0, 0), false)) := by show _ = _; unfold doneR; rw [if_neg (fun hh => h3 hh.2.2)]
        have hbx := boxS_new 32 w 0 0
        have HBX : Hid (_) := hbx
        have hc0 := hbx.c0
        have hc1 := hbx.c1
        have hf0 := hbx.fr 0
        have hf1 := hbx.fr 1
        have hb0 : Below w.heap.size w (w.alloc (.cells #[.int .i64 0, .int .i64 0] 32)) := (Below.refl _ _).alloc (Nat.le_refl _) _
        clear hbx
        go_enter Try.func15, Try.ntmps15
        go_wp2_with fail
        refine (l7Exp_any s _).mono ?_
        rintro e w1 ⟨rfl, rfl⟩
        rw [decide_eq_true h1]
        go_wp2_with fail
        refine (l7Exp_any a _).mono ?_
        rintro e w1 ⟨rfl, rfl⟩
        rw [decide_eq_true h2]
        go_wp2_with fail
        refine (l7Exp_any e _).mono ?_
        rintro e w1 ⟨rfl, rfl⟩
        rw [decide_eq_false h3]
        go_wp2
        try simp only [Exit.inBlock, Exit.then]
        refine bodyPost_ret (results_sig2 rfl _ w.heap.size rfl _ rfl _ _ HBX.out) rfl ⟨?_, hb0⟩
        rw [HV.out]
        rfl
    · have HV : Hid (doneR s a e = ((0, 0), false)) := by show _ = _; unfold doneR; rw [if_neg (fun hh => h2 hh.2.1)]
      have hbx := boxS_new 32 w 0 0
      have HBX : Hid (_) := hbx
      have hc0 := hbx.c0
      have hc1 := hbx.c1
      have hf0 := hbx.fr 0
      have hf1 := hbx.fr 1
      have hb0 : Below w.heap.size w (w.alloc (.cells #[.int .i64 0, .int .i64 0] 32)) := (Below.refl _ _).alloc (Nat.le_refl _) _
      clear hbx
      go_enter Try.func15, Try.ntmps15
      go_wp2_with fail
      refine (l7Exp_any s _).mono ?_
      rintro e w1 ⟨rfl, rfl⟩
      rw [decide_eq_true h1]
      go_wp2_with fail
      refine (l7Exp_any a _).mono ?_
      rintro e w1 ⟨rfl, rfl⟩
      rw [decide_eq_false h2]
      go_wp2
      try simp only [Exit.inBlock, Exit.then]
      refine bodyPost_ret (results_sig2 rfl _ w.heap.size rfl _ rfl _ _ HBX.out) rfl ⟨?_, hb0⟩
      rw [HV.out]
      rfl
  · have HV : Hid (doneR s a e = ((0, 0), false)) := by show _ = _; unfold doneR; rw [if_neg (fun hh => h1 hh.1)]
    have hbx := boxS_new 32 w 0 0
    have HBX : Hid (_) := hbx
    have hc0 := hbx.c0
    have hc1 := hbx.c1
    have hf0 := hbx.fr 0
    have hf1 := hbx.fr 1
    have hb0 : Below w.heap.size w (w.alloc (.cells #[.int .i64 0, .int .i64 0] 32)) := (Below.refl _ _).alloc (Nat.le_refl _) _
    clear hbx
    go_enter Try.func15, Try.ntmps15
    go_wp2_with fail
    refine (l7Exp_any s _).mono ?_
    rintro e w1 ⟨rfl, rfl⟩
    rw [decide_eq_false h1]
    go_wp2
    try simp only [Exit.inBlock, Exit.then]
    refine bodyPost_ret (results_sig2 rfl _ w.heap.size rfl _ rfl _ _ HBX.out) rfl ⟨?_, hb0⟩
    rw [HV.out]
    rfl

theorem keep2 {w w1 w2 : World} (h : Below w.heap.size w w1) (k : Below w1.heap.size w1 w2) : Below w.heap.size w w2 := h.trans (k.mono h.size)

set_option maxHeartbeats 1000000 in
theorem lawBlindDone_walk (x k e : Int) (w : World) :
    Calls Try.prog 5 #[.int .i64 x, .int .i64 k, .int .i64 e] w fun r w' => r = .returned (.bool true) ∧ Below w.heap.size w w' := by
  go_enter Try.func5, Try.ntmps5
  go_wp2_with fail
  refine (specBlindDone_any x k e _).mono ?_
  rintro r w2 ⟨rfl, B2⟩
  obtain ⟨t, ht⟩ : ∃ t, t = doneR x k e := ⟨_, rfl⟩
  have HT : Hid (t = doneR x k e) := ht
  rw [← ht, sigv]
  clear ht
  obtain ⟨⟨E, Z⟩, ok⟩ := t
  have hx2 := boxS_new 32 w2 E Z
  have B2' : Below w.heap.size w (w2.alloc (.cells #[.int .i64 E, .int .i64 Z] 32)) := B2.alloc B2.size _
  go_wp2_with fail
  obtain ⟨w3, hw2⟩ : ∃ w3, w3 = w2.alloc (.cells #[.int .i64 E, .int .i64 Z] 32) := ⟨_, rfl⟩
  rw [← hw2] at hx2 B2' ⊢
  clear hw2
  refine (implBlindDone_any x k e _).mono ?_
  rintro r w4 ⟨rfl, hb4⟩
  have B4 := keep2 B2' hb4
  have hx4 := hx2.kept hb4
  rw [← HT.out, sigv]
  have hx5 := boxS_new 32 w4 E Z
  have D5 : Below w4.heap.size w4 (w4.alloc (.cells #[.int .i64 E, .int .i64 Z] 32)) := (Below.refl _ _).alloc (Nat.le_refl _) _
  have B5 := keep2 B4 D5
  have hx6 := hx4.kept D5
  have q0 := hx5.c0
  have q1 := hx5.c1
  have p0 := hx6.c0
  have p1 := hx6.c1
  clear hb4 hx2 hx4 hx5 hx6 D5 B4
  have zo : (ok != ok) = false := by simp
  go_wp2_with fail
  obtain ⟨w5, hw5⟩ : ∃ w5, w5 = w4.alloc (.cells #[.int .i64 E, .int .i64 Z] 32) := ⟨_, rfl⟩
  rw [← hw5] at B5 ⊢
  clear hw5 q0 q1 p0 p1
  refine (eqSig_same (E, Z) _).mono ?_
  rintro r w6 ⟨rfl, hb6⟩
  have B6 := keep2 B5 hb6
  go_wp2
  go_ret
  exact ⟨rfl, B6⟩

end Go.Proofs.Ythoooppdineldab
