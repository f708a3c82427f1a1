import Derived.Test.YthoooppdineldacGJ1
namespace Go.Proofs.Ythoooppdineldac
open Go.RowKit

def joinR (zs : List Int) (e : Int) : (Int × Int) × Bool := if (1 ≤ zs.length ∧ zs.length ≤ 20) ∧ expP e ∧ expsP zs then ((e, sumF (fun j => zs.getD j 0) zs.length), true) else ((0, 0), false)

set_option maxHeartbeats 2000000 in
theorem implSignJoin_any (a : Option Addr) (n c : Nat) (zs : List Int) (e : Int) (w : World) (h : Row64 w a n zs) (hn : n ≤ 9223372036854775807) :
    Calls Try.prog 11 #[.slice a n c, .int .i64 e] w fun r w' => r = .returned (.tuple #[sigv (joinR zs e).1, .bool (joinR zs e).2]) ∧ Below w.heap.size w w' := by
  have H0 : Hid (Row64 w a n zs) := h
  have HL : Hid (zs.length = n) := h.len
  clear h
  have s1 : (w.alloc (.cells #[.slice a n c] 24)).heap.size = w.heap.size + 1 := by simp
  have hb0 : Below w.heap.size w ((w.alloc (.cells #[.slice a n c] 24)).alloc (.cells #[.int .i64 0, .int .i64 0] 33)) := ((Below.refl _ _).alloc (Nat.le_refl _) _).alloc (by simp) _
  have HBX : Hid (BoxS 33 (w.heap.size + 1) ((w.alloc (.cells #[.slice a n c] 24)).alloc (.cells #[.int .i64 0, .int .i64 0] 33)) (0, 0)) := by have := boxS_new 33 (w.alloc (.cells #[.slice a n c] 24)) 0 0; rwa [s1] at this
  have HC : Hid (((w.alloc (.cells #[.slice a n c] 24)).alloc (.cells #[.int .i64 0, .int .i64 0] 33)).cell? ⟨w.heap.size, 0, none⟩ = some (.slice a n c)) := by
    show _ = _
    exact (cell_of_row _ w.heap.size 0 _ 24 (0, 0) ((alloc_old2 _ _ _ (by simp)).trans (heap_alloc_new w _))).trans rfl
  obtain ⟨w2, hw2⟩ : ∃ w2, w2 = ((w.alloc (.cells #[.slice a n c] 24)).alloc (.cells #[.int .i64 0, .int .i64 0] 33)) := ⟨_, rfl⟩
  rw [← hw2] at hb0 HBX HC
  have HW2 : Hid (_ = _) := hw2
  clear hw2 s1
  by_cases h1 : expP e
  · by_cases h2 : (n : Int) < 1
    · have HR : Hid (joinR zs e = ((0, 0), false)) := by show _ = _; unfold joinR; rw [if_neg (fun hh => by have := hh.1.1; rw [HL.out] at this; omega)]
      go_enter Try.func11, Try.ntmps11
      go_wp2_with fail
      rw [← HW2.out]
      clear HW2
      refine (isExponent_any e _).mono ?_
      rintro r w1 ⟨rfl, rfl⟩
      rw [decide_eq_true h1]
      have q0 := HC.out
      have hf0 := HBX.out.fr 0
      have hf1 := HBX.out.fr 1
      have hc0 := HBX.out.c0
      have hc1 := HBX.out.c1
      go_wp2
      try simp only [Exit.inBlock, Exit.then]
      refine bodyPost_ret (results_sig2 rfl _ (w.heap.size + 1) rfl _ rfl _ _ (HBX.out.set 0 0)) rfl ⟨?_, below_set2 hb0 _ (by omega) _ _⟩
      rw [HR.out]
      rfl
    by_cases h3 : 20 < (n : Int)
    · have HR : Hid (joinR zs e = ((0, 0), false)) := by show _ = _; unfold joinR; rw [if_neg (fun hh => by have := hh.1.2; rw [HL.out] at this; omega)]
      go_enter Try.func11, Try.ntmps11
      go_wp2_with fail
      rw [← HW2.out]
      clear HW2
      refine (isExponent_any e _).mono ?_
      rintro r w1 ⟨rfl, rfl⟩
      rw [decide_eq_true h1]
      have q0 := HC.out
      have hf0 := HBX.out.fr 0
      have hf1 := HBX.out.fr 1
      have hc0 := HBX.out.c0
      have hc1 := HBX.out.c1
      go_wp2
      try simp only [Exit.inBlock, Exit.then]
      refine bodyPost_ret (results_sig2 rfl _ (w.heap.size + 1) rfl _ rfl _ _ (HBX.out.set 0 0)) rfl ⟨?_, below_set2 hb0 _ (by omega) _ _⟩
      rw [HR.out]
      rfl
    by_cases h4 : expsP zs
    · have HR : Hid (joinR zs e = ((e, sumF (fun j => zs.getD j 0) n), true)) := by show _ = _; unfold joinR; rw [if_pos ⟨by rw [HL.out]; omega, h1, h4⟩, HL.out]
      go_enter Try.func11, Try.ntmps11
      go_wp2_with fail
      rw [← HW2.out]
      clear HW2
      refine (isExponent_any e _).mono ?_
      rintro r w1 ⟨rfl, rfl⟩
      rw [decide_eq_true h1]
      have q0 := HC.out
      go_wp2_with fail
      refine (allExponents_any a n c zs _ (H0.out.kept hb0) hn).mono ?_
      rintro r w1 ⟨rfl, rfl⟩
      rw [decide_eq_true h4]
      go_wp2_with fail
      refine (sumOverJoin_any w.heap.size a n c zs _ HC.out (H0.out.kept hb0) (by omega) h4).mono ?_
      rintro r w1 ⟨rfl, rfl⟩
      have hf0 := HBX.out.fr 0
      have hf1 := HBX.out.fr 1
      have hc0 := HBX.out.c0
      have hc1 := HBX.out.c1
      go_wp2
      try simp only [Exit.inBlock, Exit.then]
      refine bodyPost_ret (results_sig2 rfl _ (w.heap.size + 1) rfl _ rfl _ _ (HBX.out.set e (sumF (fun j => zs.getD j 0) n))) rfl ⟨?_, below_set2 hb0 _ (by omega) _ _⟩
      rw [HR.out]
      rfl
    · have HR : Hid (joinR zs e = ((0, 0), false)) := by show _ = _; unfold joinR; rw [if_neg (fun hh => h4 hh.2.2)]
      go_enter Try.func11, Try.ntmps11
      go_wp2_with fail
      rw [← HW2.out]
      clear HW2
      refine (isExponent_any e _).mono ?_
      rintro r w1 ⟨rfl, rfl⟩
      rw [decide_eq_true h1]
      have q0 := HC.out
      go_wp2_with fail
      refine (allExponents_any a n c zs _ (H0.out.kept hb0) hn).mono ?_
      rintro r w1 ⟨rfl, rfl⟩
      rw [decide_eq_false h4]
      have hf0 := HBX.out.fr 0
      have hf1 := HBX.out.fr 1
      have hc0 := HBX.out.c0
      have hc1 := HBX.out.c1
      go_wp2
      try simp only [Exit.inBlock, Exit.then]
      refine bodyPost_ret (results_sig2 rfl _ (w.heap.size + 1) rfl _ rfl _ _ (HBX.out.set 0 0)) rfl ⟨?_, below_set2 hb0 _ (by omega) _ _⟩
      rw [HR.out]
      rfl
  · have HR : Hid (joinR zs e = ((0, 0), false)) := by show _ = _; unfold joinR; rw [if_neg (fun hh => h1 hh.2.1)]
    go_enter Try.func11, Try.ntmps11
    go_wp2_with fail
    rw [← HW2.out]
    clear HW2
    refine (isExponent_any e _).mono ?_
    rintro r w1 ⟨rfl, rfl⟩
    rw [decide_eq_false h1]
    have q0 := HC.out
    have hf0 := HBX.out.fr 0
    have hf1 := HBX.out.fr 1
    have hc0 := HBX.out.c0
    have hc1 := HBX.out.c1
    go_wp2
    try simp only [Exit.inBlock, Exit.then]
    refine bodyPost_ret (results_sig2 rfl _ (w.heap.size + 1) rfl _ rfl _ _ (HBX.out.set 0 0)) rfl ⟨?_, below_set2 hb0 _ (by omega) _ _⟩
    rw [HR.out]
    rfl

set_option maxHeartbeats 2000000 in
theorem specSignJoin_any (a : Option Addr) (n c : Nat) (zs : List Int) (e : Int) (w : World) (h : Row64 w a n zs) (hn : n ≤ 9223372036854775807) :
    Calls Try.prog 10 #[.slice a n c, .int .i64 e] w fun r w' => r = .returned (.tuple #[sigv (joinR zs e).1, .bool (joinR zs e).2]) ∧ Below w.heap.size w w' := by
  have H0 : Hid (Row64 w a n zs) := h
  have HL : Hid (zs.length = n) := h.len
  clear h
  have hb0 : Below w.heap.size w (w.alloc (.cells #[.int .i64 0, .int .i64 0] 33)) := (Below.refl _ _).alloc (Nat.le_refl _) _
  have HBX : Hid (BoxS 33 w.heap.size (w.alloc (.cells #[.int .i64 0, .int .i64 0] 33)) (0, 0)) := boxS_new 33 w 0 0
  by_cases h2 : (n : Int) < 1
  · have HR : Hid (joinR zs e = ((0, 0), false)) := by show _ = _; unfold joinR; rw [if_neg (fun hh => by have := hh.1.1; rw [HL.out] at this; omega)]
    go_enter Try.func10, Try.ntmps10
    go_wp2
    try simp only [Exit.inBlock, Exit.then]
    refine bodyPost_ret (results_sig2 rfl _ w.heap.size rfl _ rfl _ _ HBX.out) rfl ⟨?_, hb0⟩
    rw [HR.out]
    rfl
  by_cases h3 : 20 < (n : Int)
  · have HR : Hid (joinR zs e = ((0, 0), false)) := by show _ = _; unfold joinR; rw [if_neg (fun hh => by have := hh.1.2; rw [HL.out] at this; omega)]
    go_enter Try.func10, Try.ntmps10
    go_wp2
    try simp only [Exit.inBlock, Exit.then]
    refine bodyPost_ret (results_sig2 rfl _ w.heap.size rfl _ rfl _ _ HBX.out) rfl ⟨?_, hb0⟩
    rw [HR.out]
    rfl
  by_cases h1 : expP e
  · go_enter Try.func10, Try.ntmps10
    go_wp2_with fail
    refine (l7Exp_any e _).mono ?_
    rintro r w1 ⟨rfl, rfl⟩
    rw [decide_eq_true h1]
    obtain ⟨w1, hw1⟩ : ∃ w1, w1 = w.alloc (.cells #[.int .i64 0, .int .i64 0] 33) := ⟨_, rfl⟩
    rw [← hw1] at hb0 HBX ⊢
    clear hw1
    go_wp2
    go_loopw [6, 7] (fun s i wr => ∃ (k : Nat) (v : Int), k ≤ n ∧ i = .int .i64 k ∧ s = .int .i64 v ∧ 0 ≤ v ∧ v < 500000003 ∧ Hid (v = sumF (fun j => zs.getD j 0) k ∧ ∀ j, j < k → expP (zs.getD j 0)) ∧ w1 = wr) (fun _ i _ => n - (intOf i).toNat)
    case atStart => exact ⟨0, 0, Nat.zero_le _, rfl, rfl, by decide, by decide, ⟨rfl, fun j hj => absurd hj (Nat.not_lt_zero _)⟩, rfl⟩
    case round =>
      obtain ⟨k, v, hk, rfl, rfl, hv0, hv1, HV, rfl⟩ := hrel
      by_cases hlt : k < n
      · obtain ⟨b, off, rfl, hb, hcell⟩ := (H0.out.kept hb0).get k hlt
        obtain ⟨z, hz⟩ : ∃ z, z = zs.getD k 0 := ⟨_, rfl⟩
        rw [← hz] at hcell
        have HZ : Hid (z = zs.getD k 0) := hz
        have hlti : (k : Int) < (n : Int) := by omega
        clear hz
        go_wp2_with fail
        refine (l7Exp_any z _).mono ?_
        rintro r w2 ⟨rfl, rfl⟩
        by_cases hs : expP z
        · have HN : Hid ((v + z) % 500000003 = sumF (fun j => zs.getD j 0) (k + 1) ∧ ∀ j, j < k + 1 → expP (zs.getD j 0)) := by
            refine ⟨by rw [sumF, ← HV.out.1, HZ.out], fun j hj => ?_⟩
            by_cases e : j = k
            · rw [e, ← HZ.out]; exact hs
            · exact HV.out.2 j (by omega)
          have hz0 := hs.1
          have hz1 := hs.2
          obtain ⟨hm0, hm1⟩ := mod_bd (v + z) (show (1 : Int) ≤ 500000003 by decide)
          rw [decide_eq_true hs]
          clear hs HV
          go_wp2
          go_roundw
          case rel => exact ⟨k + 1, _, by omega, by go_num, rfl, hm0, hm1, HN, by trivial⟩
          case measure => simp [intOf]; omega
        · have HR : Hid (joinR zs e = ((0, 0), false)) := by show _ = _; unfold joinR; rw [if_neg (fun hh => hs (by rw [HZ.out]; exact hh.2.2 k (by rw [HL.out]; exact hlt)))]
          rw [decide_eq_false hs]
          have hf0 := HBX.out.fr 0
          have hf1 := HBX.out.fr 1
          have hc0 := HBX.out.c0
          have hc1 := HBX.out.c1
          clear hs HV
          go_wp2
          try simp only [Exit.inBlock, Exit.then]
          refine bodyPost_ret (results_sig2 rfl _ w.heap.size rfl _ rfl _ _ (HBX.out.set 0 0)) rfl ⟨?_, below_set2 hb0 _ (Nat.le_refl _) _ _⟩
          rw [HR.out]
          rfl
      · obtain rfl : k = n := by omega
        have HR : Hid (joinR zs e = ((e, v), true)) := by
          show _ = _
          unfold joinR
          rw [if_pos ⟨by rw [HL.out]; omega, h1, fun j hj => HV.out.2 j (by rw [HL.out] at hj; exact hj)⟩, HL.out, HV.out.1]
        have hf0 := HBX.out.fr 0
        have hf1 := HBX.out.fr 1
        have hc0 := HBX.out.c0
        have hc1 := HBX.out.c1
        clear HV
        go_wp2
        try simp only [Exit.inBlock, Exit.then]
        refine bodyPost_ret (results_sig2 rfl _ w.heap.size rfl _ rfl _ _ (HBX.out.set e v)) rfl ⟨?_, below_set2 hb0 _ (Nat.le_refl _) _ _⟩
        rw [HR.out]
        rfl
  · have HR : Hid (joinR zs e = ((0, 0), false)) := by show _ = _; unfold joinR; rw [if_neg (fun hh => h1 hh.2.1)]
    go_enter Try.func10, Try.ntmps10
    go_wp2_with fail
    refine (l7Exp_any e _).mono ?_
    rintro r w1 ⟨rfl, rfl⟩
    rw [decide_eq_false h1]
    go_wp2
    try simp only [Exit.inBlock, Exit.then]
    refine bodyPost_ret (results_sig2 rfl _ w.heap.size rfl _ rfl _ _ HBX.out) rfl ⟨?_, hb0⟩
    rw [HR.out]
    rfl

set_option maxHeartbeats 2000000 in
theorem lawSignJoin_walk (a : Option Addr) (n c : Nat) (zs : List Int) (e : Int) (w : World) (h : Row64 w a n zs) (hmax : n ≤ 9223372036854775807) :
    Calls Try.prog 4 #[.slice a n c, .int .i64 e] w fun r w' => r = .returned (.bool true) ∧ Below w.heap.size w w' := by
  have H0 : Hid (Row64 w a n zs) := h
  clear h
  by_cases hbig : 1048576 < n
  · go_enter Try.func4, Try.ntmps4
    go_wp2
    go_ret
    exact ⟨rfl, Below.refl _ _⟩
  · have hn : n ≤ 1048576 := by omega
    go_enter Try.func4, Try.ntmps4
    go_wp2_with fail
    refine (toInt64S_any a n c zs _ H0.out hn).mono ?_
    rintro r w1 ⟨a1, rfl, ho1, hb1⟩
    go_wp2_with fail
    refine (specSignJoin_any a1 n n zs e _ ho1.toRow (by omega)).mono ?_
    rintro r w2 ⟨rfl, hb2⟩
    have B2 := keep3 hb1 hb2
    clear hb1 hb2 ho1
    obtain ⟨t, ht⟩ : ∃ t, t = joinR zs e := ⟨_, rfl⟩
    have HT : Hid (t = joinR zs e) := ht
    rw [← ht, sigv]
    clear ht
    obtain ⟨⟨E, Z⟩, ok⟩ := t
    have hx2 := boxS_new 33 w2 E Z
    have B2' : Below w.heap.size w (w2.alloc (.cells #[.int .i64 E, .int .i64 Z] 33)) := B2.alloc B2.size _
    go_wp2_with fail
    obtain ⟨w2', hw2⟩ : ∃ w2', w2' = w2.alloc (.cells #[.int .i64 E, .int .i64 Z] 33) := ⟨_, rfl⟩
    rw [← hw2] at hx2 B2' ⊢
    clear hw2
    refine (toInt64S_any a n c zs _ (H0.out.kept B2') hn).mono ?_
    rintro r w3 ⟨a3, rfl, ho3, hb3⟩
    have B3 := keep3 B2' hb3
    have hx3 := hx2.kept hb3
    have HO3 : Hid (Row64 w3 a3 n zs) := ho3.toRow
    clear hb3 ho3 B2' hx2
    go_wp2_with fail
    refine (implSignJoin_any a3 n n zs e _ HO3.out (by omega)).mono ?_
    rintro r w4 ⟨rfl, hb4⟩
    have B4 := keep3 B3 hb4
    have HO4 : Hid (Row64 w4 a3 n zs) := HO3.out.kept hb4
    have hx4 := hx3.kept hb4
    rw [← HT.out, sigv]
    have hx5 := boxS_new 33 w4 E Z
    have D5 : Below w4.heap.size w4 (w4.alloc (.cells #[.int .i64 E, .int .i64 Z] 33)) := (Below.refl _ _).alloc (Nat.le_refl _) _
    have B5 := keep3 B4 D5
    have hx6 := hx4.kept D5
    have q0 := hx5.c0
    have q1 := hx5.c1
    have p0 := hx6.c0
    have p1 := hx6.c1
    have HO5 : Hid (Row64 (w4.alloc (.cells #[.int .i64 E, .int .i64 Z] 33)) a3 n zs) := HO4.out.kept D5
    clear hb4 HO3 HO4 hx3 hx4 hx5 hx6 D5 B3 B4
    have zo : (ok != ok) = false := by simp
    go_wp2_with fail
    obtain ⟨w5, hw5⟩ : ∃ w5, w5 = w4.alloc (.cells #[.int .i64 E, .int .i64 Z] 33) := ⟨_, rfl⟩
    rw [← hw5] at HO5 B5 ⊢
    clear hw5 q0 q1 p0 p1
    refine (eqSig_same (E, Z) _).mono ?_
    rintro r w6 ⟨rfl, hb6⟩
    have B6 := keep3 B5 hb6
    have HO6 : Hid (Row64 w6 a3 n zs) := HO5.out.kept hb6
    clear hb6 HO5 B5
    go_wp2_with fail
    refine (toInt64S_any a n c zs _ (H0.out.kept B6) hn).mono ?_
    rintro r w7 ⟨a5, rfl, ho5, hb7⟩
    have B7 := keep3 B6 hb7
    go_wp2_with fail
    refine (eqInt64S_same a3 a5 n n n zs _ (HO6.out.kept hb7) ho5.toRow (by omega)).mono ?_
    rintro r w8 ⟨rfl, hb8⟩
    have B8 := keep3 B7 hb8
    go_wp2
    go_ret
    exact ⟨rfl, B8⟩

end Go.Proofs.Ythoooppdineldac
