import Derived.Test.YtjechndhgkkpeaaGJ1
namespace Go.Proofs.Ytjechndhgkkpeaa
open Go.RowKit

def joinR (zs : List Int) (e : Int) : (Int × Int) × Bool := if (1 ≤ zs.length ∧ zs.length ≤ 20) ∧ expP e ∧ expsP zs then ((e, sumF (fun j => zs.getD j 0) zs.length), true) else ((0, 0), false)

set_option maxHeartbeats 2000000 in
theorem implSignJoin_any (a : Option Addr) (n c : Nat) (zs : List Int) (e : Int) (w : World) (h : Row64 w a n zs) (hn : n ≤ 9223372036854775807) :
    Calls Try.prog 17 #[.slice a n c, .int .i64 e] w fun r w' => r = .returned (.tuple #[sigv (joinR zs e).1, .bool (joinR zs e).2]) ∧ Below w.heap.size w w' := by
  have H0 : Hid (Row64 w a n zs) := h
  have HL : Hid (zs.length = n) := h.len
  clear h
  have s1 : (w.alloc (.cells #[.slice a n c] 24)).heap.size = w.heap.size + 1 := by simp
  have hb0 : Below w.heap.size w ((w.alloc (.cells #[.slice a n c] 24)).alloc (.cells #[.int .i64 0, .int .i64 0] 43)) := ((Below.refl _ _).alloc (Nat.le_refl _) _).alloc (by simp) _
  have HBX : Hid (BoxS 43 (w.heap.size + 1) ((w.alloc (.cells #[.slice a n c] 24)).alloc (.cells #[.int .i64 0, .int .i64 0] 43)) (0, 0)) := by have := boxS_new 43 (w.alloc (.cells #[.slice a n c] 24)) 0 0; rwa [s1] at this
  have HC : Hid (((w.alloc (.cells #[.slice a n c] 24)).alloc (.cells #[.int .i64 0, .int .i64 0] 43)).cell? ⟨w.heap.size, 0, none⟩ = some (.slice a n c)) := by
    show _ = _
    exact (cell_of_row _ w.heap.size 0 _ 24 (0, 0) ((alloc_old2 _ _ _ (by simp)).trans (heap_alloc_new w _))).trans rfl
  obtain ⟨w2, hw2⟩ : ∃ w2, w2 = ((w.alloc (.cells #[.slice a n c] 24)).alloc (.cells #[.int .i64 0, .int .i64 0] 43)) := ⟨_, rfl⟩
  rw [← hw2] at hb0 HBX HC
  have HW2 : Hid (_ = _) := hw2
  clear hw2 s1
  by_cases h1 : expP e
  · by_cases h2 : (n : Int) < 1
    · have HR : Hid (joinR zs e = ((0, 0), false)) := by show _ = _; unfold joinR; rw [if_neg (fun hh => by have := hh.1.1; rw [HL.out] at this; omega)]
      go_enter Try.func17, Try.ntmps17
      go_wp2_with fail
      rw [← HW2.out]
      clear HW2
      refine (isExponent_any e _).mono ?_
      rintro r w1 ⟨rfl, rfl⟩
      rw [decide_eq_true h1]
      have q0 := HC.out
      have hf0 := HBX.out.fr 0
      have hf1 := HBX.out.fr 1
      have hc0 := HBX.out.c0
      have hc1 := HBX.out.c1
      go_wp2
      try simp only [Exit.inBlock, Exit.then]
      refine bodyPost_ret (results_sig2 rfl _ (w.heap.size + 1) rfl _ rfl _ _ (HBX.out.set 0 0)) rfl ⟨?_, below_set2 hb0 _ (by omega) _ _⟩
      rw [HR.out]
      rfl
    by_cases h3 : 20 < (n : Int)
    · have HR : Hid (joinR zs e = ((0, 0), false)) := by show _ = _; unfold joinR; rw [if_neg (fun hh => by have := hh.1.2; rw [HL.out] at this; omega)]
      go_enter Try.func17, Try.ntmps17
      go_wp2_with fail
      rw [← HW2.out]
      clear HW2
      refine (isExponent_any e _).mono ?_
      rintro r w1 ⟨rfl, rfl⟩
      rw [decide_eq_true h1]
      have q0 := HC.out
      have hf0 := HBX.out.fr 0
      have hf1 := HBX.out.fr 1
      have hc0 := HBX.out.c0
      have hc1 := HBX.out.c1
      go_wp2
      try simp only [Exit.inBlock, Exit.then]
      refine bodyPost_ret (results_sig2 rfl _ (w.heap.size + 1) rfl _ rfl _ _ (HBX.out.set 0 0)) rfl ⟨?_, below_set2 hb0 _ (by omega) _ _⟩
      rw [HR.out]
      rfl
    by_cases h4 : expsP zs
    · have HR : Hid (joinR zs e = ((e, sumF (fun j => zs.getD j 0) n), true)) := by show _ = _; unfold joinR; rw [if_pos ⟨by rw [HL.out]; omega, h1, h4⟩, HL.out]
      go_enter Try.func17, Try.ntmps17
      go_wp2_with fail
      rw [← HW2.out]
      clear HW2
      refine (isExponent_any e _).mono ?_
      rintro r w1 ⟨rfl, rfl⟩
      rw [decide_eq_true h1]
      have q0 := HC.out
      go_wp2_with fail
      refine (allExponents_any a n c zs _ (H0.out.kept hb0) hn).mono ?_
      rintro r w1 ⟨rfl, rfl⟩
      rw [decide_eq_true h4]
      go_wp2_with fail
      refine (sumOverJoin_any w.heap.size a n c zs _ HC.out (H0.out.kept hb0) (by omega) h4).mono ?_
      rintro r w1 ⟨rfl, rfl⟩
      have hf0 := HBX.out.fr 0
      have hf1 := HBX.out.fr 1
      have hc0 := HBX.out.c0
      have hc1 := HBX.out.c1
      go_wp2
      try simp only [Exit.inBlock, Exit.then]
      refine bodyPost_ret (results_sig2 rfl _ (w.heap.size + 1) rfl _ rfl _ _ (HBX.out.set e (sumF (fun j => zs.getD j 0) n))) rfl ⟨?_, below_set2 hb0 _ (by omega) _ _⟩
      rw [HR.out]
      rfl
    · have HR : Hid (joinR zs e = ((0, 0), false)) := by show _ = _; unfold joinR; rw [if_neg (fun hh => h4 hh.2.2)]
      go_enter Try.func17, Try.ntmps17
      go_wp2_with fail
      rw [← HW2.out]
      clear HW2
      refine (isExponent_any e _).mono ?_
      rintro r w1 ⟨rfl, rfl⟩
      rw [decide_eq_true h1]
      have q0 := HC.out
      go_wp2_with fail
      refine (allExponents_any a n c zs _ (H0.out.kept hb0) hn).mono ?_
      rintro r w1 ⟨rfl, rfl⟩
      rw [decide_eq_false h4]
      have hf0 := HBX.out.fr 0
      have hf1 := HBX.out.fr 1
      have hc0 := HBX.out.c0
      have hc1 := HBX.out.c1
      go_wp2
      try simp only [Exit.inBlock, Exit.then]
      refine bodyPost_ret (results_sig2 rfl _ (w.heap.size + 1) rfl _ rfl _ _ (HBX.out.set 0 0)) rfl ⟨?_, below_set2 hb0 _ (by omega) _ _⟩
      rw [HR.out]
      rfl
  · have HR : Hid (joinR zs e = ((0, 0), false)) := by show _ = _; unfold joinR; rw [if_neg (fun hh => h1 hh.2.1)]
    go_enter Try.func17, Try.ntmps17
    go_wp2_with fail
    rw [← HW2.out]
    clear HW2
    refine (isExponent_any e _).mono ?_
    rintro r w1 ⟨rfl, rfl⟩
    rw [decide_eq_false h1]
    have q0 := HC.out
    have hf0 := HBX.out.fr 0
    have hf1 := HBX.out.fr 1
    have hc0 := HBX.out.c0
    have hc1 := HBX.out.c1
    go_wp2
    try simp only [Exit.inBlock, Exit.then]
    refine bodyPost_ret (results_sig2 rfl _ (w.heap.size + 1) rfl _ rfl _ _ (HBX.out.set 0 0)) rfl ⟨?_, below_set2 hb0 _ (by omega) _ _⟩
    rw [HR.out]
    rfl

end Go.Proofs.Ytjechndhgkkpeaa
