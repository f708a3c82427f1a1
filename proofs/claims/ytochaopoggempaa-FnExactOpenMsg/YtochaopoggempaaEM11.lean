import Derived.Test.YtochaopoggempaaEM9
namespace Go.Proofs.Ytochaopoggempaa
open Go.RowKit

set_option maxRecDepth 10000 in
set_option maxHeartbeats 1000000 in
theorem eqEnv_same (eph : Int) (wa : Option Addr) (wn wc : Nat) (ba : Option Addr) (bn bc : Nat) (tg : Int) (wa' : Option Addr) (wc' : Nat) (ba' : Option Addr) (bc' : Nat) (ws : List (Int × Int)) (bs : List Int) (w : World)
    (h1 : RowWr w wa wn ws) (h2 : Row w ba bn bs) (h3 : RowWr w wa' wn ws) (h4 : Row w ba' bn bs) (hn : wn ≤ 9223372036854775807) (hn2 : bn ≤ maxLen) :
    Calls Try.prog 27 #[evv eph wa wn wc ba bn bc tg, evv eph wa' wn wc' ba' bn bc' tg] w fun e w' => e = .returned (.bool true) ∧ Below w.heap.size w w' := by
  obtain ⟨wb, hwb⟩ : ∃ wb, wb = (w.alloc (.cells #[.int .i64 eph, .slice wa wn wc, .slice ba bn bc, .int .u64 tg] 46)).alloc (.cells #[.int .i64 eph, .slice wa' wn wc', .slice ba' bn bc', .int .u64 tg] 46) := ⟨_, rfl⟩
  have hbb : Below w.heap.size w wb := by rw [hwb]; exact two_below _ _ _
  have hx := two_blocks w (.cells #[.int .i64 eph, .slice wa wn wc, .slice ba bn bc, .int .u64 tg] 46) (.cells #[.int .i64 eph, .slice wa' wn wc', .slice ba' bn bc', .int .u64 tg] 46)
  rw [← hwb] at hx
  have HXD : Hid (∀ w7, Below wb.heap.size wb w7 → BlkV w7 w.heap.size (.int .i64 eph) (.slice wa wn wc) (.slice ba bn bc) (.int .u64 tg) ∧ BlkV w7 (w.heap.size + 1) (.int .i64 eph) (.slice wa' wn wc') (.slice ba' bn bc') (.int .u64 tg)) := fun w7 h7 => ⟨BlkV.kept (w := wb) hx.1 h7, BlkV.kept (w := wb) hx.2 h7⟩
  have HW : Hid (_ = _) := hwb
  have H1 : Hid (RowWr w wa wn ws) := h1
  have H2 : Hid (Row w ba bn bs) := h2
  have H3 : Hid (RowWr w wa' wn ws) := h3
  have H4 : Hid (Row w ba' bn bs) := h4
  clear hwb hx h1 h2 h3 h4
  have z : (eph != eph) = false := by simp
  have z' : (tg != tg) = false := by simp
  obtain ⟨X, Y⟩ := HXD.out _ (Below.refl _ _)
  obtain ⟨⟨p0, p1, p2, p3⟩, _⟩ := X.cells
  obtain ⟨⟨q0, q1, q2, q3⟩, _⟩ := Y.cells
  clear X Y
  rw [evv, evv]
  go_enter Try.func27, Try.ntmps27
  go_upto_region 1 with fail
  rw [← HW.out]
  clear HW
  go_wp2_with fail
  refine (eqWrS_same wa wa' wn wc wc' ws _ (H1.out.kept hbb) (H3.out.kept hbb) hn).mono ?_
  rintro e w2 ⟨rfl, hb2⟩
  clear p0 p1 p2 p3 q0 q1 q2 q3
  obtain ⟨X, Y⟩ := HXD.out _ hb2
  obtain ⟨⟨p0, p1, p2, p3⟩, _⟩ := X.cells
  obtain ⟨⟨q0, q1, q2, q3⟩, _⟩ := Y.cells
  clear X Y
  have hB2 := keepT hbb hb2
  go_wp2_with fail
  refine (eqByteS_any ba ba' bn bn bc bc' bs bs _ (H2.out.kept hB2) (H4.out.kept hB2) hn2 hn2).mono ?_
  rintro e w3 ⟨rfl, hb3⟩
  rw [decide_eq_true (rfl : bs = bs)]
  clear p0 p1 p2 p3 q0 q1 q2 q3
  obtain ⟨X, Y⟩ := HXD.out _ (keepT hb2 hb3)
  obtain ⟨⟨p0, p1, p2, p3⟩, _⟩ := X.cells
  obtain ⟨⟨q0, q1, q2, q3⟩, _⟩ := Y.cells
  clear X Y
  go_wp2
  go_ret
  exact ⟨rfl, keepT hB2 hb3⟩

set_option maxRecDepth 10000 in
set_option maxHeartbeats 400000 in
theorem markWrapS_zero (a : Option Addr) (cap : Nat) (k : Int) (w : World) :
    Calls Try.prog 71 #[.slice a 0 cap, .int .i64 k] w fun e w' => e = .returned (.int .i64 k) ∧ w' = w := by
  go_enter Try.func71, Try.ntmps71
  go_wp2
  refine wp_loop_rounds 1 ?_
  rw [rounds_succ]
  go_wp2
  go_ret
  exact ⟨rfl, rfl⟩

theorem markWrS_t (B : Nat) (a : Option Addr) (n cap k : Nat) (ps : List (Int × Int)) (w : World) (h : 0 < n → OwnWr B w a n cap ps) (hn : n ≤ 10000000) (hk : k ≤ 10000000) :
    Calls Try.prog 71 #[.slice a n cap, .int .i64 k] w fun e w' => e = .returned (.int .i64 (k + 2 * n : Nat)) ∧ RowWr w' a n (marksWr k n) ∧ ∀ p q, In a n p q → Touch p q w w' := by
  rcases Nat.eq_zero_or_pos n with h0 | h0
  · subst h0
    refine (markWrapS_zero a cap k w).mono ?_
    rintro e w' ⟨rfl, rfl⟩
    exact ⟨by simp, ⟨rfl, fun j hj => absurd hj (Nat.not_lt_zero _), UWr.nil⟩, fun p q _ => Touch.refl _ _ _⟩
  · refine (markWrS_any B a n cap k ps w (h h0) hn hk).mono ?_
    rintro e w' ⟨rfl, ho, ht⟩
    exact ⟨rfl, ho.toRow, ht⟩

set_option maxRecDepth 10000 in
set_option maxHeartbeats 400000 in
theorem markPubS_zero (a : Option Addr) (cap : Nat) (k : Int) (w : World) :
    Calls Try.prog 29 #[.slice a 0 cap, .int .i64 k] w fun e w' => e = .returned (.int .i64 k) ∧ w' = w := by
  go_enter Try.func29, Try.ntmps29
  go_wp2
  refine wp_loop_rounds 1 ?_
  rw [rounds_succ]
  go_wp2
  go_ret
  exact ⟨rfl, rfl⟩

theorem markPuS_int (B : Nat) (a : Option Addr) (n cap : Nat) (k : Int) (ps : List (Int × Int × Int)) (w : World) (h : 0 < n → OwnPu B w a n cap ps) (hn : n ≤ 10000000) (hk0 : 0 ≤ k) (hk : k ≤ 10000000) :
    Calls Try.prog 29 #[.slice a n cap, .int .i64 k] w fun e w' => e = .returned (.int .i64 (k + 3 * n)) ∧ ∀ p q, In a n p q → Touch p q w w' := by
  rcases Nat.eq_zero_or_pos n with h0 | h0
  · subst h0
    refine (markPubS_zero a cap k w).mono ?_
    rintro e w' ⟨rfl, rfl⟩
    exact ⟨by simp, fun p q _ => Touch.refl _ _ _⟩
  obtain ⟨m, rfl⟩ := Int.eq_ofNat_of_zero_le hk0
  refine (markPuS_any B a n cap m ps w (h h0) hn (by omega)).mono ?_
  rintro e w' ⟨rfl, _, ht⟩
  exact ⟨by simp, ht⟩

set_option maxRecDepth 10000 in
set_option maxHeartbeats 1000000 in
theorem markEnv_any (B E : Nat) (eph : Int) (wa : Option Addr) (wn wc : Nat) (ba : Option Addr) (bn bc : Nat) (tg : Int) (ws : List (Int × Int)) (bs : List Int) (w : World) (h : EvW B E w wa wn wc ws ba bn bc bs) (hE : E ≤ w.heap.size) (hn : wn ≤ 2000000) (hn2 : bn ≤ 2000000) :
    Calls Try.prog 30 #[evv eph wa wn wc ba bn bc tg, .int .i64 1] w fun e w' => e = .returned (.int .i64 ((1 + 2 * wn : Nat) + (bn : Int))) ∧ RowWr w' wa wn (marksWr 1 wn) ∧ Row w' ba bn (marks (1 + 2 * wn) bn) ∧ Touch B E w w' := by
  obtain ⟨M, hM1, hM2, hM⟩ := h.sep
  obtain ⟨K, hK⟩ : ∃ K, K = 1 + 2 * wn := ⟨_, rfl⟩
  have HK : Hid (1 + 2 * wn = K) := hK.symm
  have hKb : K ≤ 4000001 := by omega
  clear hK
  rw [HK.out]
  obtain ⟨wb, hwb⟩ : ∃ wb, wb = w.alloc (.cells #[.int .i64 eph, .slice wa wn wc, .slice ba bn bc, .int .u64 tg] 46) := ⟨_, rfl⟩
  have hbb : Below w.heap.size w wb := by rw [hwb]; exact (Below.refl _ _).alloc (Nat.le_refl _) _
  have hl0 : w.heap.size < wb.heap.size := by rw [hwb]; simp
  have X0 : BlkV wb w.heap.size (.int .i64 eph) (.slice wa wn wc) (.slice ba bn bc) (.int .u64 tg) := by rw [hwb]; exact heap_alloc_new w _
  have p0 := X0.cells.1.2.1
  have HB2 : Hid (∀ w7, Touch B E wb w7 → w7.cell? ⟨w.heap.size, 2, none⟩ = some (.slice ba bn bc)) := fun w7 h7 => (X0.touch h7 (.inr hE)).cells.1.2.2.1
  have HW : Hid (_ = _) := hwb
  have HS : Hid (In wa wn B M ∧ In ba bn M E ∨ In ba bn B M ∧ In wa wn M E) := hM
  have H : Hid (EvW B E wb wa wn wc ws ba bn bc bs) := h.kept hbb
  clear hwb X0 hM h
  rw [evv]
  go_enter Try.func30, Try.ntmps30
  go_upto_region 1 with fail
  rw [← HW.out]
  clear HW
  go_wp2_with fail
  refine (markWrS_t B wa wn wc 1 ws _ H.out.wo (by omega) (by decide)).mono ?_
  rintro e w2 ⟨rfl, hr2, ht2⟩
  rw [HK.out]
  have T2 : Touch B E wb w2 := by
    rcases HS.out with ⟨h1, _⟩ | ⟨_, h1⟩
    · exact (ht2 _ _ h1).mono (Nat.le_refl _) hM2
    · exact (ht2 _ _ h1).mono hM1 (Nat.le_refl _)
  have HO2 : Hid (0 < bn → Own B w2 ba bn bc bs) := fun hp => by
    rcases HS.out with ⟨h1, h2⟩ | ⟨h2, h1⟩
    · exact (H.out.bo hp).touch h2 (.inr (Nat.le_refl _)) (ht2 _ _ h1) hp
    · exact (H.out.bo hp).touch h2 (.inl (Nat.le_refl _)) (ht2 _ _ h1) hp
  have p2 := HB2.out _ T2
  have HR2 : Hid (RowWr w2 wa wn (marksWr 1 wn)) := hr2
  clear hr2 ht2 p0 HB2
  go_wp2_with fail
  refine (markByteS_t B ba bn bc (K : Int) bs _ HO2.out (by omega) (by omega) (by omega)).mono ?_
  rintro e w3 ⟨rfl, _, hr3, ht3⟩
  have T3 : Touch B E wb w3 ∧ RowWr w3 wa wn (marksWr 1 wn) := by
    rcases HS.out with ⟨h1, h2⟩ | ⟨h2, h1⟩
    · exact ⟨T2.trans ((ht3 _ _ h2).mono hM1 (Nat.le_refl _)), HR2.out.touch h1 (.inl (Nat.le_refl _)) (ht3 _ _ h2)⟩
    · exact ⟨T2.trans ((ht3 _ _ h2).mono (Nat.le_refl _) hM2), HR2.out.touch h1 (.inr (Nat.le_refl _)) (ht3 _ _ h2)⟩
  rw [Int.toNat_natCast] at hr3
  clear ht3
  go_wp2
  go_ret
  exact ⟨rfl, T3.2, hr3, (Touch.of_below hbb).trans T3.1⟩

set_option maxRecDepth 10000 in
set_option maxHeartbeats 1000000 in
theorem heldEnv_any (eph : Int) (wa : Option Addr) (wn wc : Nat) (ba : Option Addr) (bn bc : Nat) (tg : Int) (w : World) (h1 : RowWr w wa wn (marksWr 1 wn)) (h2 : Row w ba bn (marks (1 + 2 * wn) bn)) (hn : wn ≤ 2000000) (hn2 : bn ≤ 2000000) :
    Calls Try.prog 31 #[evv eph wa wn wc ba bn bc tg, .int .i64 1] w fun e w' => e = .returned (.int .i64 ((1 + 2 * wn : Nat) + (bn : Int))) ∧ Below w.heap.size w w' := by
  obtain ⟨K, hK⟩ : ∃ K, K = 1 + 2 * wn := ⟨_, rfl⟩
  have HK : Hid (1 + 2 * wn = K) := hK.symm
  have hKb : K ≤ 4000001 := by omega
  rw [← hK] at h2
  clear hK
  rw [HK.out]
  obtain ⟨wb, hwb⟩ : ∃ wb, wb = w.alloc (.cells #[.int .i64 eph, .slice wa wn wc, .slice ba bn bc, .int .u64 tg] 46) := ⟨_, rfl⟩
  have hbb : Below w.heap.size w wb := by rw [hwb]; exact (Below.refl _ _).alloc (Nat.le_refl _) _
  have X0 : BlkV wb w.heap.size (.int .i64 eph) (.slice wa wn wc) (.slice ba bn bc) (.int .u64 tg) := by rw [hwb]; exact heap_alloc_new w _
  obtain ⟨⟨p0, p1, p2, p3⟩, _⟩ := X0.cells
  have HW : Hid (_ = _) := hwb
  have H1 : Hid (RowWr wb wa wn (marksWr 1 wn)) := h1.kept hbb
  have H2 : Hid (Row wb ba bn (marks ((K : Nat) : Int).toNat bn)) := by rw [Int.toNat_natCast]; exact h2.kept hbb
  clear hwb X0 h1 h2
  have z1 : ¬ ((K : Int) < 0) := by omega
  have z2 : ¬ ((K : Int) + (bn : Int) < 0) := by omega
  rw [evv]
  go_enter Try.func31, Try.ntmps31
  go_upto_region 1 with fail
  rw [← HW.out]
  clear HW
  go_wp2_with fail
  refine (heldWrS_any wa wn wc 1 _ H1.out (by omega) (by decide)).mono ?_
  rintro e w2 ⟨rfl, hw⟩
  have hw2 := hw.symm
  subst hw2
  rw [HK.out]
  go_wp2_with fail
  refine (heldByteS_int ba bn bc (K : Int) _ H2.out (by omega) (by omega) (by omega)).mono ?_
  rintro e w3 ⟨rfl, hw⟩
  have hw2 := hw.symm
  subst hw2
  go_wp2
  go_ret
  exact ⟨rfl, hbb⟩

end Go.Proofs.Ytochaopoggempaa
