import Derived.Test.YtlcojjcgaibbiaaMC1b
set_option linter.unusedVariables false
namespace Go.Proofs.Ytlcojjcgaibbiaa
open Go.RowKit Go.Sort

set_option maxRecDepth 10000 in
set_option maxHeartbeats 4000000 in
theorem l17SignersOk_in (D : Nat) (a : Option Addr) (n c : Nat) (xs : List ItT) (w : World) (h : KidsT D w a n xs) :
    Calls Try.prog 32 #[.slice a n c, .bool true] w (SaysG (okS 1 xs) w) := by
  obtain ⟨D, rfl⟩ : ∃ D', D = D' + 1 := by
    cases D with
    | zero => exact h.elim
    | succ D => exact ⟨D, rfl⟩
  have H0 : Hid (KidsT (D + 1) w a n xs) := h
  have hn := h.2.1
  have HS : Hid (okS 1 xs ↔ n ≤ 6 ∧ AllEl 0 xs n) := okS_succ 0 xs n h.1
  clear h
  by_cases h6 : n ≤ 6
  case neg =>
    have q6 : (6 : Int) < (n : Int) := by omega
    have HN : Hid (¬ okS 1 xs) := fun h => h6 (HS.out.1 h).1
    go_enter Try.func32, Try.ntmps32
    go_wp2
    go_ret
    exact saysG_f HN.out (Below.refl _ _)
  have q6 : ¬ (6 : Int) < (n : Int) := by omega
  go_enter Try.func32, Try.ntmps32
  go_wp2
  clear q6
  go_loopw [5] (fun i wr => ∃ k : Nat, k ≤ n ∧ i = .int .i64 k ∧ Hid (AllEl 0 xs k) ∧ Below w.heap.size w wr) (fun i _ => n - (intOf i).toNat)
  case atStart => exact ⟨0, Nat.zero_le _, rfl, fun k hk => absurd hk (Nat.not_lt_zero _), Below.refl _ _⟩
  case round =>
    obtain ⟨k, hk, rfl, HE, hbr⟩ := hrel
    have hws := hbr.size
    by_cases hlt : k < n
    · obtain ⟨b, off, rfl, hlb, ab, nb, cb, ak, nk, ck, c0, c1, c2, c3, hr, hnil, hnb, hu, hkk⟩ := H0.out.2.2 k hlt
      obtain ⟨y, hy⟩ : ∃ y, y = xs.getD k default := ⟨_, rfl⟩
      rw [← hy] at c0 c1 hr hkk
      have HY : Hid (y = xs.getD k default) := hy
      have cc : ∀ j, wr.cell? ⟨b, j, none⟩ = w.cell? ⟨b, j, none⟩ := fun j => hbr.cell (p := ⟨b, j, none⟩) hlb
      rw [← cc] at c0 c1 c2 c3
      have hkni : (k : Int) < (n : Int) := by omega
      have hbw : b < wr.heap.size := by omega
      have HLN : Hid (y.sg.length = nb) := hr.len
      have HKK : Hid (KidsT D wr ak nk y.over) := hkk.kept hbr
      have HON : Hid (y.over.length = nk) := hkk.len.1
      have hnk := hkk.len.2
      obtain ⟨wy, hwy⟩ : ∃ wy, wy = wr.alloc (.cells #[.int .u64 y.ky, .int .i64 y.at2, .slice ab nb cb, .slice ak nk ck] 59) := ⟨_, rfl⟩
      have hby : Below wr.heap.size wr wy := by rw [hwy]; exact (Below.refl _ _).alloc (Nat.le_refl _) _
      have hblk : wy.heap[wr.heap.size]? = some (.cells #[.int .u64 y.ky, .int .i64 y.at2, .slice ab nb cb, .slice ak nk ck] 59 (0, 0)) := by rw [hwy]; exact heap_alloc_new _ _
      have HYB : Hid (_) := hblk
      have hBy : Below w.heap.size w wy := hbr.trans (hby.mono hws)
      have HBAD : Hid (¬ elP 0 y → ¬ okS 1 xs) := fun h1 h2 => h1 (by rw [HY.out]; exact (HS.out.1 h2).2 k hlt)
      have HNX : Hid (elP 0 y → AllEl 0 xs (k + 1)) := fun hp j hj => by
        by_cases e : j < k
        · exact HE.out j e
        · obtain rfl : j = k := by omega
          rw [← HY.out]; exact hp
      have HW : Hid (_ = _) := hwy
      clear cc hy hr hkk hwy hblk hu
      go_upto_region 7 with fail
      rw [← HW.out]
      clear HW c0 c1 c2 c3
      obtain ⟨c0, c1, c2, c3⟩ := cells4g HYB.out
      go_wp2_with fail
      refine (l10Tim_any y.at2 _).mono ?_
      rintro e w2 ⟨rfl, hw2⟩
      have hw2 := hw2.symm
      subst hw2
      by_cases h1 : timP y.at2
      case neg =>
        rw [decide_eq_false h1]
        have HP : Hid (¬ okS 1 xs) := HBAD.out (fun h => h1 h.1)
        clear h1
        go_wp2
        go_ret
        exact saysG_f HP.out hBy
      rw [decide_eq_true h1]
      have H1 : Hid (timP y.at2) := h1
      clear h1
      by_cases h2 : nb ≤ 500
      case neg =>
        have q2 : (500 : Int) < (nb : Int) := by omega
        have HP : Hid (¬ okS 1 xs) := HBAD.out (fun h => h2 (by have := h.2.1; rw [HLN.out] at this; exact this))
        go_wp2
        go_ret
        exact saysG_f HP.out hBy
      have q2 : ¬ (500 : Int) < (nb : Int) := by omega
      by_cases h3 : nk = 0
      case neg =>
        have q3 : (0 : Int) < (nk : Int) := by omega
        have HP : Hid (¬ okS 1 xs) := HBAD.out (fun h => h3 (HON.out.symm.trans h.2.2))
        go_wp2
        go_ret
        exact saysG_f HP.out hBy
      have q3 : ¬ (0 : Int) < (nk : Int) := by omega
      have HP : Hid (elP 0 y) := ⟨H1.out, by rw [HLN.out]; exact h2, by show y.over.length = 0; rw [HON.out]; exact h3⟩
      clear h3
      go_wp2
      go_roundw
      case rel => exact ⟨k + 1, by omega, by go_num, HNX.out HP.out, hBy⟩
      case measure => simp [intOf]; omega
    · obtain rfl : k = n := by omega
      have HP : Hid (okS 1 xs) := HS.out.2 ⟨h6, HE.out⟩
      go_wp2
      go_ret
      exact saysG_t HP.out hbr

set_option maxRecDepth 10000 in
set_option maxHeartbeats 4000000 in
theorem l17SignersOk_out (D : Nat) (a : Option Addr) (n c : Nat) (xs : List ItT) (w : World) (h : KidsT D w a n xs) :
    Calls Try.prog 32 #[.slice a n c, .bool false] w (SaysG (okS 2 xs) w) := by
  obtain ⟨D, rfl⟩ : ∃ D', D = D' + 1 := by
    cases D with
    | zero => exact h.elim
    | succ D => exact ⟨D, rfl⟩
  have H0 : Hid (KidsT (D + 1) w a n xs) := h
  have hn := h.2.1
  have HS : Hid (okS 2 xs ↔ n ≤ 6 ∧ AllEl 1 xs n) := okS_succ 1 xs n h.1
  clear h
  by_cases h6 : n ≤ 6
  case neg =>
    have q6 : (6 : Int) < (n : Int) := by omega
    have HN : Hid (¬ okS 2 xs) := fun h => h6 (HS.out.1 h).1
    go_enter Try.func32, Try.ntmps32
    go_wp2
    go_ret
    exact saysG_f HN.out (Below.refl _ _)
  have q6 : ¬ (6 : Int) < (n : Int) := by omega
  go_enter Try.func32, Try.ntmps32
  go_wp2
  clear q6
  go_loopw [5] (fun i wr => ∃ k : Nat, k ≤ n ∧ i = .int .i64 k ∧ Hid (AllEl 1 xs k) ∧ Below w.heap.size w wr) (fun i _ => n - (intOf i).toNat)
  case atStart => exact ⟨0, Nat.zero_le _, rfl, fun k hk => absurd hk (Nat.not_lt_zero _), Below.refl _ _⟩
  case round =>
    obtain ⟨k, hk, rfl, HE, hbr⟩ := hrel
    have hws := hbr.size
    by_cases hlt : k < n
    · obtain ⟨b, off, rfl, hlb, ab, nb, cb, ak, nk, ck, c0, c1, c2, c3, hr, hnil, hnb, hu, hkk⟩ := H0.out.2.2 k hlt
      obtain ⟨y, hy⟩ : ∃ y, y = xs.getD k default := ⟨_, rfl⟩
      rw [← hy] at c0 c1 hr hkk
      have HY : Hid (y = xs.getD k default) := hy
      have cc : ∀ j, wr.cell? ⟨b, j, none⟩ = w.cell? ⟨b, j, none⟩ := fun j => hbr.cell (p := ⟨b, j, none⟩) hlb
      rw [← cc] at c0 c1 c2 c3
      have hkni : (k : Int) < (n : Int) := by omega
      have hbw : b < wr.heap.size := by omega
      have HLN : Hid (y.sg.length = nb) := hr.len
      have HKK : Hid (KidsT D wr ak nk y.over) := hkk.kept hbr
      have HON : Hid (y.over.length = nk) := hkk.len.1
      have hnk := hkk.len.2
      obtain ⟨wy, hwy⟩ : ∃ wy, wy = wr.alloc (.cells #[.int .u64 y.ky, .int .i64 y.at2, .slice ab nb cb, .slice ak nk ck] 59) := ⟨_, rfl⟩
      have hby : Below wr.heap.size wr wy := by rw [hwy]; exact (Below.refl _ _).alloc (Nat.le_refl _) _
      have hblk : wy.heap[wr.heap.size]? = some (.cells #[.int .u64 y.ky, .int .i64 y.at2, .slice ab nb cb, .slice ak nk ck] 59 (0, 0)) := by rw [hwy]; exact heap_alloc_new _ _
      have HYB : Hid (_) := hblk
      have hBy : Below w.heap.size w wy := hbr.trans (hby.mono hws)
      have HBAD : Hid (¬ elP 1 y → ¬ okS 2 xs) := fun h1 h2 => h1 (by rw [HY.out]; exact (HS.out.1 h2).2 k hlt)
      have HNX : Hid (elP 1 y → AllEl 1 xs (k + 1)) := fun hp j hj => by
        by_cases e : j < k
        · exact HE.out j e
        · obtain rfl : j = k := by omega
          rw [← HY.out]; exact hp
      have HW : Hid (_ = _) := hwy
      clear cc hy hr hkk hwy hblk hu
      go_upto_region 7 with fail
      rw [← HW.out]
      clear HW c0 c1 c2 c3
      obtain ⟨c0, c1, c2, c3⟩ := cells4g HYB.out
      go_wp2_with fail
      refine (l10Tim_any y.at2 _).mono ?_
      rintro e w2 ⟨rfl, hw2⟩
      have hw2 := hw2.symm
      subst hw2
      by_cases h1 : timP y.at2
      case neg =>
        rw [decide_eq_false h1]
        have HP : Hid (¬ okS 2 xs) := HBAD.out (fun h => h1 h.1)
        clear h1
        go_wp2
        go_ret
        exact saysG_f HP.out hBy
      rw [decide_eq_true h1]
      have H1 : Hid (timP y.at2) := h1
      clear h1
      by_cases h2 : nb ≤ 500
      case neg =>
        have q2 : (500 : Int) < (nb : Int) := by omega
        have HP : Hid (¬ okS 2 xs) := HBAD.out (fun h => h2 (by have := h.2.1; rw [HLN.out] at this; exact this))
        go_wp2
        go_ret
        exact saysG_f HP.out hBy
      have q2 : ¬ (500 : Int) < (nb : Int) := by omega
      go_wp2_with fail
      refine (l17SignersOk_in D ak nk ck y.over _ (HKK.out.kept hby)).mono ?_
      rintro e w3 ⟨bb, rfl, HB, hb3⟩
      have hB3 : Below w.heap.size w w3 := hBy.trans (hb3.mono hBy.size)
      clear c0 c1 c2 c3
      cases bb with
      | false =>
        have HP : Hid (¬ okS 2 xs) := HBAD.out (fun h => by have := HB.out.2 h.2.2; cases this)
        go_wp2
        go_ret
        exact saysG_f HP.out hB3
      | true =>
        have HP : Hid (elP 1 y) := ⟨H1.out, by rw [HLN.out]; exact h2, HB.out.1 rfl⟩
        go_wp2
        go_roundw
        case rel => exact ⟨k + 1, by omega, by go_num, HNX.out HP.out, hB3⟩
        case measure => simp [intOf]; omega
    · obtain rfl : k = n := by omega
      have HP : Hid (okS 2 xs) := HS.out.2 ⟨h6, HE.out⟩
      go_wp2
      go_ret
      exact saysG_t HP.out hbr

set_option maxRecDepth 10000 in
set_option maxHeartbeats 2000000 in
theorem l17Ok_any (D : Nat) (am : Option Addr) (nn cm : Nat) (a : Option Addr) (n c : Nat) (xs : List ItT) (w : World) (hnn : nn ≤ 9223372036854775807) (hk : KidsT D w a n xs) :
    Calls Try.prog 15 #[.agg #[.slice am nn cm, .slice a n c]] w (SaysG (msgP nn xs) w) := by
  obtain ⟨wb, hwb⟩ : ∃ wb, wb = w.alloc (.cells #[.slice am nn cm, .slice a n c] 31) := ⟨_, rfl⟩
  have hbb : Below w.heap.size w wb := by rw [hwb]; exact (Below.refl _ _).alloc (Nat.le_refl _) _
  have hblk : wb.heap[w.heap.size]? = some (.cells #[.slice am nn cm, .slice a n c] 31 (0, 0)) := by rw [hwb]; exact heap_alloc_new w _
  obtain ⟨c0, c1⟩ := cells2m hblk
  have HK : Hid (KidsT D wb a n xs) := hk.kept hbb
  have HW : Hid (_ = _) := hwb
  clear hwb hblk hk
  go_enter Try.func15, Try.ntmps15
  go_upto_region 1 with fail
  rw [← HW.out]
  clear HW
  by_cases h1 : nn ≤ 4000
  case neg =>
    have q1 : ¬ (nn : Int) ≤ 4000 := by omega
    have HN : Hid (¬ msgP nn xs) := fun h => h1 h.1
    go_wp2
    go_ret
    exact saysG_f HN.out hbb
  have q1 : (nn : Int) ≤ 4000 := by omega
  go_wp2_with fail
  refine (l17SignersOk_out D a n c xs _ HK.out).mono ?_
  rintro e w3 ⟨b, rfl, HB, hb3⟩
  have hB := keepT hbb hb3
  clear c0 c1
  cases b with
  | true =>
    have HP : Hid (msgP nn xs) := ⟨h1, HB.out.1 rfl⟩
    go_wp2
    go_ret
    exact saysG_t HP.out hB
  | false =>
    have HP : Hid (¬ msgP nn xs) := fun h => by have := HB.out.2 h.2; cases this
    go_wp2
    go_ret
    exact saysG_f HP.out hB

end Go.Proofs.Ytlcojjcgaibbiaa
