import Derived.Test.YtdkgilkjcndonaaPP3
import Derived.Test.YtdkgilkjcndonaaPL9f
import Derived.Test.YtdkgilkjcndonaaShelf
import Derived.Sort.OwnSortedInts
namespace Go.Proofs.Ytdkgilkjcndonaa
open Go.RowKit Go.Maps

/-- slices.Sort of a list of our own. -/
theorem sort_any (B : Nat) (a : Option Addr) (n c : Nat) (zs : List Int) (w : World) (h : OwnL B w a n c zs) (hn : n ≤ 1000000) :
    Calls Try.prog 67 #[.slice a n c] w fun e w' => e = .returned (.tuple #[]) ∧ OwnL B w' a n c (zs.mergeSort fun x y => decide (x ≤ y)) ∧ w.grownBy w' (Value.slice a n c).ownBlock := by
  have hl := h.len
  rcases h.row.2 with ⟨hv, h0⟩ | ⟨g, cap, cur, hv, hb, hg, h1, h2, h3, h4⟩
  · subst h0
    have ez : zs = [] := List.eq_nil_of_length_eq_zero hl
    subst ez
    refine (Try.slices_Sort_int64_none a c w).mono ?_
    rintro e w' ⟨rfl, rfl⟩
    exact ⟨rfl, by simpa using h, ⟨rfl, rfl, rfl, Nat.le_refl _, fun _ _ _ => rfl⟩⟩
  · simp only [Value.slice.injEq, true_and] at hv
    obtain ⟨rfl, rfl⟩ := hv
    have hH := holds_of_blockI (ss := zs) hg (by rw [hl]; simpa using h4)
    have hs := Try.slices_Sort_int64 g 0 c zs w hH (Array.getElem?_eq_some_iff.1 hg).1 (by omega)
    rw [hl] at hs
    refine hs.mono ?_
    rintro e w' ⟨rfl, m, os, rfl⟩
    refine ⟨rfl, ⟨?_⟩, grownBy_sortedI _⟩
    have := ownsRow_sortedI (base := B) (cap := c) (n := m) (os := os) (ss := zs) (ts := zs.mergeSort fun x y => decide (x ≤ y)) (by simp [List.length_mergeSort]) hb hg (by omega) h2 h3
    rw [hl] at this
    exact this

set_option maxRecDepth 10000 in
set_option maxHeartbeats 2000000 in
theorem namedNowhere_any (bt n : Nat) (N : List Int) (w : World) (h : TimesAt w bt n N) (hN : N.length ≤ 164) :
    Calls Try.prog 66 #[.map (some bt)] w fun e w' => e = .returned (.int .i64 (oth N)) ∧ w' = w := by
  obtain ⟨D, hD, hTm⟩ := h.own
  have HD : Hid (w.ownsMap Try.prog 2 (plainElem Try.prog 2) bt n D) := hD
  have HTM : Hid (TmOk D N) := hTm
  have HN164 : Hid (N.length ≤ 164) := hN
  have hbt := hD.lt
  clear h hD hTm hN
  go_enter Try.func66, Try.ntmps66
  go_wp2
  go_loopw [3] (fun o wr => ∃ m : Nat, 1 ≤ m ∧ m ≤ 165 ∧ o = .int .i64 (m : Int) ∧ w = wr ∧ Hid (othF N (1001 - m) (m : Int) = oth N) ∧ Hid (∀ p : Int, 1 ≤ p → p < m → p ∈ N)) (fun o _ => 1000 - (intOf o).toNat)
  case atStart => exact ⟨1, Nat.le_refl _, by decide, rfl, rfl, rfl, fun p h1 h2 => by omega⟩
  case round =>
    obtain ⟨m, hm1, hm2, rfl, rfl, HOT, HAL1⟩ := hrel
    have HWF : Hid ((Lit.int .i64 (m : Int)).wf = true) := wf_small (by omega) (by omega)
    have HKEY : Hid (Go.keyOf Try.prog 2 (.int .i64 (m : Int)) = some (.int .i64 (m : Int))) := keyOf_int_mk Try.underlying2 HWF.out
    obtain ⟨cv, hcv⟩ : ∃ cv : Int, cv = ((N.count (m : Int) : Nat) : Int) := ⟨_, rfl⟩
    have HAT : Hid (D.atKey (.int .i64 (m : Int)) (.lit (.int .i64 0)) = .lit (.int .i64 cv)) := by show _ = _; rw [(HTM.out _ HWF.out).1, hcv]
    by_cases hin : (m : Int) ∈ N
    · have hpos : 0 < cv := by rw [hcv]; have := List.count_pos_iff.2 hin; omega
      have HALN : Hid (∀ p : Int, 1 ≤ p → p < ((m + 1 : Nat) : Int) → p ∈ N) := fun p h1 h2 => by
        by_cases e : p < (m : Int)
        · exact HAL1.out p h1 e
        · obtain rfl : p = (m : Int) := by omega
          exact hin
      have hm3 : m + 1 ≤ 165 := by
        have := run_len m N (fun p h1 h2 => HALN.out p h1 (by omega))
        have := HN164.out
        omega
      have HON : Hid (othF N (1001 - (m + 1)) ((m + 1 : Nat) : Int) = oth N) := by
        show _ = _
        rw [← HOT.out, show 1001 - m = (1001 - (m + 1)) + 1 by omega, othF, if_pos hin]
        rfl
      clear HOT HAL1 hin hcv
      go_wp2_with (at_lookup; refine wpList_lookup_own_int _ rfl _ _ 94 rfl 2 2 .i64 k2Law Try.underlying94 Try.underlying2 (zero2 _) bt n D rfl HD.out _ _ rfl HKEY.out ?_; intro cx hat hwc; obtain rfl : cx = cv := (by rw [HAT.out] at hat; simpa using hat.symm); clear hat hwc)
      go_roundw
      case rel => exact ⟨m + 1, by omega, hm3, by go_num, by simp, HON, HALN⟩
      case measure => simp [intOf]; omega
    · have hpos : ¬ (0 < cv) := by rw [hcv, List.count_eq_zero.2 hin]; decide
      have HOM : Hid (oth N = (m : Int)) := by
        show _ = _
        rw [← HOT.out, show 1001 - m = (1001 - (m + 1)) + 1 by omega, othF, if_neg hin]
      clear HOT HAL1 hin hcv
      go_wp2_with (at_lookup; refine wpList_lookup_own_int _ rfl _ _ 94 rfl 2 2 .i64 k2Law Try.underlying94 Try.underlying2 (zero2 _) bt n D rfl HD.out _ _ rfl HKEY.out ?_; intro cx hat hwc; obtain rfl : cx = cv := (by rw [HAT.out] at hat; simpa using hat.symm); clear hat hwc)
      go_ret
      exact ⟨by rw [HOM.out]; rfl, rfl⟩

set_option maxRecDepth 10000 in
set_option maxHeartbeats 1000000 in
theorem needsOne_any (ap : Option Addr) (np cp : Nat) (ac : Option Addr) (cc bm : Nat) (T : Nat → Int × Int × Int) (w : World) (h : Ctrs w ac (np + 1) T) :
    Calls Try.prog 40 #[walkV ap np cp ac (np + 1) cc bm] w fun e w' => e = .returned (.bool (decide ((T np).1 = 0))) ∧ Below w.heap.size w w' := by
  unfold walkV
  obtain ⟨b, off, rfl, hlb, h0, h1, h2⟩ := h.get np (Nat.lt_succ_self _)
  obtain ⟨t, ht⟩ : ∃ t, t = (T np).1 := ⟨_, rfl⟩
  rw [← ht] at h0 ⊢
  clear ht h1 h2 h
  have hii : (np : Int) < (np : Int) + 1 := by omega
  have hdt : (t == 0) = decide (t = 0) := by by_cases e : t = 0 <;> simp [e]
  have hbl : Below w.heap.size w (w.alloc (.cells #[.slice ap np cp, .slice (some ⟨b, off, none⟩) (np + 1) cc, .map (some bm)] 61)) := (Below.refl _ _).alloc (Nat.le_refl _) _
  go_enter Try.func40, Try.ntmps40
  go_wp2
  go_ret
  exact ⟨by first | rfl | rw [hdt], hbl⟩

set_option maxRecDepth 10000 in
set_option maxHeartbeats 1000000 in
theorem askedOk_any (a : Option Addr) (n c : Nat) (q : List Int) (w : World) (h : Row64 w a n q) (hn : n ≤ 9223372036854775807) :
    Calls Try.prog 38 #[.slice a n c] w (SaysP (askP q) w) := by
  have H0 : Hid (Row64 w a n q) := h
  have HL : Hid (q.length = n) := h.len
  clear h
  by_cases hb : 1 ≤ (n : Int) ∧ (n : Int) ≤ 20
  · go_enter Try.func38, Try.ntmps38
    go_wp2_with fail
    refine (inBounds_t _ 1 20 _ hb).mono ?_
    rintro e w1 ⟨rfl, hw1⟩; have hw2 := hw1.symm; subst hw2
    go_wp2_with fail
    refine (everyPol_any a n c q _ H0.out hn).mono ?_
    rintro e w1 ⟨b, rfl, HB, hb1⟩
    have FIN : Hid (b = true ↔ askP q) := ⟨fun e => ⟨by rw [HL.out]; omega, HB.out.1 e⟩, fun e => HB.out.2 e.2⟩
    clear HB
    go_wp2
    go_ret
    exact ⟨_, rfl, FIN, hb1⟩
  · have HN : Hid (¬ askP q) := fun e => hb (by have := e.1; rw [HL.out] at this; omega)
    go_enter Try.func38, Try.ntmps38
    go_wp2_with fail
    refine (inBounds_f _ 1 20 _ hb).mono ?_
    rintro e w1 ⟨rfl, hw1⟩; have hw2 := hw1.symm; subst hw2
    go_wp2
    go_ret
    exact saysP_f HN.out (Below.refl _ _)

end Go.Proofs.Ytdkgilkjcndonaa
