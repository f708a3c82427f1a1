import Derived.Test.YtphhelhhploacaaWRd
namespace Go.Proofs.Ytphhelhhploacaa
open Go.RowKit

set_option maxRecDepth 10000 in
set_option maxHeartbeats 400000 in
theorem once_any (g : Nat) (a : Option Addr) (n cap : Nat) (bs : List Int) (m : Int) (w : World) (h : Rd w g a n cap bs) (h0 : 0 ≤ m) (hm : m ≤ 100000) :
    Calls Try.prog 46 #[.pointer (some ⟨g, 0, none⟩), .int .i64 m] w fun e w' => ∃ v : Int, e = .returned (.bool (v == m - 1)) ∧ RdPost w g a n cap bs w' := by
  have H : Hid (Rd w g a n cap bs) := h
  clear h
  go_enter Try.func46, Try.ntmps46
  go_wp2_with fail
  refine (below_any g a n cap bs m _ H.out hm).mono ?_
  rintro e w1 ⟨v, rfl, hv0, hv1, hp⟩
  go_wp2
  go_ret
  exact ⟨v, rfl, hp⟩

def mods : List Int := [0, 1, 2, 7, 97, 1000000007, 500000003, 2147483648, 2147483649, 12]
theorem mods_range (k : Nat) : 0 ≤ mods.getD k 0 ∧ mods.getD k 0 ≤ 2147483649 := by
  match k with
  | 0 | 1 | 2 | 3 | 4 | 5 | 6 | 7 | 8 | 9 => decide
  | k + 10 => simp [mods]
theorem mods_cell (w : World) (k : Nat) (h : k < 10) : (w.alloc (.cells #[.int .i64 0, .int .i64 1, .int .i64 2, .int .i64 7, .int .i64 97, .int .i64 1000000007, .int .i64 500000003, .int .i64 2147483648, .int .i64 2147483649, .int .i64 12] 2)).cell? ⟨w.heap.size, k, none⟩ = some (.int .i64 (mods.getD k 0)) := by
  rw [cell_of_row _ w.heap.size k _ 2 (0, 0) (heap_alloc_new w _)]
  have hc : k = 0 ∨ k = 1 ∨ k = 2 ∨ k = 3 ∨ k = 4 ∨ k = 5 ∨ k = 6 ∨ k = 7 ∨ k = 8 ∨ k = 9 := by omega
  rcases hc with rfl | rfl | rfl | rfl | rfl | rfl | rfl | rfl | rfl | rfl <;> rfl
theorem two_cell (w : World) (m : Int) (k : Nat) (h : k < 2) : (w.alloc (.cells #[.int .i64 (-1), .int .i64 m] 2)).cell? ⟨w.heap.size, k, none⟩ = some (.int .i64 (if k = 0 then -1 else m)) := by
  rw [cell_of_row _ w.heap.size k _ 2 (0, 0) (heap_alloc_new w _)]
  have hc : k = 0 ∨ k = 1 := by omega
  rcases hc with rfl | rfl <;> rfl

theorem max1 (m : Int) (h : 0 ≤ m) : 1 ≤ max m 1 ∧ max m 1 ≤ m + 1 := by omega
theorem tmod_rg (x m : Int) (hx : 0 ≤ x) (h : 1 ≤ m) : 0 ≤ x.tmod m ∧ x.tmod m < m := by
  rw [Int.tmod_eq_emod_of_nonneg hx]
  exact ⟨Int.emod_nonneg _ (by omega), Int.emod_lt_of_pos _ (by omega)⟩

/-- What is drawn for a power. -/
def DrawnP (b e m : Int) : Prop := -9223372036854775808 ≤ e ∧ e ≤ 9223372036854775807 ∧ 0 ≤ m ∧ m ≤ 2147483649 ∧ -1 ≤ b ∧ b ≤ 2147483649

set_option maxRecDepth 10000 in
set_option maxHeartbeats 1000000 in
theorem drawPowMod_any (a : Option Addr) (n cap : Nat) (bs : List Int) (w : World) (h : Row w a n bs) (hn : n ≤ 1000000000) :
    Calls Try.prog 10 #[.slice a n cap] w fun r w' => ∃ b e m : Int, r = .returned (.tuple #[.int .i64 b, .int .i64 e, .int .i64 m]) ∧ DrawnP b e m ∧ Below w.heap.size w w' := by
  have H : Hid (Row w a n bs) := h
  clear h
  go_enter Try.func10, Try.ntmps10
  go_wp2_with fail
  refine (open_any a n cap bs _ H.out hn).mono ?_
  rintro e w1 ⟨rfl, hr, hb⟩
  obtain ⟨g, hg⟩ : ∃ g, g = w.heap.size := ⟨_, rfl⟩
  have HB : Hid (Below w.heap.size w w1) := hb
  have HP1 : RdPost w1 w.heap.size a n cap bs w1 := ⟨hr, Touch.same _ _ _⟩
  clear hr hb
  go_wp2_with fail
  refine (below_any _ a n cap bs 10 _ (HP1.alloc _).1 (by decide)).mono ?_
  rintro e w2 ⟨v, rfl, hv0, hv1, hp2⟩
  obtain ⟨k, rfl⟩ := Int.eq_ofNat_of_zero_le hv0
  have hk : k < 10 := by omega
  have hki : (k : Int) < 10 := by omega
  have hgl : w.heap.size < w1.heap.size := HP1.1.lt
  have hcell : w2.cell? ⟨w1.heap.size, k, none⟩ = some (.int .i64 (mods.getD k 0)) :=
    (World.cell?_of_block (a := ⟨w1.heap.size, k, none⟩) (hp2.2.block w1.heap.size (by simp) (.inr (by omega)))).trans (mods_cell w1 k hk)
  obtain ⟨m, hm⟩ : ∃ m, m = mods.getD k 0 := ⟨_, rfl⟩
  have hmr := mods_range k
  rw [← hm] at hcell hmr
  obtain ⟨hm0, hm1⟩ := hmr
  clear hm
  have HP2 := (HP1.alloc _).step hp2
  go_wp2_with fail
  refine (word_any _ a n cap bs _ HP2.1).mono ?_
  rintro e w3 ⟨v, rfl, hv0, hv1, hp3⟩
  have HP3 := HP2.step hp3
  have hvd0 : 0 ≤ v / 2 := by omega
  have hvd1 : v / 2 ≤ 9223372036854775807 := by omega
  by_cases hmm : m < 1
  · have hmm' : ¬ 1 ≤ m := by omega
    go_wp2_with fail
    refine (once_any _ a n cap bs 10 _ HP3.1 (by decide) (by decide)).mono ?_
    rintro e w4 ⟨o, rfl, hp4⟩
    have HP4 := HP3.step hp4
    by_cases ho : o = 9
    · have ho' : (o == 10 - 1) = true := by simp [ho]
      clear ho
      go_wp2_with fail
      refine (below_any _ a n cap bs 2 _ (HP4.alloc _).1 (by decide)).mono ?_
      rintro e w5 ⟨j, rfl, hj0, hj1, hp5⟩
      obtain ⟨j, rfl⟩ := Int.eq_ofNat_of_zero_le hj0
      have hj : j < 2 := by omega
      have hji : (j : Int) < 2 := by omega
      have hgl4 : w.heap.size < w4.heap.size := HP4.1.lt
      have hcell5 : w5.cell? ⟨w4.heap.size, j, none⟩ = some (.int .i64 (if j = 0 then -1 else m)) :=
        (World.cell?_of_block (a := ⟨w4.heap.size, j, none⟩) (hp5.2.block w4.heap.size (by simp) (.inr (by omega)))).trans (two_cell w4 m j hj)
      obtain ⟨bb, hbb⟩ : ∃ bb, bb = (if j = 0 then -1 else m) := ⟨_, rfl⟩
      have hbr : -1 ≤ bb ∧ bb ≤ 2147483649 := by rw [hbb]; split <;> omega
      rw [← hbb] at hcell5
      clear hbb
      have HP5 := (HP4.alloc _).step hp5
      go_wp2_with fail
      refine (number_any _ a n cap bs _ HP5.1).mono ?_
      rintro e w6 ⟨x, rfl, hx0, hx1, hp6⟩
      have HP6 := HP5.step hp6
      go_wp2
      go_ret3
      exact ⟨bb, x, m, rfl, ⟨hx0, hx1, hm0, hm1, hbr.1, hbr.2⟩, HP6.below HB.out⟩
    · have ho' : (o == 10 - 1) = false := by simp; omega
      clear ho
      go_wp2_with fail
      refine (number_any _ a n cap bs _ HP4.1).mono ?_
      rintro e w6 ⟨x, rfl, hx0, hx1, hp6⟩
      have HP6 := HP4.step hp6
      go_wp2
      go_ret3
      exact ⟨_, x, m, rfl, ⟨hx0, hx1, hm0, hm1, by omega, by omega⟩, HP6.below HB.out⟩
  · have hmm' : 1 ≤ m := by omega
    have hq := tmod_rg (v / 2) m hvd0 hmm'
    have hqq := Int.tmod_eq_emod_of_nonneg (b := m) hvd0
    rw [hqq] at hq
    clear hqq
    obtain ⟨hq0, hq1⟩ := hq
    go_wp2_with fail
    refine (once_any _ a n cap bs 10 _ HP3.1 (by decide) (by decide)).mono ?_
    rintro e w4 ⟨o, rfl, hp4⟩
    have HP4 := HP3.step hp4
    by_cases ho : o = 9
    · have ho' : (o == 10 - 1) = true := by simp [ho]
      clear ho
      go_wp2_with fail
      refine (below_any _ a n cap bs 2 _ (HP4.alloc _).1 (by decide)).mono ?_
      rintro e w5 ⟨j, rfl, hj0, hj1, hp5⟩
      obtain ⟨j, rfl⟩ := Int.eq_ofNat_of_zero_le hj0
      have hj : j < 2 := by omega
      have hji : (j : Int) < 2 := by omega
      have hgl4 : w.heap.size < w4.heap.size := HP4.1.lt
      have hcell5 : w5.cell? ⟨w4.heap.size, j, none⟩ = some (.int .i64 (if j = 0 then -1 else m)) :=
        (World.cell?_of_block (a := ⟨w4.heap.size, j, none⟩) (hp5.2.block w4.heap.size (by simp) (.inr (by omega)))).trans (two_cell w4 m j hj)
      obtain ⟨bb, hbb⟩ : ∃ bb, bb = (if j = 0 then -1 else m) := ⟨_, rfl⟩
      have hbr : -1 ≤ bb ∧ bb ≤ 2147483649 := by rw [hbb]; split <;> omega
      rw [← hbb] at hcell5
      clear hbb
      have HP5 := (HP4.alloc _).step hp5
      go_wp2_with fail
      refine (number_any _ a n cap bs _ HP5.1).mono ?_
      rintro e w6 ⟨x, rfl, hx0, hx1, hp6⟩
      have HP6 := HP5.step hp6
      go_wp2
      go_ret3
      exact ⟨bb, x, m, rfl, ⟨hx0, hx1, hm0, hm1, hbr.1, hbr.2⟩, HP6.below HB.out⟩
    · have ho' : (o == 10 - 1) = false := by simp; omega
      clear ho
      go_wp2_with fail
      refine (number_any _ a n cap bs _ HP4.1).mono ?_
      rintro e w6 ⟨x, rfl, hx0, hx1, hp6⟩
      have HP6 := HP4.step hp6
      go_wp2
      go_ret3
      exact ⟨_, x, m, rfl, ⟨hx0, hx1, hm0, hm1, by omega, by omega⟩, HP6.below HB.out⟩

set_option maxRecDepth 10000 in
set_option maxHeartbeats 400000 in
theorem drawInverse_any (a : Option Addr) (n cap : Nat) (bs : List Int) (w : World) (h : Row w a n bs) (hn : n ≤ 1000000000) :
    Calls Try.prog 13 #[.slice a n cap] w fun r w' => ∃ b m : Int, r = .returned (.tuple #[.int .i64 b, .int .i64 m]) ∧ DrawnP b 0 m ∧ Below w.heap.size w w' := by
  have H : Hid (Row w a n bs) := h
  clear h
  go_enter Try.func13, Try.ntmps13
  go_wp2_with fail
  refine (drawPowMod_any a n cap bs _ H.out hn).mono ?_
  rintro r w1 ⟨b, e, m, rfl, hd, hb⟩
  have HD : Hid (DrawnP b e m) := hd
  clear hd
  go_wp2
  go_ret2
  obtain ⟨h1, h2, h3⟩ := HD.out
  exact ⟨b, m, rfl, ⟨by omega, by omega, h3⟩, hb⟩

set_option maxRecDepth 10000 in
set_option maxHeartbeats 400000 in
theorem big_any (a : Option Addr) (n cap : Nat) (w : World) (hn : n ≤ 9223372036854775807) :
    Calls Try.prog 9 #[.slice a n cap] w fun r w' => r = .returned (.bool (decide (1048576 < n))) ∧ w' = w := by
  have e : decide (1048576 < n) = decide ((1048576 : Int) < (n : Int)) := by simp; omega
  rw [e]
  go_enter Try.func9, Try.ntmps9
  go_wp2
  go_ret
  exact ⟨rfl, rfl⟩

end Go.Proofs.Ytphhelhhploacaa
