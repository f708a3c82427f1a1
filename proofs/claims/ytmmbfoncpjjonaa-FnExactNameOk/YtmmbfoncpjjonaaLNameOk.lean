import Derived.Test.YtmmbfoncpjjonaaN5
namespace Go.Proofs.Ytmmbfoncpjjonaa
open Go.RowKit

set_option maxRecDepth 10000 in
set_option maxHeartbeats 4000000 in
theorem lawNameOk_walk (a : Option Addr) (n c : Nat) (xs : List PT) (w : World) (h : Pts w a n xs) :
    Calls Try.prog 4 #[nmv a n c] w fun e w' => e = .returned (.bool true) ∧ Below w.heap.size w w' := by
  have HK : Hid (Pts w a n xs) := h
  clear h
  have hbl : Below w.heap.size w (w.alloc (.cells #[.slice a n c] 26)) := (Below.refl _ _).alloc (Nat.le_refl _) _
  have hbx := boxN_new 26 w a n c
  unfold nmv
  go_enter Try.func4, Try.ntmps4
  go_wp2_with fail
  refine (szName_any a n c xs 1048576 _ (HK.out.kept hbl) (by decide) (by decide)).mono ?_
  rintro e w1 ⟨r, rfl, hr, hb1⟩
  have B1 : Below w.heap.size w w1 := hbl.trans (hb1.mono hbl.size)
  have HB1 : Hid (_) := hbx.kept hb1
  clear hb1 hbl hbx
  by_cases hneg : r < 0
  · clear hr
    go_wp2
    go_ret
    exact ⟨rfl, B1⟩
  · have hr0 : 0 ≤ r ∧ r ≤ 1048576 := by omega
    have hn : n ≤ 1048576 := by rcases hr with h | h; exact absurd h hneg; exact h.2.2.1
    have HZ : Hid (∀ k, k < n → (xs.getD k default).val.size ≤ 1048576) := by rcases hr with h | h; exact absurd h hneg; exact h.2.2.2
    clear hr
    have q0 := HB1.out.cell
    go_wp2_with fail
    refine (toName_any a n c xs _ (HK.out.kept B1) hn).mono ?_
    rintro e w2 ⟨a2, rfl, hs2, hb2⟩
    have B2 : Below w.heap.size w w2 := B1.trans (hb2.mono B1.size)
    have HB2 : Hid (_) := HB1.out.kept hb2
    have HS2 : Hid (_) := hs2
    clear q0 HB1 hs2 hb2
    unfold nmv
    go_wp2_with fail
    refine (specNameOk_any a2 n n xs _ HS2.out HZ.out).mono ?_
    rintro e w3 ⟨b1, rfl, hv1, hb3⟩
    have B3 : Below w.heap.size w w3 := B2.trans (hb3.mono B2.size)
    have HB3 : Hid (_) := HB2.out.kept hb3
    have q0 := HB3.out.cell
    clear HB2 HS2 hb3
    go_wp2_with fail
    refine (toName_any a n c xs _ (HK.out.kept B3) hn).mono ?_
    rintro e w4 ⟨a4, rfl, hs4, hb4⟩
    have B4 : Below w.heap.size w w4 := B3.trans (hb4.mono B3.size)
    have HB4 : Hid (_) := HB3.out.kept hb4
    have hal : Below w4.heap.size w4 (w4.alloc (.cells #[.slice a4 n n] 31)) := (Below.refl _ _).alloc (Nat.le_refl _) _
    have B5 : Below w.heap.size w (w4.alloc (.cells #[.slice a4 n n] 31)) := B4.alloc B4.size _
    have HX5 : Hid (_) := boxN_new 31 w4 a4 n n
    have HS5 : Hid (_) := hs4.kept hal
    have HB5 : Hid (_) := HB4.out.kept hal
    clear q0 HB3 HB4 hs4 hb4 hal
    unfold nmv
    go_wp2_with fail
    refine (implNameOk_any a4 n n xs _ HS5.out HZ.out).mono ?_
    rintro e w6 ⟨b2, rfl, hv2, hb6⟩
    have B6 : Below w.heap.size w w6 := B5.trans (hb6.mono B5.size)
    obtain rfl : b2 = b1 := says_one hv2 hv1
    have t1 : (b2 != b2) = false := by simp
    have HX6 : Hid (_) := HX5.out.kept hb6
    have p0 := HX6.out.cell
    have q0 := (HB5.out.kept hb6).cell
    have HS6 : Hid (_) := HS5.out.kept hb6
    clear HX5 HS5 HB5 hb6 hv1 hv2
    go_wp2_with fail
    have hsz6 := B6.size
    have Bd : Below w.heap.size w w6.drew := B6.drew
    have hdd : Below w6.heap.size w6 w6.drew := (Below.refl _ _).drew
    have TI : Hid (_) := toName_any a n c xs w6.drew (HK.out.kept Bd) hn
    have EQ : ∀ (a7 : Option Addr) (w7 : World), Below w6.drew.heap.size w6.drew w7 → Pts w7 a7 n xs → Hid (Calls Try.prog 13 #[nmv a4 n n, nmv a7 n n] w7 fun e w' => e = .returned (.bool true) ∧ Below w7.heap.size w7 w') := fun a7 w7 h7 r7 =>
      eqName_same a4 a7 n n n xs w7 ((HS6.out.kept hdd).kept h7) r7
    have HXD : ∀ (w7 : World), Below w6.drew.heap.size w6.drew w7 → w7.cell? ⟨w4.heap.size, 0, none⟩ = some (.slice a4 n n) := fun w7 h7 => ((HX6.out.kept hdd).kept h7).cell
    go_region_with (first
      | (go_at_call 11; refine Calls.mono TI.out ?_; rintro e w7 ⟨a7, rfl, ok7, hb7⟩; unfold nmv; have y0 := HXD w7 hb7)
      | (go_at_call 13; refine Calls.mono (EQ a7 w7 hb7 ok7).out ?_; rintro e w8 ⟨rfl, hb8⟩))
    all_goals
      have B8 : Below w.heap.size w w8 := (Bd.trans (hb7.mono (by simpa using hsz6))).trans (hb8.mono (Nat.le_trans hsz6 hb7.size))
      go_wp2
      go_ret
      exact ⟨rfl, B8⟩

end Go.Proofs.Ytmmbfoncpjjonaa
