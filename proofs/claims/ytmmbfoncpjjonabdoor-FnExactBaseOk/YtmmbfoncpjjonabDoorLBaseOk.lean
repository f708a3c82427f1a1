import Derived.Test.YtmmbfoncpjjonabDoorGN11
namespace Go.Proofs.YtmmbfoncpjjonabDoor
open Go.RowKit

set_option maxRecDepth 10000 in
set_option maxHeartbeats 4000000 in
theorem lawBaseOk_walk (g : GT) (a : Option Addr) (n c : Nat) (xs : List PT) (w : World) (hm : MaxW w) (h : Pts w a n xs) (hg : g.text.size ≤ 9223372036854775807) :
    Calls Tryd.prog 4 #[gnv g a n c] w fun e w' => e = .returned (.bool true) ∧ Below w.heap.size w w' := by
  have HK : Hid (Pts w a n xs) := h
  have HM : Hid (MaxW w) := hm
  clear h hm
  have hbl := below_box 26 w g a n c
  have hbx := boxG_new 26 w g a n c
  have SZ := szGenName_any g a n c xs 1048576 _ (HK.out.kept hbl) hg (by decide) (by decide)
  have TO := toGenName_any g a n c xs
  unfold gnv at SZ ⊢
  go_enter Tryd.func4, Tryd.ntmps4
  go_wp2_with fail
  refine SZ.mono ?_
  rintro e w1 ⟨r, rfl, hr, hb1⟩
  have B1 : Below w.heap.size w w1 := hbl.trans (hb1.mono hbl.size)
  have HB1 : Hid (_) := hbx.kept hb1
  clear hb1 hbl hbx SZ
  by_cases hneg : r < 0
  · clear hr
    go_wp2
    go_ret
    exact ⟨rfl, B1⟩
  · have hr0 : 0 ≤ r ∧ r ≤ 1048576 := by omega
    have hs : g.text.size ≤ 1048576 := by rcases hr with h | h; exact absurd h hneg; exact h.2.2.1
    have hn : n ≤ 1048576 := by rcases hr with h | h; exact absurd h hneg; exact h.2.2.2.1
    have HZ : Hid (∀ k, k < n → (xs.getD k default).val.size ≤ 1048576) := by rcases hr with h | h; exact absurd h hneg; exact h.2.2.2.2
    clear hr
    obtain ⟨q0, q1, q2, q3, q4⟩ := HB1.out.cells
    have T1 := TO w1 (HK.out.kept B1) hn
    unfold gnv at T1
    go_wp2_with fail
    refine T1.mono ?_
    rintro e w2 ⟨a2, rfl, hs2, hb2⟩
    have B2 : Below w.heap.size w w2 := B1.trans (hb2.mono B1.size)
    have HB2 : Hid (_) := HB1.out.kept hb2
    have S2 := specBaseOk_any g a2 n n xs w2 hs2 HZ.out hs
    unfold gnv at S2
    clear q0 q1 q2 q3 q4 HB1 hs2 hb2 T1
    go_wp2_with fail
    refine S2.mono ?_
    rintro e w3 ⟨b1, rfl, hv1, hb3⟩
    have B3 : Below w.heap.size w w3 := B2.trans (hb3.mono B2.size)
    have HB3 : Hid (_) := HB2.out.kept hb3
    obtain ⟨q0, q1, q2, q3, q4⟩ := HB3.out.cells
    clear HB2 hb3 S2
    have T3 := TO w3 (HK.out.kept B3) hn
    unfold gnv at T3
    go_wp2_with fail
    refine T3.mono ?_
    rintro e w4 ⟨a4, rfl, hs4, hb4⟩
    have B4 : Below w.heap.size w w4 := B3.trans (hb4.mono B3.size)
    have HB4 : Hid (_) := HB3.out.kept hb4
    have hal : Below w4.heap.size w4 (w4.alloc (.cells #[.int .i64 g.kind, .string g.text, .int .i64 g.addr, .int .i64 g.bits, .slice a4 n n] 33)) := (Below.refl _ _).alloc (Nat.le_refl _) _
    have B5 : Below w.heap.size w (w4.alloc (.cells #[.int .i64 g.kind, .string g.text, .int .i64 g.addr, .int .i64 g.bits, .slice a4 n n] 33)) := B4.alloc B4.size _
    have HX5 : Hid (_) := boxG_new 33 w4 g a4 n n
    have HS5 : Hid (_) := hs4.kept hal
    have HB5 : Hid (_) := HB4.out.kept hal
    have I5 := implBaseOk_any g a4 n n xs _ (HM.out.kept B5) HS5.out HZ.out hs
    unfold gnv at I5
    clear q0 q1 q2 q3 q4 HB3 HB4 hs4 hb4 hal T3
    go_wp2_with fail
    refine I5.mono ?_
    rintro e w6 ⟨b2, rfl, hv2, hb6⟩
    have B6 : Below w.heap.size w w6 := B5.trans (hb6.mono B5.size)
    obtain rfl : b2 = b1 := says_one hv2 hv1
    have t1 : (b2 != b2) = false := by simp
    have HX6 : Hid (_) := HX5.out.kept hb6
    obtain ⟨p0, p1, p2, p3, p4⟩ := HX6.out.cells
    obtain ⟨q0, q1, q2, q3, q4⟩ := (HB5.out.kept hb6).cells
    have HS6 : Hid (_) := HS5.out.kept hb6
    clear HX5 HS5 HB5 hb6 hv1 hv2 I5
    go_wp2_with fail
    have hsz6 := B6.size
    have Bd : Below w.heap.size w w6.drew := B6.drew
    have hdd : Below w6.heap.size w6 w6.drew := (Below.refl _ _).drew
    have TI0 := TO w6.drew (HK.out.kept Bd) hn
    unfold gnv at TI0
    have TI : Hid (_) := TI0
    clear TI0 TO
    have EQ : ∀ (a7 : Option Addr) (w7 : World), Below w6.drew.heap.size w6.drew w7 → Pts w7 a7 n xs → Hid (Calls Tryd.prog 11 #[.agg #[.int .i64 g.kind, .string g.text, .int .i64 g.addr, .int .i64 g.bits, .slice a4 n n], .agg #[.int .i64 g.kind, .string g.text, .int .i64 g.addr, .int .i64 g.bits, .slice a7 n n]] w7 fun e w' => e = .returned (.bool true) ∧ Below w7.heap.size w7 w') := fun a7 w7 h7 r7 =>
      eqGenName_same g a4 a7 n n n xs w7 ((HS6.out.kept hdd).kept h7) r7
    have HXD : ∀ (w7 : World), Below w6.drew.heap.size w6.drew w7 → w7.cell? ⟨w4.heap.size, 0, none⟩ = some (.int .i64 g.kind) ∧ w7.cell? ⟨w4.heap.size, 1, none⟩ = some (.string g.text) ∧ w7.cell? ⟨w4.heap.size, 2, none⟩ = some (.int .i64 g.addr) ∧ w7.cell? ⟨w4.heap.size, 3, none⟩ = some (.int .i64 g.bits) ∧ w7.cell? ⟨w4.heap.size, 4, none⟩ = some (.slice a4 n n) := fun w7 h7 => ((HX6.out.kept hdd).kept h7).cells
    go_region_with (first
      | (go_at_call 9; refine Calls.mono TI.out ?_; rintro e w7 ⟨a7, rfl, ok7, hb7⟩; obtain ⟨y0, y1, y2, y3, y4⟩ := HXD w7 hb7)
      | (go_at_call 11; refine Calls.mono (EQ a7 w7 hb7 ok7).out ?_; rintro e w8 ⟨rfl, hb8⟩))
    all_goals
      have B8 : Below w.heap.size w w8 := (Bd.trans (hb7.mono (by simpa using hsz6))).trans (hb8.mono (Nat.le_trans hsz6 hb7.size))
      go_wp2
      go_ret
      exact ⟨rfl, B8⟩

end Go.Proofs.YtmmbfoncpjjonabDoor
