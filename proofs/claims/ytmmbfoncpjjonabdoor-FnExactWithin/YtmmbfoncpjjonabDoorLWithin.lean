import Derived.Test.YtmmbfoncpjjonabDoorGW4
import Derived.Deep.RegionHeldLaw
namespace Go.Proofs.YtmmbfoncpjjonabDoor
open Go.RowKit

set_option maxRecDepth 10000 in
set_option maxHeartbeats 16000000 in
theorem lawWithin_walk (g : GT) (a : Option Addr) (n c : Nat) (xs : List PT) (b : GT) (a2 : Option Addr) (n2 c2 : Nat) (ys : List PT) (w : World) (hm : MaxW w) (h : Pts w a n xs) (h2 : Pts w a2 n2 ys) (hg : g.text.size ≤ 9223372036854775807) (hg2 : b.text.size ≤ 9223372036854775807) :
    Calls Tryd.prog 5 #[gnv g a n c, gnv b a2 n2 c2] w fun e w' => e = .returned (.bool true) ∧ Below w.heap.size w w' := by
  have HK : Hid (Pts w a n xs) := h
  have HK2 : Hid (Pts w a2 n2 ys) := h2
  have HM : Hid (MaxW w) := hm
  clear h h2 hm
  obtain ⟨W0, hW0, x1, x2, hB0, sW⟩ := two_boxes 26 w g a n c b a2 n2 c2
  have HN1 : Hid (BoxG 26 w.heap.size W0 g a n c) := x1
  have HN2 : Hid (BoxG 26 (w.heap.size + 1) W0 b a2 n2 c2) := x2
  obtain ⟨p0, p1, p2, p3, p4⟩ := HN1.out.cells
  have SZ1 := fun (w1 : World) (hb : Below w.heap.size w w1) => szGenName_any g a n c xs 1048576 w1 (HK.out.kept hb) hg (by decide) (by decide)
  have TOA := fun (w1 : World) (hp : Pts w1 a n xs) (hn : n ≤ 1048576) => toGenName_any g a n c xs w1 hp hn
  have TOB := fun (w1 : World) (hp : Pts w1 a2 n2 ys) (hn : n2 ≤ 1048576) => toGenName_any b a2 n2 c2 ys w1 hp hn
  unfold gnv at SZ1 TOA TOB ⊢
  clear x1 x2
  go_enter Tryd.func5, Tryd.ntmps5
  go_upto_region 1 with fail
  rw [← hW0]
  clear hW0
  go_wp2_with fail
  refine (SZ1 _ hB0).mono ?_
  rintro e w1 ⟨r, rfl, hr, hb1⟩
  have B1 : Below w.heap.size w w1 := hB0.trans (hb1.mono hB0.size)
  clear SZ1
  by_cases hneg : r < 0
  · clear hr
    go_wp2
    go_ret
    exact ⟨rfl, B1⟩
  · have hr0 : 0 ≤ r ∧ r ≤ 1048576 := by omega
    have hs : g.text.size ≤ 1048576 := by rcases hr with h | h; exact absurd h hneg; exact h.2.2.1
    have hn : n ≤ 1048576 := by rcases hr with h | h; exact absurd h hneg; exact h.2.2.2.1
    have HZ : Hid (∀ k, k < n → (xs.getD k default).val.size ≤ 1048576) := by rcases hr with h | h; exact absurd h hneg; exact h.2.2.2.2
    clear hr p0 p1 p2 p3 p4
    obtain ⟨q0, q1, q2, q3, q4⟩ := (HN2.out.kept hb1).cells
    have SZ2 := szGenName_any b a2 n2 c2 ys r w1 (HK2.out.kept B1) hg2 hr0.1 hr0.2
    unfold gnv at SZ2
    go_wp2_with fail
    refine SZ2.mono ?_
    rintro e w2 ⟨r2, rfl, hr2, hb2⟩
    have D2 : Below W0.heap.size W0 w2 := hb1.trans (hb2.mono hb1.size)
    have B2 : Below w.heap.size w w2 := hB0.trans (D2.mono hB0.size)
    clear hb1 hb2 q0 q1 q2 q3 q4 SZ2
    by_cases hneg2 : r2 < 0
    · clear hr2
      go_wp2
      go_ret
      exact ⟨rfl, B2⟩
    · have hs2 : b.text.size ≤ 1048576 := by rcases hr2 with h | h; exact absurd h hneg2; exact h.2.2.1
      have hn2 : n2 ≤ 1048576 := by rcases hr2 with h | h; exact absurd h hneg2; exact h.2.2.2.1
      have HZ2 : Hid (∀ k, k < n2 → (ys.getD k default).val.size ≤ 1048576) := by rcases hr2 with h | h; exact absurd h hneg2; exact h.2.2.2.2
      clear hr2
      have HSX : Hid (∀ w', Below w2.heap.size w2 w' → (fun w' => w'.cell? ⟨w.heap.size, 0, none⟩ = some (.int .i64 g.kind) ∧ w'.cell? ⟨w.heap.size, 1, none⟩ = some (.string g.text) ∧ w'.cell? ⟨w.heap.size, 2, none⟩ = some (.int .i64 g.addr) ∧ w'.cell? ⟨w.heap.size, 3, none⟩ = some (.int .i64 g.bits) ∧ w'.cell? ⟨w.heap.size, 4, none⟩ = some (.slice a n c) ∧ w'.cell? ⟨w.heap.size + 1, 0, none⟩ = some (.int .i64 b.kind) ∧ w'.cell? ⟨w.heap.size + 1, 1, none⟩ = some (.string b.text) ∧ w'.cell? ⟨w.heap.size + 1, 2, none⟩ = some (.int .i64 b.addr) ∧ w'.cell? ⟨w.heap.size + 1, 3, none⟩ = some (.int .i64 b.bits) ∧ w'.cell? ⟨w.heap.size + 1, 4, none⟩ = some (.slice a2 n2 c2)) w') := fun w' hw' =>
        have hw2 := D2.trans (hw'.mono D2.size)
        have u := (HN1.out.kept hw2).cells
        have v := (HN2.out.kept hw2).cells
        ⟨u.1, u.2.1, u.2.2.1, u.2.2.2.1, u.2.2.2.2, v⟩
      have SS := HSX.out _ (Below.refl _ _)
      have HK3 : Hid (∀ w', Below w2.heap.size w2 w' → Pts w' a n xs ∧ Pts w' a2 n2 ys) := fun w' hw' => ⟨HK.out.kept (B2.trans (hw'.mono B2.size)), HK2.out.kept (B2.trans (hw'.mono B2.size))⟩
      have HMX : Hid (∀ w', Below w2.heap.size w2 w' → MaxW w') := fun w' hw' => HM.out.kept (B2.trans (hw'.mono B2.size))
      have hcur : Below w2.heap.size w2 w2.drew := (Below.refl _ _).drew
      have SP := fun (ax ay : Option Addr) (w1 : World) (h1 : Pts w1 ax n xs) (h2 : Pts w1 ay n2 ys) => specWithin_any g ax n n xs b ay n2 n2 ys w1 h1 HZ.out hs h2 HZ2.out hs2
      unfold gnv at SP
      go_wp2_with fail
      go_region_held_law (fun w' => w'.cell? ⟨w.heap.size, 0, none⟩ = some (.int .i64 g.kind) ∧ w'.cell? ⟨w.heap.size, 1, none⟩ = some (.string g.text) ∧ w'.cell? ⟨w.heap.size, 2, none⟩ = some (.int .i64 g.addr) ∧ w'.cell? ⟨w.heap.size, 3, none⟩ = some (.int .i64 g.bits) ∧ w'.cell? ⟨w.heap.size, 4, none⟩ = some (.slice a n c) ∧ w'.cell? ⟨w.heap.size + 1, 0, none⟩ = some (.int .i64 b.kind) ∧ w'.cell? ⟨w.heap.size + 1, 1, none⟩ = some (.string b.text) ∧ w'.cell? ⟨w.heap.size + 1, 2, none⟩ = some (.int .i64 b.addr) ∧ w'.cell? ⟨w.heap.size + 1, 3, none⟩ = some (.int .i64 b.bits) ∧ w'.cell? ⟨w.heap.size + 1, 4, none⟩ = some (.slice a2 n2 c2)) (first | assumption | exact SS | exact SS1 | exact SS2 | exact SS3)
        (first
          | (go_at_call_of 9 a; refine (TOA _ (HK3.out _ hcur).1 hn).mono ?_; rintro e wa ⟨ax, rfl, okx, hb_a⟩; (try replace oky := oky.kept hb_a); replace hcur := hcur.trans (hb_a.mono hcur.size); have SS1 := HSX.out _ hcur; clear hb_a)
          | (go_at_call_of 9 a2; refine (TOB _ (HK3.out _ hcur).2 hn2).mono ?_; rintro e wb ⟨ay, rfl, oky, hb_b⟩; (try replace okx := okx.kept hb_b); replace hcur := hcur.trans (hb_b.mono hcur.size); have SS2 := HSX.out _ hcur; clear hb_b)
          | (go_at_call 14; refine (SP ax ay _ okx oky).mono ?_; rintro e wc ⟨b1, rfl, hv1, hb_c⟩; replace hcur := hcur.trans (hb_c.mono hcur.size); have SS3 := HSX.out _ hcur; clear hb_c okx oky))
      all_goals (
        clear SS SS1 SS2 SP
        obtain ⟨p0, p1, p2, p3, p4, q0, q1, q2, q3, q4⟩ := SS3
        go_wp2_with fail
        refine (TOA _ (HK3.out _ hcur).1 hn).mono ?_
        rintro e w4 ⟨a4, rfl, hs4, hb4⟩
        replace hcur := hcur.trans (hb4.mono hcur.size)
        have hal : Below w4.heap.size w4 (w4.alloc (.cells #[.int .i64 g.kind, .string g.text, .int .i64 g.addr, .int .i64 g.bits, .slice a4 n n] 33)) := (Below.refl _ _).alloc (Nat.le_refl _) _
        have HX5 : Hid (BoxG 33 w4.heap.size _ g a4 n n) := boxG_new 33 w4 g a4 n n
        have HS5 : Hid (Pts _ a4 n xs) := hs4.kept hal
        replace hcur := hcur.trans (hal.mono hcur.size)
        obtain ⟨W5, hW5⟩ : ∃ W5, W5 = w4.alloc (.cells #[.int .i64 g.kind, .string g.text, .int .i64 g.addr, .int .i64 g.bits, .slice a4 n n] 33) := ⟨_, rfl⟩
        rw [← hW5] at HX5 HS5 hcur
        have HW5 : Hid (_ = _) := hW5
        clear p0 p1 p2 p3 p4 q0 q1 q2 q3 q4 hs4 hb4 hal hW5
        go_upto_region 10 with fail
        rw [← HW5.out]
        clear HW5
        obtain ⟨p0, p1, p2, p3, p4, q0, q1, q2, q3, q4⟩ := HSX.out _ hcur
        go_wp2_with fail
        refine (TOB _ (HK3.out _ hcur).2 hn2).mono ?_
        rintro e w6 ⟨a6, rfl, hs6, hb6⟩
        have hal : Below w6.heap.size w6 (w6.alloc (.cells #[.int .i64 b.kind, .string b.text, .int .i64 b.addr, .int .i64 b.bits, .slice a6 n2 n2] 33)) := (Below.refl _ _).alloc (Nat.le_refl _) _
        have D7 : Below W5.heap.size W5 (w6.alloc (.cells #[.int .i64 b.kind, .string b.text, .int .i64 b.addr, .int .i64 b.bits, .slice a6 n2 n2] 33)) := hb6.trans (hal.mono hb6.size)
        have HX7 : Hid (BoxG 33 w4.heap.size _ g a4 n n) := HX5.out.kept D7
        have HS7 : Hid (Pts _ a4 n xs) := HS5.out.kept D7
        have HY7 : Hid (BoxG 33 w6.heap.size _ b a6 n2 n2) := boxG_new 33 w6 b a6 n2 n2
        have HR7 : Hid (Pts _ a6 n2 ys) := hs6.kept hal
        replace hcur := hcur.trans (D7.mono hcur.size)
        obtain ⟨W7, hW7⟩ : ∃ W7, W7 = w6.alloc (.cells #[.int .i64 b.kind, .string b.text, .int .i64 b.addr, .int .i64 b.bits, .slice a6 n2 n2] 33) := ⟨_, rfl⟩
        rw [← hW7] at HX7 HS7 HY7 HR7 hcur
        have HW7 : Hid (_ = _) := hW7
        clear p0 p1 p2 p3 p4 q0 q1 q2 q3 q4 hs6 hb6 hal D7 HX5 HS5 hW7
        go_upto_region 11 with fail
        rw [← HW7.out]
        clear HW7
        obtain ⟨p0, p1, p2, p3, p4⟩ := HX7.out.cells
        obtain ⟨q0, q1, q2, q3, q4⟩ := HY7.out.cells
        have IW := implWithin_any g a4 n n xs b a6 n2 n2 ys W7 (HMX.out _ hcur) HS7.out HZ.out hs HR7.out HZ2.out hs2
        unfold gnv at IW
        go_wp2_with fail
        refine IW.mono ?_
        rintro e w8 ⟨b2, rfl, hv2, hb8⟩
        obtain rfl : b2 = b1 := says_one hv2 hv1
        have t1 : (b2 != b2) = false := by simp
        have HX8 : Hid (BoxG 33 w4.heap.size w8 g a4 n n) := HX7.out.kept hb8
        have HS8 : Hid (Pts w8 a4 n xs) := HS7.out.kept hb8
        have HY8 : Hid (BoxG 33 w6.heap.size w8 b a6 n2 n2) := HY7.out.kept hb8
        have HR8 : Hid (Pts w8 a6 n2 ys) := HR7.out.kept hb8
        replace hcur := hcur.trans (hb8.mono hcur.size)
        clear hv1 hv2 p0 p1 p2 p3 p4 q0 q1 q2 q3 q4 hb8 HX7 HS7 HY7 HR7 IW
        have HSX2 : Hid (∀ w', Below w8.heap.size w8 w' → (fun w' => w'.cell? ⟨w4.heap.size, 0, none⟩ = some (.int .i64 g.kind) ∧ w'.cell? ⟨w4.heap.size, 1, none⟩ = some (.string g.text) ∧ w'.cell? ⟨w4.heap.size, 2, none⟩ = some (.int .i64 g.addr) ∧ w'.cell? ⟨w4.heap.size, 3, none⟩ = some (.int .i64 g.bits) ∧ w'.cell? ⟨w4.heap.size, 4, none⟩ = some (.slice a4 n n) ∧ w'.cell? ⟨w.heap.size, 0, none⟩ = some (.int .i64 g.kind) ∧ w'.cell? ⟨w.heap.size, 1, none⟩ = some (.string g.text) ∧ w'.cell? ⟨w.heap.size, 2, none⟩ = some (.int .i64 g.addr) ∧ w'.cell? ⟨w.heap.size, 3, none⟩ = some (.int .i64 g.bits) ∧ w'.cell? ⟨w.heap.size, 4, none⟩ = some (.slice a n c)) w') := fun w' hw' =>
          have hw2 := hcur.trans (hw'.mono hcur.size)
          have u := (HX8.out.kept hw').cells
          have v := HSX.out _ hw2
          ⟨u.1, u.2.1, u.2.2.1, u.2.2.2.1, u.2.2.2.2, v.1, v.2.1, v.2.2.1, v.2.2.2.1, v.2.2.2.2.1⟩
        have TT := HSX2.out _ (Below.refl _ _)
        have hc8 : Below w8.heap.size w8 w8.drew := (Below.refl _ _).drew
        have EQ := fun (ax : Option Addr) (w7 : World) (h1 : Pts w7 a4 n xs) (h2 : Pts w7 ax n xs) => eqGenName_same g a4 ax n n n xs w7 h1 h2
        unfold gnv at EQ
        go_wp2_with fail
        go_region_held_law (fun w' => w'.cell? ⟨w4.heap.size, 0, none⟩ = some (.int .i64 g.kind) ∧ w'.cell? ⟨w4.heap.size, 1, none⟩ = some (.string g.text) ∧ w'.cell? ⟨w4.heap.size, 2, none⟩ = some (.int .i64 g.addr) ∧ w'.cell? ⟨w4.heap.size, 3, none⟩ = some (.int .i64 g.bits) ∧ w'.cell? ⟨w4.heap.size, 4, none⟩ = some (.slice a4 n n) ∧ w'.cell? ⟨w.heap.size, 0, none⟩ = some (.int .i64 g.kind) ∧ w'.cell? ⟨w.heap.size, 1, none⟩ = some (.string g.text) ∧ w'.cell? ⟨w.heap.size, 2, none⟩ = some (.int .i64 g.addr) ∧ w'.cell? ⟨w.heap.size, 3, none⟩ = some (.int .i64 g.bits) ∧ w'.cell? ⟨w.heap.size, 4, none⟩ = some (.slice a n c)) (first | assumption | exact TT | exact TT1 | exact TT2)
          (first
            | (go_at_call_of 9 a; refine (TOA _ (HK3.out _ (hcur.trans (hc8.mono hcur.size))).1 hn).mono ?_; rintro e wa ⟨ax, rfl, okx, hb_a⟩; replace hc8 := hc8.trans (hb_a.mono hc8.size); have TT1 := HSX2.out _ hc8; clear hb_a)
            | (go_at_call 11; refine (EQ ax _ (HS8.out.kept hc8) okx).mono ?_; rintro e wb ⟨rfl, hb_b⟩; replace hc8 := hc8.trans (hb_b.mono hc8.size); have TT2 := HSX2.out _ hc8; clear hb_b okx))
        all_goals (
          clear TT TT1 TT2 EQ
          replace hcur := hcur.trans (hc8.mono hcur.size)
          have HY9 : Hid (_) := HY8.out.kept hc8
          have HR9 : Hid (_) := HR8.out.kept hc8
          clear hc8
          obtain ⟨W9, hW9⟩ : ∃ W9 : World, W9 = wb := ⟨_, rfl⟩
          rw [← hW9] at HY9 HR9 hcur ⊢
          clear hW9
          have HSX3 : Hid (∀ w', Below W9.heap.size W9 w' → (fun w' => w'.cell? ⟨w6.heap.size, 0, none⟩ = some (.int .i64 b.kind) ∧ w'.cell? ⟨w6.heap.size, 1, none⟩ = some (.string b.text) ∧ w'.cell? ⟨w6.heap.size, 2, none⟩ = some (.int .i64 b.addr) ∧ w'.cell? ⟨w6.heap.size, 3, none⟩ = some (.int .i64 b.bits) ∧ w'.cell? ⟨w6.heap.size, 4, none⟩ = some (.slice a6 n2 n2) ∧ w'.cell? ⟨w.heap.size + 1, 0, none⟩ = some (.int .i64 b.kind) ∧ w'.cell? ⟨w.heap.size + 1, 1, none⟩ = some (.string b.text) ∧ w'.cell? ⟨w.heap.size + 1, 2, none⟩ = some (.int .i64 b.addr) ∧ w'.cell? ⟨w.heap.size + 1, 3, none⟩ = some (.int .i64 b.bits) ∧ w'.cell? ⟨w.heap.size + 1, 4, none⟩ = some (.slice a2 n2 c2)) w') := fun w' hw' =>
            have hw2 := hcur.trans (hw'.mono hcur.size)
            have u := (HY9.out.kept hw').cells
            have v := HSX.out _ hw2
            ⟨u.1, u.2.1, u.2.2.1, u.2.2.2.1, u.2.2.2.2, v.2.2.2.2.2⟩
          have UU := HSX3.out _ (Below.refl _ _)
          have hc9 : Below W9.heap.size W9 W9.drew := (Below.refl _ _).drew
          have EQ := fun (ax : Option Addr) (w7 : World) (h1 : Pts w7 a6 n2 ys) (h2 : Pts w7 ax n2 ys) => eqGenName_same b a6 ax n2 n2 n2 ys w7 h1 h2
          unfold gnv at EQ
          go_wp2_with fail
          go_region_held_law (fun w' => w'.cell? ⟨w6.heap.size, 0, none⟩ = some (.int .i64 b.kind) ∧ w'.cell? ⟨w6.heap.size, 1, none⟩ = some (.string b.text) ∧ w'.cell? ⟨w6.heap.size, 2, none⟩ = some (.int .i64 b.addr) ∧ w'.cell? ⟨w6.heap.size, 3, none⟩ = some (.int .i64 b.bits) ∧ w'.cell? ⟨w6.heap.size, 4, none⟩ = some (.slice a6 n2 n2) ∧ w'.cell? ⟨w.heap.size + 1, 0, none⟩ = some (.int .i64 b.kind) ∧ w'.cell? ⟨w.heap.size + 1, 1, none⟩ = some (.string b.text) ∧ w'.cell? ⟨w.heap.size + 1, 2, none⟩ = some (.int .i64 b.addr) ∧ w'.cell? ⟨w.heap.size + 1, 3, none⟩ = some (.int .i64 b.bits) ∧ w'.cell? ⟨w.heap.size + 1, 4, none⟩ = some (.slice a2 n2 c2)) (first | assumption | exact UU | exact UU1 | exact UU2)
            (first
              | (go_at_call_of 9 a2; refine (TOB _ (HK3.out _ (hcur.trans (hc9.mono hcur.size))).2 hn2).mono ?_; rintro e wx ⟨ay, rfl, oky, hb_a⟩; replace hc9 := hc9.trans (hb_a.mono hc9.size); have UU1 := HSX3.out _ hc9; clear hb_a)
              | (go_at_call 11; refine (EQ ay _ (HR9.out.kept hc9) oky).mono ?_; rintro e wy ⟨rfl, hb_b⟩; replace hc9 := hc9.trans (hb_b.mono hc9.size); have UU2 := HSX3.out _ hc9; clear hb_b oky))
          all_goals (
            replace hcur := hcur.trans (hc9.mono hcur.size)
            have BF := B2.trans (hcur.mono B2.size)
            go_wp2
            go_ret
            exact ⟨rfl, BF⟩)))

end Go.Proofs.YtmmbfoncpjjonabDoor
