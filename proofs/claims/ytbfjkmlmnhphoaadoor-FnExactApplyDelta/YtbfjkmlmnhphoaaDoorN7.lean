import Derived.Test.YtbfjkmlmnhphoaaDoorGN5K1
namespace Go.Proofs.YtbfjkmlmnhphoaaDoor
open Go.RowKit

def alikeP (x y : PT) : Prop := x.attr = y.attr ∧ FS x.val = FS y.val
def underP (xs ys : List PT) : Prop := nameP xs ∧ nameP ys ∧ ys.length ≤ xs.length ∧ ∀ k, k < ys.length → alikeP (xs.getD k default) (ys.getD k default)

set_option maxRecDepth 10000 in
set_option maxHeartbeats 4000000 in
theorem implUnder_any (a : Option Addr) (n c : Nat) (xs : List PT) (a2 : Option Addr) (n2 c2 : Nat) (ys : List PT) (w : World) (h : Pts w a n xs) (h2 : Pts w a2 n2 ys) (hz : ∀ k, k < n → (xs.getD k default).val.size ≤ 1048576) (hz2 : ∀ k, k < n2 → (ys.getD k default).val.size ≤ 1048576) :
    Calls Tryd.prog 92 #[nmv a n c, nmv a2 n2 c2] w (Says (underP xs ys) w) := by
  have hn := h.max
  have hn2 := h2.max
  obtain ⟨W0, hW0⟩ : ∃ W0, W0 = ((w.alloc (.cells #[.slice a n c] 33)).alloc (.cells #[.slice a2 n2 c2] 33)) := ⟨_, rfl⟩
  have hB0 : Below w.heap.size w W0 := by rw [hW0]; exact two_below _ _ _
  have b0 := two_blocks w (.cells #[.slice a n c] 33) (.cells #[.slice a2 n2 c2] 33)
  rw [← hW0] at b0
  have HN1 : Hid (BoxN 33 w.heap.size W0 a n c) := ⟨b0.1⟩
  have HN2 : Hid (BoxN 33 (w.heap.size + 1) W0 a2 n2 c2) := ⟨b0.2⟩
  have HK : Hid (Pts W0 a n xs) := h.kept hB0
  have HK2 : Hid (Pts W0 a2 n2 ys) := h2.kept hB0
  have HZ : Hid (_) := hz
  have HZ2 : Hid (_) := hz2
  have HL : Hid (xs.length = n) := h.len
  have HL2 : Hid (ys.length = n2) := h2.len
  have q0 := HN1.out.cell
  clear b0 h h2 hz hz2
  unfold nmv
  go_enter Tryd.func92, Tryd.ntmps92
  go_upto_region 1 with fail
  rw [← hW0]
  clear hW0
  go_wp2_with fail
  refine (implNameOk_any a n c xs _ HK.out HZ.out).mono ?_
  rintro e w1 ⟨b1, rfl, HV1, hb1⟩
  have B1 := hB0.trans (hb1.mono hB0.size)
  cases b1 with
  | false =>
    have HN : Hid (¬ underP xs ys) := fun h => Bool.false_ne_true (HV1.out.2 h.1)
    clear HV1 q0
    go_wp2
    go_ret
    exact says_f HN.out B1
  | true =>
    have HO1 : Hid (nameP xs) := HV1.out.1 rfl
    clear HV1 q0
    have q1 := (HN2.out.kept hb1).cell
    go_wp2_with fail
    refine (implNameOk_any a2 n2 c2 ys _ (HK2.out.kept hb1) HZ2.out).mono ?_
    rintro e w2 ⟨b2, rfl, HV2, hb2⟩
    have D2 : Below W0.heap.size W0 w2 := hb1.trans (hb2.mono hb1.size)
    have B2 := hB0.trans (D2.mono hB0.size)
    cases b2 with
    | false =>
      have HN : Hid (¬ underP xs ys) := fun h => Bool.false_ne_true (HV2.out.2 h.2.1)
      clear HV2 q1
      go_wp2
      go_ret
      exact says_f HN.out B2
    | true =>
      have HO2 : Hid (nameP ys) := HV2.out.1 rfl
      clear HV2 q1
      have q0 := (HN1.out.kept D2).cell
      have q1 := (HN2.out.kept D2).cell
      by_cases hnn : n < n2
      · have HN : Hid (¬ underP xs ys) := fun h => absurd h.2.2.1 (by rw [HL.out, HL2.out]; omega)
        have hi : (n : Int) < (n2 : Int) := by omega
        go_wp2
        go_ret
        exact says_f HN.out B2
      · have hi : ¬ ((n : Int) < (n2 : Int)) := by omega
        have hi' : n2 ≤ n := by omega
        go_wp2
        clear hi q0 q1 hb1 hb2
        go_loopw [27] (fun i wr => ∃ k : Nat, k ≤ n2 ∧ i = .int .i64 k ∧ Hid (∀ j, j < k → alikeP (xs.getD j default) (ys.getD j default)) ∧ Below W0.heap.size W0 wr) (fun i _ => n2 - (intOf i).toNat)
        case atStart => exact ⟨0, Nat.zero_le _, rfl, (fun j hj => absurd hj (Nat.not_lt_zero _)), D2⟩
        case round =>
          obtain ⟨k, hk, rfl, HA, hbr⟩ := hrel
          clear D2 B2
          by_cases hkn : k < n2
          · obtain ⟨bn, offn, rfl, hlbn, hcn, _⟩ := HK.out.get k (by omega)
            obtain ⟨bb, offb, rfl, hlbb, hcb, _⟩ := HK2.out.get k hkn
            have hzn := HZ.out k (by omega)
            have hzb := HZ2.out k hkn
            obtain ⟨x, hx⟩ : ∃ x, x = xs.getD k default := ⟨_, rfl⟩
            obtain ⟨y, hy⟩ : ∃ y, y = ys.getD k default := ⟨_, rfl⟩
            rw [← hx] at hcn hzn
            rw [← hy] at hcb hzb
            have HX : Hid (x = xs.getD k default ∧ y = ys.getD k default) := ⟨hx, hy⟩
            obtain ⟨W1, hW1⟩ : ∃ W1, W1 = wr.alloc (.cells #[.int .i64 y.attr, .string y.val] 107) := ⟨_, rfl⟩
            have hB1 : Below W0.heap.size W0 W1 := by rw [hW1]; exact hbr.alloc hbr.size _
            have BY : BoxP 107 wr.heap.size W1 y := by rw [hW1]; exact boxP_new _ wr y
            have HSX : Hid (∀ w', Below W1.heap.size W1 w' → (fun w' => w'.cell? ⟨wr.heap.size, 0, none⟩ = some (.int .i64 y.attr) ∧ w'.cell? ⟨wr.heap.size, 1, none⟩ = some (.string y.val) ∧ w'.cell? ⟨w.heap.size, 0, none⟩ = some (.slice (some ⟨bn, offn, none⟩) n c) ∧ w'.cell? ⟨bn, offn + k * 2, none⟩ = some (.int .i64 x.attr) ∧ w'.cell? ⟨bn, offn + k * 2 + 1, none⟩ = some (.string x.val)) w') := fun w' hw' =>
              have hw2 := hB1.trans (hw'.mono hB1.size)
              have cn := hcn.of (w' := w') (fun i => hw2.cell (p := ⟨bn, i, none⟩) hlbn)
              ⟨(BY.kept hw').cells.c0, (BY.kept hw').cells.c1, (HN1.out.kept hw2).cell, cn.c0, cn.c1⟩
            obtain ⟨c0, c1⟩ := hcb.of (w' := wr) (fun i => hbr.cell (p := ⟨bb, i, none⟩) hlbb)
            have SS := HSX.out _ (Below.refl _ _)
            have hkni : (k : Int) < (n : Int) := by omega
            have hkn2 : (k : Int) < (n2 : Int) := by omega
            have HW1 : Hid (_ = _) := hW1
            have HB1 : Hid (_) := hB1
            clear hcn hcb hx hy hW1 BY
            go_upto_region 6 with fail
            rw [← HW1.out]
            clear HW1 c0 c1
            have hcur : Below W1.heap.size W1 W1.drew := (Below.refl _ _).drew
            obtain ⟨tx, htx⟩ : ∃ t, t = FS x.val := ⟨_, rfl⟩
            obtain ⟨ty, hty⟩ : ∃ t, t = FS y.val := ⟨_, rfl⟩
            have HTX : Hid (_) := htx
            have HTY : Hid (_) := hty
            have EX : ptv (ptf x) = .agg #[.int .i64 x.attr, .string tx] := by rw [htx]; rfl
            have EY : ptv (ptf y) = .agg #[.int .i64 y.attr, .string ty] := by rw [hty]; rfl
            have HEX : Hid (_ ∧ _) := ⟨EX, EY⟩
            clear htx hty EX EY
            by_cases hE : x.attr = y.attr
            · by_cases hF : tx = ty
              · have HAL : Hid (alikeP x y) := ⟨hE, by rw [← HTX.out, ← HTY.out]; exact hF⟩
                have HA2 : Hid (∀ j, j < k + 1 → alikeP (xs.getD j default) (ys.getD j default)) := fun j hj => by
                  by_cases e : j = k
                  · rw [e, ← HX.out.1, ← HX.out.2]; exact HAL.out
                  · exact HA.out j (by omega)
                have EX2 : Hid (ptv (ptf x) = .agg #[.int .i64 y.attr, .string ty]) := by show _ = _; rw [HEX.out.1, hE, hF]
                have EY2 : Hid (_) := HEX.out.2
                clear hE hF HA HAL HEX HTX HTY
                go_region_held_law (fun w' => w'.cell? ⟨wr.heap.size, 0, none⟩ = some (.int .i64 y.attr) ∧ w'.cell? ⟨wr.heap.size, 1, none⟩ = some (.string y.val) ∧ w'.cell? ⟨w.heap.size, 0, none⟩ = some (.slice (some ⟨bn, offn, none⟩) n c) ∧ w'.cell? ⟨bn, offn + k * 2, none⟩ = some (.int .i64 x.attr) ∧ w'.cell? ⟨bn, offn + k * 2 + 1, none⟩ = some (.string x.val)) (first | assumption | exact SS | exact SS1 | exact SS2)
                  (first
                    | (go_at_call_of 104 y; refine (folded_any y _ hzb).mono ?_; rintro e wa ⟨rfl, hb_a⟩; replace hcur := hcur.trans (hb_a.mono hcur.size); have SS1 := HSX.out _ hcur; rw [EY2.out]; clear hb_a)
                    | (go_at_call_of 104 x; refine (folded_any x _ hzn).mono ?_; rintro e wb ⟨rfl, hb_b⟩; replace hcur := hcur.trans (hb_b.mono hcur.size); have SS2 := HSX.out _ hcur; rw [EX2.out]; clear hb_b))
                all_goals (
                  have hB5 : Below W0.heap.size W0 _ := HB1.out.trans (hcur.mono HB1.out.size)
                  go_wp2
                  go_roundw
                  case rel => exact ⟨k + 1, by omega, by go_num, HA2, hB5⟩
                  case measure => simp [intOf]; omega)
              · have HN : Hid (¬ underP xs ys) := fun h => hF (by
                  have := (h.2.2.2 k (by rw [HL2.out]; exact hkn)).2
                  rw [← HX.out.1, ← HX.out.2] at this
                  rw [HTX.out, HTY.out]; exact this)
                have EX2 : Hid (ptv (ptf x) = .agg #[.int .i64 y.attr, .string tx]) := by show _ = _; rw [HEX.out.1, hE]
                have EY2 : Hid (_) := HEX.out.2
                have z1 : ¬ ty = tx := fun h => hF h.symm
                have z2 : (ty.toList == tx.toList) = false := beq_false_of_ne (fun h => z1 (by rw [ByteArray.toList_eq, ByteArray.toList_eq] at h; exact ByteArray.ext (Array.ext' h)))
                clear hE hF HA HEX HTX HTY
                go_region_held_law (fun w' => w'.cell? ⟨wr.heap.size, 0, none⟩ = some (.int .i64 y.attr) ∧ w'.cell? ⟨wr.heap.size, 1, none⟩ = some (.string y.val) ∧ w'.cell? ⟨w.heap.size, 0, none⟩ = some (.slice (some ⟨bn, offn, none⟩) n c) ∧ w'.cell? ⟨bn, offn + k * 2, none⟩ = some (.int .i64 x.attr) ∧ w'.cell? ⟨bn, offn + k * 2 + 1, none⟩ = some (.string x.val)) (first | assumption | exact SS | exact SS1 | exact SS2)
                  (first
                    | (go_at_call_of 104 y; refine (folded_any y _ hzb).mono ?_; rintro e wa ⟨rfl, hb_a⟩; replace hcur := hcur.trans (hb_a.mono hcur.size); have SS1 := HSX.out _ hcur; rw [EY2.out]; clear hb_a)
                    | (go_at_call_of 104 x; refine (folded_any x _ hzn).mono ?_; rintro e wb ⟨rfl, hb_b⟩; replace hcur := hcur.trans (hb_b.mono hcur.size); have SS2 := HSX.out _ hcur; rw [EX2.out]; clear hb_b))
                all_goals (
                  have hB5 : Below W0.heap.size W0 _ := HB1.out.trans (hcur.mono HB1.out.size)
                  go_wp2
                  go_ret
                  exact says_f HN.out (hB0.trans (hB5.mono hB0.size)))
            · have HN : Hid (¬ underP xs ys) := fun h => hE (by
                have := (h.2.2.2 k (by rw [HL2.out]; exact hkn)).1
                rw [← HX.out.1, ← HX.out.2] at this
                exact this)
              have z1 : ¬ y.attr = x.attr := fun h => hE h.symm
              have z2 : (y.attr == x.attr) = false := beq_false_of_ne z1
              clear hE HA HTX HTY
              go_region_held_law (fun w' => w'.cell? ⟨wr.heap.size, 0, none⟩ = some (.int .i64 y.attr) ∧ w'.cell? ⟨wr.heap.size, 1, none⟩ = some (.string y.val) ∧ w'.cell? ⟨w.heap.size, 0, none⟩ = some (.slice (some ⟨bn, offn, none⟩) n c) ∧ w'.cell? ⟨bn, offn + k * 2, none⟩ = some (.int .i64 x.attr) ∧ w'.cell? ⟨bn, offn + k * 2 + 1, none⟩ = some (.string x.val)) (first | assumption | exact SS | exact SS1 | exact SS2)
                (first
                  | (go_at_call_of 104 y; refine (folded_any y _ hzb).mono ?_; rintro e wa ⟨rfl, hb_a⟩; replace hcur := hcur.trans (hb_a.mono hcur.size); have SS1 := HSX.out _ hcur; rw [HEX.out.2]; clear hb_a)
                  | (go_at_call_of 104 x; refine (folded_any x _ hzn).mono ?_; rintro e wb ⟨rfl, hb_b⟩; replace hcur := hcur.trans (hb_b.mono hcur.size); have SS2 := HSX.out _ hcur; rw [HEX.out.1]; clear hb_b))
              all_goals (
                have hB5 : Below W0.heap.size W0 _ := HB1.out.trans (hcur.mono HB1.out.size)
                go_wp2
                go_ret
                exact says_f HN.out (hB0.trans (hB5.mono hB0.size)))
          · obtain rfl : n2 = k := by omega
            have HN : Hid (underP xs ys) := ⟨HO1.out, HO2.out, by rw [HL.out, HL2.out]; exact hi', fun j hj => HA.out j (by rw [HL2.out] at hj; exact hj)⟩
            clear HA
            go_wp2
            go_ret
            exact says_t HN.out (hB0.trans (hbr.mono hB0.size))

end Go.Proofs.YtbfjkmlmnhphoaaDoor
