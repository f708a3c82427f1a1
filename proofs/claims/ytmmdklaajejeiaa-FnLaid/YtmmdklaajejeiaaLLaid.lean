import Derived.Test.YtmmdklaajejeiaaWL1
import Derived.Deep.RegionWith
namespace Go.Proofs.Ytmmdklaajejeiaa
open Go.RowKit

theorem xor8_back (x y : Int) (hx : 0 ≤ x ∧ x ≤ 255) (hy : 0 ≤ y ∧ y ≤ 255) : bits .xor .u8 (bits .xor .u8 x y) y = x := by
  obtain ⟨X, rfl⟩ := Int.eq_ofNat_of_zero_le hx.1
  obtain ⟨Y, rfl⟩ := Int.eq_ofNat_of_zero_le hy.1
  have hl : X ^^^ Y < 2 ^ 8 := Nat.xor_lt_two_pow (by omega) (by omega)
  rw [u8_xor_nat X Y (by omega) (by omega), u8_xor_nat _ Y (by omega) (by omega), Nat.xor_assoc, Nat.xor_self, Nat.xor_zero]
theorem xor8_comm (x y : Int) : bits .xor .u8 x y = bits .xor .u8 y x := by simp only [bits, BitVec.xor_comm]
theorem xor8_self (x : Int) (hx : 0 ≤ x ∧ x ≤ 255) : bits .xor .u8 x x = 0 := by
  obtain ⟨X, rfl⟩ := Int.eq_ofNat_of_zero_le hx.1
  rw [u8_xor_nat X X (by omega) (by omega), Nat.xor_self]; rfl

theorem xorL_get (xs ys : List Int) (hy : ys ≠ []) (i : Nat) (h : i < xs.length) : (xorL xs ys).getD i 0 = xr xs ys i := by
  rw [xorL, if_neg hy]; simp [xorTo, h]
theorem xorL_nil (xs : List Int) : xorL xs [] = xs := by rw [xorL, if_pos rfl]
theorem xorL_length (xs ys : List Int) : (xorL xs ys).length = xs.length := by
  unfold xorL
  split
  · rfl
  · exact xorTo_len _ _ _
theorem ext_getD {xs ys : List Int} (hl : xs.length = ys.length) (h : ∀ i, i < xs.length → xs.getD i 0 = ys.getD i 0) : xs = ys := by
  apply List.ext_getElem hl
  intro i h1 h2
  have := h i h1
  simpa [h1, h2] using this
theorem xorL_back (xs ys : List Int) (hx : ∀ k, 0 ≤ xs.getD k 0 ∧ xs.getD k 0 ≤ 255) (hy : ∀ k, 0 ≤ ys.getD k 0 ∧ ys.getD k 0 ≤ 255) : xorL (xorL xs ys) ys = xs := by
  by_cases h0 : ys = []
  · subst h0; rw [xorL_nil, xorL_nil]
  · apply ext_getD (by rw [xorL_length, xorL_length])
    intro i hi
    rw [xorL_length, xorL_length] at hi
    rw [xorL_get _ _ h0 i (by rw [xorL_length]; exact hi), xr, xorL_get _ _ h0 i hi, xr, xor8_back _ _ (hx i) (hy _)]
theorem xorL_comm (xs ys : List Int) (hl : xs.length = ys.length) : xorL xs ys = xorL ys xs := by
  by_cases h0 : ys = []
  · subst h0
    have : xs = [] := List.eq_nil_of_length_eq_zero hl
    subst this; rfl
  · have h1 : xs ≠ [] := by intro e; subst e; exact h0 (List.eq_nil_of_length_eq_zero hl.symm)
    apply ext_getD (by rw [xorL_length, xorL_length]; exact hl)
    intro i hi
    rw [xorL_length] at hi
    rw [xorL_get _ _ h0 i hi, xorL_get _ _ h1 i (by omega), xr, xr, Nat.mod_eq_of_lt (by omega), Nat.mod_eq_of_lt hi, xor8_comm]
theorem xorL_self (xs : List Int) (hx : ∀ k, 0 ≤ xs.getD k 0 ∧ xs.getD k 0 ≤ 255) : xorL xs xs = List.replicate xs.length 0 := by
  by_cases h0 : xs = []
  · subst h0; rfl
  · apply ext_getD (by rw [xorL_length]; simp)
    intro i hi
    rw [xorL_length] at hi
    rw [xorL_get _ _ h0 i hi, xr, Nat.mod_eq_of_lt hi, xor8_self _ (hx i)]
    simp [hi]

theorem Row.take {w : World} {a : Option Addr} {n : Nat} {bs : List Int} (h : Row w a n bs) (k : Nat) (hk : k ≤ n) : Row w a k (bs.take k) := by
  refine ⟨by rw [List.length_take, h.len]; omega, fun j hj => ?_, take_bytes h.byte k⟩
  obtain ⟨b, off, ha, hb, hc⟩ := h.get j (by omega)
  exact ⟨b, off, ha, hb, hc.trans (by simp [hj])⟩
theorem Row.drew {w : World} {a : Option Addr} {n : Nat} {bs : List Int} (h : Row w a n bs) : Row w.drew a n bs := h.kept (Below.refl _ _).drew

theorem mk_run (W : World) (K : Nat) (h : K ≤ 1048576) : (Instr.makeSlice 22 (.int .i64 (K : Int)) (.int .i64 (K : Int))).run Try.prog W = .ok (.slice (some ⟨W.heap.size, 0, none⟩) K K) (W.alloc (.cells (madeCells #[Value.int .u8 0] K) 5)) := by
  obtain ⟨i0, hi, hz0, hz1, hz2⟩ := info_parts Try.info5
  have hr := run_make (P := Try.prog) W 22 5 i0 (.int .u8 0) Try.underlying22 hi hz0 .i64 .i64 K K (by omega) (Int.le_refl _) (by rw [hz2]; omega) (by omega)
  simp only [Int.toNat_natCast, hz1, Nat.mul_one] at hr
  exact hr

theorem made_row (W : World) (K : Nat) (h : K ≤ 1048576) : Row (W.alloc (.cells (madeCells #[Value.int .u8 0] K) 5)) (some ⟨W.heap.size, 0, none⟩) K (List.replicate K 0) :=
  by
  have h1 : (W.alloc (.cells (madeCells #[Value.int .u8 0] K) 5)).ownsRow W.heap.size 5 1 (.slice (some ⟨W.heap.size, 0, none⟩) K K) K (madeCells #[Value.int .u8 0] K).toList :=
    World.ownsRow_lit W _ K (Nat.le_refl _) (by unfold maxLen; omega) (by rw [size_madeCells]; omega)
  have h2 : (madeCells #[Value.int .u8 0] K).toList = (madeCells (Value.int .u8 0).cells (K * 1)).toList := by rw [Nat.mul_one]; rfl
  rw [h2] at h1
  exact (own_made h1).toRow

set_option maxHeartbeats 2000000 in
theorem lawLaid_walk (a b : Option Addr) (n m ca cb : Nat) (z0 z1 : List Int) (w : World) (hr0 : IsRow .u8 w a n ca z0) (hr1 : IsRow .u8 w b m cb z1) :
    Calls Try.prog 5 #[.slice a n ca, .slice b m cb] w fun e w' => e = .returned (.bool true) ∧ Below w.heap.size w w' := by
  obtain ⟨hrow0, hmax0⟩ := hr0.row
  obtain ⟨hrow1, hmax1⟩ := hr1.row
  have hna : a = none → ca = 0 := hr0.nil
  have hnb : b = none → cb = 0 := hr1.nil
  have hca : n ≤ ca ∧ ca ≤ 9223372036854775807 := hr0.cap
  have hcb : m ≤ cb ∧ cb ≤ 9223372036854775807 := hr1.cap
  obtain ⟨xs, hxs⟩ : ∃ xs, xs = z0.take n := ⟨_, rfl⟩
  obtain ⟨ys, hys⟩ : ∃ ys, ys = z1.take m := ⟨_, rfl⟩
  rw [← hxs] at hrow0
  rw [← hys] at hrow1
  clear hxs hr0 hys hr1
  unfold maxLen at hmax0 hmax1
  have HA : Hid (Row w a n xs) := hrow0
  have HB : Hid (Row w b m ys) := hrow1
  have NA : Hid (a = none → ca = 0) := hna
  have NB : Hid (b = none → cb = 0) := hnb
  have BX := hrow0.byte
  have BY := hrow1.byte
  clear hrow0 hrow1 hna hnb
  obtain ⟨hca1, hca2⟩ := hca
  obtain ⟨hcb1, hcb2⟩ := hcb
  by_cases hbig : 20000 < n
  · go_enter Try.func5, Try.ntmps5
    go_wp2
    go_ret
    exact ⟨rfl, Below.refl _ _⟩
  · by_cases hbig1 : 20000 < m
    · go_enter Try.func5, Try.ntmps5
      go_wp2
      go_ret
      exact ⟨rfl, Below.refl _ _⟩
    · have t0 : ((n : Int) != (n : Int)) = false := by simp
      go_enter Try.func5, Try.ntmps5
      go_wp2_with fail
      refine (copied_any a n ca xs _ HA.out NA.out (by omega)).mono ?_
      rintro e w1 ⟨a1, c1, rfl, ho1, hb1⟩
      go_wp2_with fail
      refine (copied_any b m cb ys _ (HB.out.kept hb1) NB.out (by omega)).mono ?_
      rintro e w2 ⟨a2, c2, rfl, ho2, hb2⟩
      go_wp2_with fail
      refine (implXor_any a1 a2 n m c1 c2 xs ys _ (ho1.kept hb2).toRow ho2.toRow (by omega) (by omega)).mono ?_
      rintro e w3 ⟨a3, c3, rfl, ho3, hb3⟩
      have s1 := hb1.size
      have s2 := hb2.size
      have s3 := hb3.size
      have h03 : Below w.heap.size w w3 := hb1.trans ((hb2.mono (by omega)).trans (hb3.mono (by omega)))
      go_wp2_with fail
      refine (copied_any a3 n c3 (xorL xs ys) _ ho3.toRow ho3.nil (by omega)).mono ?_
      rintro e w4 ⟨a4, c4, rfl, ho4, hb4⟩
      have s4 := hb4.size
      have h04 : Below w.heap.size w w4 := h03.trans (hb4.mono (by omega))
      go_wp2_with fail
      refine (copied_any b m cb ys _ (HB.out.kept h04) NB.out (by omega)).mono ?_
      rintro e w5 ⟨a5, c5, rfl, ho5, hb5⟩
      have s5 := hb5.size
      have h05 : Below w.heap.size w w5 := h04.trans (hb5.mono (by omega))
      go_wp2_with fail
      refine (implXor_any a4 a5 n m c4 c5 (xorL xs ys) ys _ (ho4.kept hb5).toRow ho5.toRow (by omega) (by omega)).mono ?_
      rintro e w6 ⟨a6, c6, rfl, ho6, hb6⟩
      rw [xorL_back xs ys BX BY] at ho6
      have s6 := hb6.size
      have h06 : Below w.heap.size w w6 := h05.trans (hb6.mono (by omega))
      go_wp2_with fail
      refine (sameBytes_any a6 a n n c6 ca xs xs _ ho6.toRow (HA.out.kept h06)).mono ?_
      rintro e w7 ⟨rfl, hw7⟩
      subst hw7
      rw [decide_eq_true (rfl : xs = xs)]
      go_wp2_with fail
      refine (copied_any a n ca xs _ (HA.out.kept h06) NA.out (by omega)).mono ?_
      rintro e w8 ⟨a8, c8, rfl, ho8, hb8⟩
      have s8 := hb8.size
      have h08 : Below w.heap.size w w8 := h06.trans (hb8.mono (by omega))
      go_wp2_with fail
      refine (implXor_any a8 none n 0 c8 0 xs [] _ ho8.toRow ⟨rfl, fun k hk => absurd hk (Nat.not_lt_zero _), by simp⟩ (by omega) (by omega)).mono ?_
      rintro e w9 ⟨a9, c9, rfl, ho9, hb9⟩
      rw [xorL_nil] at ho9
      have s9 := hb9.size
      have h09 : Below w.heap.size w w9 := h08.trans (hb9.mono (by omega))
      go_wp2_with fail
      refine (sameBytes_any a9 a n n c9 ca xs xs _ ho9.toRow (HA.out.kept h09)).mono ?_
      rintro e w10 ⟨rfl, hw10⟩
      subst hw10
      rw [decide_eq_true (rfl : xs = xs)]
      go_wp2_with fail
      · refine (copied_any a m ca (xs.take m) _ ((HA.out.kept h09).take m (by omega)) NA.out (by omega)).mono ?_
        rintro e w11 ⟨a11, c11, rfl, ho11, hb11⟩
        have s11 := hb11.size
        have h011 : Below w.heap.size w w11 := h09.trans (hb11.mono (by omega))
        go_wp2_with fail
        refine (copied_any b m cb (ys.take m) _ ((HB.out.kept h011).take m (by omega)) NB.out (by omega)).mono ?_
        rintro e w12 ⟨a12, c12, rfl, ho12, hb12⟩
        have s12 := hb12.size
        have h012 : Below w.heap.size w w12 := h011.trans (hb12.mono (by omega))
        have R11 : Row w12 a11 m (xs.take m) := (ho11.kept hb12).toRow
        have R12 : Row w12 a12 m (ys.take m) := ho12.toRow
        have N11 : Hid (a11 = none → c11 = 0) := ho11.nil
        have LX : Hid (xs.length = n) := HA.out.len
        have LY : Hid (ys.length = m) := HB.out.len
        clear hb1 hb2 hb3 hb4 hb5 hb6 hb8 hb9 hb11 hb12 ho1 ho2 ho3 ho4 ho5 ho6 ho8 ho9 ho11 ho12 h03 h04 h05 h06 h08 h09 h011
        have HT : Hid ((xs.take m).length = (ys.take m).length) := by show _ = _; rw [List.length_take, List.length_take, LX.out, LY.out]; omega
        have HTX : Hid ((xs.take m).length = m) := by show _ = _; rw [List.length_take, LX.out]; omega
        have hmk : ∀ W : World, (Instr.makeSlice 22 (.int .i64 (m : Int)) (.int .i64 (m : Int))).run Try.prog W = .ok (.slice (some ⟨W.heap.size, 0, none⟩) m m) (W.alloc (.cells (madeCells #[Value.int .u8 0] m) 5)) := fun W => mk_run W m (by omega)
        go_wp2_with fail
        go_region_with (first
          | (go_at_call 12; refine (lives_any _).mono ?_; rintro e wL ⟨rfl, hbL⟩)
          | (go_at_call_of 18 (#[Value.slice a11 m c11, Value.slice a12 m c12] : Array Value); refine (implXor_any a11 a12 m m c11 c12 (xs.take m) (ys.take m) _ (R11.drew.kept hbL) (R12.drew.kept hbL) (by omega) (by omega)).mono ?_; rintro e wX ⟨aX, cX, rfl, hoX, hbX⟩)
          | (go_at_call_of 18 (#[Value.slice a12 m c12, Value.slice a11 m c11] : Array Value); refine (implXor_any a12 a11 m m c12 c11 (ys.take m) (xs.take m) _ ((R12.drew.kept hbL).kept hbX) ((R11.drew.kept hbL).kept hbX) (by omega) (by omega)).mono ?_; rintro e wY ⟨aY, cY, rfl, hoY, hbY⟩)
          | (go_at_call_of 15 (#[Value.slice aX m cX, Value.slice aY m cY] : Array Value); refine (sameBytes_any aX aY m m cX cY _ _ _ (hoX.kept hbY).toRow hoY.toRow).mono ?_; rintro e w' ⟨rfl, hw'⟩; subst hw'; rw [decide_eq_true (xorL_comm (xs.take m) (ys.take m) HT.out)])
          | (go_at_call 11; refine (copied_any a11 m c11 (xs.take m) _ ?_ N11.out (by omega)).mono ?_; (first | exact ((R11.drew.kept hbL).kept hbX).kept hbY | exact (((R11.drew.kept hbL).kept hbX).kept hbY).kept ((Below.refl _ _).alloc (Nat.le_refl _) _)); rintro e wC ⟨aC, cC, rfl, hoC, hbC⟩)
          | (go_at_call_of 18 (#[Value.slice a11 m c11, Value.slice aC m cC] : Array Value); refine (implXor_any a11 aC m m c11 cC (xs.take m) (xs.take m) _ ?_ ?_ (by omega) (by omega)).mono ?_; (first | exact (((R11.drew.kept hbL).kept hbX).kept hbY).kept hbC | exact ((((R11.drew.kept hbL).kept hbX).kept hbY).kept ((Below.refl _ _).alloc (Nat.le_refl _) _)).kept hbC | exact ((((R11.drew.kept hbL).kept hbX).kept hbY).kept hbC).kept ((Below.refl _ _).alloc (Nat.le_refl _) _)); (first | exact hoC.toRow | exact hoC.toRow.kept ((Below.refl _ _).alloc (Nat.le_refl _) _)); rintro e wZ ⟨aZ, cZ, rfl, hoZ, hbZ⟩; rw [xorL_self _ (take_bytes BX m), HTX.out] at hoZ)
          | (go_at_call 15; (refine (sameBytes_any aZ _ m m cZ m (List.replicate m 0) (List.replicate m 0) _ ?_ ?_).mono ?_); (first | exact hoZ.toRow | exact hoZ.toRow.kept ((Below.refl _ _).alloc (Nat.le_refl _) _)); (first | exact made_row _ m (by omega) | exact (made_row _ m (by omega)).kept hbZ | exact ((made_row _ m (by omega)).kept hbC).kept hbZ); rintro e w' ⟨rfl, hw'⟩; subst hw'; rw [decide_eq_true (rfl : List.replicate m (0 : Int) = List.replicate m 0)]))
        all_goals
          have q0 := h012.size
          have bL : Below w.heap.size w wL := h012.drew.trans (hbL.mono q0)
          have qL := bL.size
          have bX := bL.trans (hbX.mono qL)
          have qX := bX.size
          have bY := bX.trans (hbY.mono qX)
          have qY := bY.size
          clear hmk
          go_wp2
          go_ret
          refine ⟨rfl, ?_⟩
          first
            | exact ((bY.trans (hbC.mono qY)).trans (hbZ.mono (by have := hbC.size; omega))).alloc (by have := hbC.size; have := hbZ.size; omega) _
            | exact ((bY.trans (hbC.mono qY)).alloc (by have := hbC.size; omega) _).trans (hbZ.mono (by have := hbC.size; simp; omega))
            | exact ((bY.alloc qY _).trans (hbC.mono (by simp; omega))).trans (hbZ.mono (by have := hbC.size; simp at this; omega))
      · refine (copied_any a n ca (xs.take n) _ ((HA.out.kept h09).take n (by omega)) NA.out (by omega)).mono ?_
        rintro e w11 ⟨a11, c11, rfl, ho11, hb11⟩
        have s11 := hb11.size
        have h011 : Below w.heap.size w w11 := h09.trans (hb11.mono (by omega))
        go_wp2_with fail
        refine (copied_any b n cb (ys.take n) _ ((HB.out.kept h011).take n (by omega)) NB.out (by omega)).mono ?_
        rintro e w12 ⟨a12, c12, rfl, ho12, hb12⟩
        have s12 := hb12.size
        have h012 : Below w.heap.size w w12 := h011.trans (hb12.mono (by omega))
        have R11 : Row w12 a11 n (xs.take n) := (ho11.kept hb12).toRow
        have R12 : Row w12 a12 n (ys.take n) := ho12.toRow
        have N11 : Hid (a11 = none → c11 = 0) := ho11.nil
        have LX : Hid (xs.length = n) := HA.out.len
        have LY : Hid (ys.length = m) := HB.out.len
        clear hb1 hb2 hb3 hb4 hb5 hb6 hb8 hb9 hb11 hb12 ho1 ho2 ho3 ho4 ho5 ho6 ho8 ho9 ho11 ho12 h03 h04 h05 h06 h08 h09 h011
        have HT : Hid ((xs.take n).length = (ys.take n).length) := by show _ = _; rw [List.length_take, List.length_take, LX.out, LY.out]; omega
        have HTX : Hid ((xs.take n).length = n) := by show _ = _; rw [List.length_take, LX.out]; omega
        have hmk : ∀ W : World, (Instr.makeSlice 22 (.int .i64 (n : Int)) (.int .i64 (n : Int))).run Try.prog W = .ok (.slice (some ⟨W.heap.size, 0, none⟩) n n) (W.alloc (.cells (madeCells #[Value.int .u8 0] n) 5)) := fun W => mk_run W n (by omega)
        go_wp2_with fail
        go_region_with (first
          | (go_at_call 12; refine (lives_any _).mono ?_; rintro e wL ⟨rfl, hbL⟩)
          | (go_at_call_of 18 (#[Value.slice a11 n c11, Value.slice a12 n c12] : Array Value); refine (implXor_any a11 a12 n n c11 c12 (xs.take n) (ys.take n) _ (R11.drew.kept hbL) (R12.drew.kept hbL) (by omega) (by omega)).mono ?_; rintro e wX ⟨aX, cX, rfl, hoX, hbX⟩)
          | (go_at_call_of 18 (#[Value.slice a12 n c12, Value.slice a11 n c11] : Array Value); refine (implXor_any a12 a11 n n c12 c11 (ys.take n) (xs.take n) _ ((R12.drew.kept hbL).kept hbX) ((R11.drew.kept hbL).kept hbX) (by omega) (by omega)).mono ?_; rintro e wY ⟨aY, cY, rfl, hoY, hbY⟩)
          | (go_at_call_of 15 (#[Value.slice aX n cX, Value.slice aY n cY] : Array Value); refine (sameBytes_any aX aY n n cX cY _ _ _ (hoX.kept hbY).toRow hoY.toRow).mono ?_; rintro e w' ⟨rfl, hw'⟩; subst hw'; rw [decide_eq_true (xorL_comm (xs.take n) (ys.take n) HT.out)])
          | (go_at_call 11; refine (copied_any a11 n c11 (xs.take n) _ ?_ N11.out (by omega)).mono ?_; (first | exact ((R11.drew.kept hbL).kept hbX).kept hbY | exact (((R11.drew.kept hbL).kept hbX).kept hbY).kept ((Below.refl _ _).alloc (Nat.le_refl _) _)); rintro e wC ⟨aC, cC, rfl, hoC, hbC⟩)
          | (go_at_call_of 18 (#[Value.slice a11 n c11, Value.slice aC n cC] : Array Value); refine (implXor_any a11 aC n n c11 cC (xs.take n) (xs.take n) _ ?_ ?_ (by omega) (by omega)).mono ?_; (first | exact (((R11.drew.kept hbL).kept hbX).kept hbY).kept hbC | exact ((((R11.drew.kept hbL).kept hbX).kept hbY).kept ((Below.refl _ _).alloc (Nat.le_refl _) _)).kept hbC | exact ((((R11.drew.kept hbL).kept hbX).kept hbY).kept hbC).kept ((Below.refl _ _).alloc (Nat.le_refl _) _)); (first | exact hoC.toRow | exact hoC.toRow.kept ((Below.refl _ _).alloc (Nat.le_refl _) _)); rintro e wZ ⟨aZ, cZ, rfl, hoZ, hbZ⟩; rw [xorL_self _ (take_bytes BX n), HTX.out] at hoZ)
          | (go_at_call 15; (refine (sameBytes_any aZ _ n n cZ n (List.replicate n 0) (List.replicate n 0) _ ?_ ?_).mono ?_); (first | exact hoZ.toRow | exact hoZ.toRow.kept ((Below.refl _ _).alloc (Nat.le_refl _) _)); (first | exact made_row _ n (by omega) | exact (made_row _ n (by omega)).kept hbZ | exact ((made_row _ n (by omega)).kept hbC).kept hbZ); rintro e w' ⟨rfl, hw'⟩; subst hw'; rw [decide_eq_true (rfl : List.replicate n (0 : Int) = List.replicate n 0)]))
        all_goals
          have q0 := h012.size
          have bL : Below w.heap.size w wL := h012.drew.trans (hbL.mono q0)
          have qL := bL.size
          have bX := bL.trans (hbX.mono qL)
          have qX := bX.size
          have bY := bX.trans (hbY.mono qX)
          have qY := bY.size
          clear hmk
          go_wp2
          go_ret
          refine ⟨rfl, ?_⟩
          first
            | exact ((bY.trans (hbC.mono qY)).trans (hbZ.mono (by have := hbC.size; omega))).alloc (by have := hbC.size; have := hbZ.size; omega) _
            | exact ((bY.trans (hbC.mono qY)).alloc (by have := hbC.size; omega) _).trans (hbZ.mono (by have := hbC.size; simp; omega))
            | exact ((bY.alloc qY _).trans (hbC.mono (by simp; omega))).trans (hbZ.mono (by have := hbC.size; simp at this; omega))

end Go.Proofs.Ytmmdklaajejeiaa
