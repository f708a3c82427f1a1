import Derived.Test.YtodbdjkkidfbdabWXor
import Derived.Test.YtodbdjkkidfbdabWMark
namespace Go.Proofs.Ytodbdjkkidfbdab
open Go.RowKit

theorem xorL_len (xs ys : List Int) : (xorL xs ys).length = xs.length := by
  unfold xorL
  split
  · rfl
  · exact xorTo_len _ _ _

set_option maxHeartbeats 2000000 in
theorem lawXor_walk (a b : Option Addr) (n m ca cb : Nat) (z0 z1 : List Int) (w : World) (hr0 : IsRow .u8 w a n ca z0) (hr1 : IsRow .u8 w b m cb z1) :
    Calls Try.prog 3 #[.slice a n ca, .slice b m cb] w fun e w' => e = .returned (.bool true) ∧ Below w.heap.size w w' := by
  obtain ⟨hrow0, hmax0⟩ := hr0.row
  obtain ⟨hrow1, hmax1⟩ := hr1.row
  obtain ⟨xs, hxs⟩ : ∃ xs, xs = z0.take n := ⟨_, rfl⟩
  obtain ⟨ys, hys⟩ : ∃ ys, ys = z1.take m := ⟨_, rfl⟩
  rw [← hxs] at hrow0
  rw [← hys] at hrow1
  clear hxs hr0 hys hr1
  unfold maxLen at hmax0 hmax1
  have HA : Hid (Row w a n xs) := hrow0
  have HB : Hid (Row w b m ys) := hrow1
  have IA : Hid (In a n 0 w.heap.size) := hrow0.in_
  have IB : Hid (In b m 0 w.heap.size) := hrow1.in_
  clear hrow0 hrow1
  by_cases hbig : 1048576 < n
  · go_enter Try.func3, Try.ntmps3
    go_wp2
    go_ret
    exact ⟨rfl, Below.refl _ _⟩
  · by_cases hbig1 : 1048576 < m
    · go_enter Try.func3, Try.ntmps3
      go_wp2
      go_ret
      exact ⟨rfl, Below.refl _ _⟩
    · have hm : n ≤ maxLen := by unfold maxLen; omega
      have hm' : m ≤ maxLen := by unfold maxLen; omega
      obtain ⟨rs, hrs⟩ : ∃ rs, rs = xorL xs ys := ⟨_, rfl⟩
      have HR : Hid (rs = xorL xs ys) := hrs
      clear hrs
      go_enter Try.func3, Try.ntmps3
      go_wp2_with fail
      refine (toByteS_any a n ca xs _ HA.out (by omega)).mono ?_
      rintro e w1 ⟨a1, rfl, ho1, hb1⟩
      go_wp2_with fail
      refine (toByteS_any b m cb ys _ (HB.out.kept hb1) (by omega)).mono ?_
      rintro e w2 ⟨a2, rfl, ho2, hb2⟩
      go_wp2_with fail
      refine (specXor_any a1 a2 n m n m xs ys _ (ho1.kept hb2).toRow ho2.toRow (fun e => by subst e; exact (row_none ho1.toRow).1) (by omega) (by omega)).mono ?_
      rintro e w3 ⟨a3, c3, rfl, ho3, hb3⟩
      rw [← HR.out] at ho3
      go_wp2_with fail
      refine (toByteS_any a n ca xs _ (((HA.out.kept hb1).kept hb2).kept hb3) (by omega)).mono ?_
      rintro e w4 ⟨a4, rfl, ho4, hb4⟩
      go_wp2_with fail
      refine (toByteS_any b m cb ys _ ((((HB.out.kept hb1).kept hb2).kept hb3).kept hb4) (by omega)).mono ?_
      rintro e w5 ⟨a5, rfl, ho5, hb5⟩
      go_wp2_with fail
      refine (implXor_any a4 a5 n m n m xs ys _ (ho4.kept hb5).toRow ho5.toRow (by omega) (by omega)).mono ?_
      rintro e w6 ⟨a6, c6, rfl, ho6, hb6⟩
      rw [← HR.out] at ho6
      go_wp2_with fail
      have hr3 := (((ho3.kept hb4).kept hb5).kept hb6).toRow
      refine (eqByteS_any a6 a3 n n c6 c3 rs rs _ ho6.toRow hr3 hm hm).mono ?_
      rintro e w7 ⟨rfl, hb7⟩
      rw [decide_eq_true (rfl : rs = rs)]
      go_wp2_with fail
      have hA7 := ((((((HA.out.kept hb1).kept hb2).kept hb3).kept hb4).kept hb5).kept hb6).kept hb7
      have hB7 := ((((((HB.out.kept hb1).kept hb2).kept hb3).kept hb4).kept hb5).kept hb6).kept hb7
      refine (toByteS_any a n ca xs _ hA7 (by omega)).mono ?_
      rintro e w8 ⟨a8, rfl, ho8, hb8⟩
      go_wp2_with fail
      have h4 := (((ho4.kept hb5).kept hb6).kept hb7).kept hb8
      refine (eqByteS_any a4 a8 n n n n xs xs _ h4.toRow ho8.toRow hm hm).mono ?_
      rintro e w9 ⟨rfl, hb9⟩
      rw [decide_eq_true (rfl : xs = xs)]
      go_wp2_with fail
      refine (toByteS_any b m cb ys _ ((hB7.kept hb8).kept hb9) (by omega)).mono ?_
      rintro e w10 ⟨a10, rfl, ho10, hb10⟩
      go_wp2_with fail
      have h5 := ((((ho5.kept hb6).kept hb7).kept hb8).kept hb9).kept hb10
      refine (eqByteS_any a5 a10 m m m m ys ys _ h5.toRow ho10.toRow hm' hm').mono ?_
      rintro e w11 ⟨rfl, hb11⟩
      rw [decide_eq_true (rfl : ys = ys)]
      go_wp2_with fail
      have h4' := ((h4.kept hb9).kept hb10).kept hb11
      have h5' := h5.kept hb11
      refine (markByteS_t w3.heap.size a4 n n 1 xs _ (fun _ => h4') (by omega) (by decide) (by decide)).mono ?_
      rintro e w12 ⟨rfl, ho12, hr12, ht12⟩
      have T12 := ht12 _ _ ho4.in_
      go_wp2_with fail
      refine (markByteS_t w4.heap.size a5 m m (1 + n) ys _ (fun hp => h5'.touch ho5.in_ (.inr (Nat.le_refl _)) T12 hp) (by omega) (by omega) (by omega)).mono ?_
      rintro e w13 ⟨rfl, ho13, hr13, ht13⟩
      have T13 := ht13 _ _ ho5.in_
      have s1 := hb1.size
      have s2 := hb2.size
      have s3 := hb3.size
      have s4 := hb4.size
      have s5 := hb5.size
      have s6 := hb6.size
      have T13' : Touch w3.heap.size w5.heap.size w11 w13 := (T12.mono (Nat.le_refl _) (by omega)).trans (T13.mono (by omega) (Nat.le_refl _))
      have g13 : Row w13 a6 n rs := (((((ho6.kept hb7).kept hb8).kept hb9).kept hb10).kept hb11).toRow.touch ho6.in_ (.inr (Nat.le_refl _)) T13'
      have g13o : 0 < n → Own w5.heap.size w13 a6 n c6 rs := fun hp => (((((ho6.kept hb7).kept hb8).kept hb9).kept hb10).kept hb11).touch ho6.in_ (.inr (Nat.le_refl _)) T13' hp
      have r13 : Row w13 a3 n rs := (((((hr3.kept hb7).kept hb8).kept hb9).kept hb10).kept hb11).touch ho3.in_ (.inl (Nat.le_refl _)) T13'
      have A13 : Row w13 a n xs := ((((hA7.kept hb8).kept hb9).kept hb10).kept hb11).touch IA.out (.inl (by omega)) T13'
      have B13 : Row w13 b m ys := ((((hB7.kept hb8).kept hb9).kept hb10).kept hb11).touch IB.out (.inl (by omega)) T13'
      clear ho12 hr12 ht12 ho13 hr13 ht13 h4 h5 h4' h5' hA7 hB7
      go_wp2_with fail
      refine (eqByteS_any a6 a3 n n c6 c3 rs rs _ g13 r13 hm hm).mono ?_
      rintro e w14 ⟨rfl, hb14⟩
      rw [decide_eq_true (rfl : rs = rs)]
      go_wp2_with fail
      refine (markByteS_t w5.heap.size a6 n c6 1 rs _ (fun hp => (g13o hp).kept hb14) (by omega) (by decide) (by decide)).mono ?_
      rintro e w15 ⟨rfl, ho15, hr15, ht15⟩
      have T15 := ht15 _ _ ho6.in_
      go_wp2_with fail
      refine (heldByteS_int a6 n c6 1 _ hr15 (by omega) (by decide) (by decide)).mono ?_
      rintro e w16 ⟨rfl, hw16⟩
      subst hw16
      have t1 : ((1 : Int) + (n : Int) != 1 + (n : Int)) = false := by simp
      have A15 := (A13.kept hb14).touch IA.out (.inl (by omega)) T15
      have B15 := (B13.kept hb14).touch IB.out (.inl (by omega)) T15
      have r15 := (r13.kept hb14).touch ho3.in_ (.inl (by omega)) T15
      go_wp2_with fail
      refine (toByteS_any a n ca xs _ A15 (by omega)).mono ?_
      rintro e w17 ⟨a17, rfl, ho17, hb17⟩
      go_wp2_with fail
      refine (toByteS_any b m cb ys _ (B15.kept hb17) (by omega)).mono ?_
      rintro e w18 ⟨a18, rfl, ho18, hb18⟩
      go_wp2_with fail
      refine (implXor_any a17 a18 n m n m xs ys _ (ho17.kept hb18).toRow ho18.toRow (by omega) (by omega)).mono ?_
      rintro e w19 ⟨a19, c19, rfl, ho19, hb19⟩
      rw [← HR.out] at ho19
      go_wp2_with fail
      refine (eqByteS_any a19 a3 n n c19 c3 rs rs _ ho19.toRow (((r15.kept hb17).kept hb18).kept hb19) hm hm).mono ?_
      rintro e w20 ⟨rfl, hb20⟩
      rw [decide_eq_true (rfl : rs = rs)]
      go_wp2_with fail
      refine (heldByteS_int a6 n c6 1 _ ((((hr15.kept hb17).kept hb18).kept hb19).kept hb20) (by omega) (by decide) (by decide)).mono ?_
      rintro e w21 ⟨rfl, hw21⟩
      subst hw21
      go_wp2_with fail
      go_ret
      refine ⟨rfl, ?_⟩
      have b1 : Below w.heap.size w w11 := hb1.trans ((hb2.mono (by omega)).trans ((hb3.mono (by omega)).trans ((hb4.mono (by omega)).trans ((hb5.mono (by omega)).trans ((hb6.mono (by omega)).trans ((hb7.mono (by omega)).trans ((hb8.mono (by have := hb7.size; omega)).trans ((hb9.mono (by have := hb7.size; have := hb8.size; omega)).trans ((hb10.mono (by have := hb7.size; have := hb8.size; have := hb9.size; omega)).trans (hb11.mono (by have := hb7.size; have := hb8.size; have := hb9.size; have := hb10.size; omega)))))))))))
      have z11 := b1.size
      have b2 : Below w.heap.size w11 w13 := T13'.below (by omega) z11
      have z13 := b2.size
      have b3 : Below w.heap.size w13 w14 := hb14.mono (by omega)
      have z14 := b3.size
      have b4 : Below w.heap.size w14 _ := T15.below (by omega) (by omega)
      have z15 := b4.size
      exact b1.trans (b2.trans (b3.trans (b4.trans ((hb17.mono (by omega)).trans ((hb18.mono (by have := hb17.size; omega)).trans ((hb19.mono (by have := hb17.size; have := hb18.size; omega)).trans (hb20.mono (by have := hb17.size; have := hb18.size; have := hb19.size; omega))))))))

end Go.Proofs.Ytodbdjkkidfbdab
