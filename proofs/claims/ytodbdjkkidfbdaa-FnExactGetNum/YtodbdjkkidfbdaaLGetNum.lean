import Derived.Test.YtodbdjkkidfbdaaW5
namespace Go.Proofs.Ytodbdjkkidfbdaa
open Go.RowKit

set_option maxHeartbeats 1000000 in
theorem lawGetNum_walk (a : Option Addr) (n cap : Nat) (zs : List Int) (p : Int) (w : World) (hr : IsRow .u8 w a n cap zs) :
    Calls Try.prog 6 #[.slice a n cap, .int .i64 p] w fun e w' => e = .returned (.bool true) ∧ Below w.heap.size w w' := by
  obtain ⟨hrow, hmax⟩ := hr.row
  obtain ⟨bs, hbs⟩ : ∃ bs, bs = zs.take n := ⟨_, rfl⟩
  rw [← hbs] at hrow
  clear hbs hr
  unfold maxLen at hmax
  have H0 : Hid (Row w a n bs) := hrow
  clear hrow
  by_cases hbig : 1048576 < n
  · go_enter Try.func6, Try.ntmps6
    go_wp2
    go_ret
    exact ⟨rfl, Below.refl _ _⟩
  · have hm : n ≤ maxLen := by unfold maxLen; omega
    obtain ⟨t0, t1, t2, ht⟩ : ∃ t0 t1 t2, trip (getN bs p) = .tuple #[.int .i64 t0, .int .i64 t1, .int .i64 t2] := ⟨_, _, _, rfl⟩
    have HT : Hid (trip (getN bs p) = .tuple #[.int .i64 t0, .int .i64 t1, .int .i64 t2]) := ht
    clear ht
    have e0 : (t0 != t0) = false := by simp
    have e1 : (t1 != t1) = false := by simp
    have e2 : (t2 != t2) = false := by simp
    go_enter Try.func6, Try.ntmps6
    go_wp2_with fail
    refine (toByteS_any a n cap bs _ H0.out (by omega)).mono ?_
    rintro e w1 ⟨a1, rfl, ho1, hb1⟩
    go_wp2_with fail
    refine (specGetNum_any a1 n n bs p _ ho1.toRow (by omega)).mono ?_
    rintro e w2 ⟨rfl, hw2⟩
    subst hw2
    rw [HT.out]
    go_wp2_with fail
    refine (toByteS_any a n cap bs _ (H0.out.kept hb1) (by omega)).mono ?_
    rintro e w3 ⟨a3, rfl, ho3, hb3⟩
    go_wp2_with fail
    refine (implGetNum_any a3 n n bs p _ ho3.toRow (by omega)).mono ?_
    rintro e w4 ⟨rfl, hw4⟩
    subst hw4
    rw [HT.out]
    go_wp2_with fail
    refine (toByteS_any a n cap bs _ ((H0.out.kept hb1).kept hb3) (by omega)).mono ?_
    rintro e w5 ⟨a5, rfl, ho5, hb5⟩
    go_wp2_with fail
    refine (eqByteS_any a3 a5 n n n n bs bs _ (ho3.kept hb5).toRow ho5.toRow hm hm).mono ?_
    rintro e w6 ⟨rfl, hb6⟩
    rw [decide_eq_true (rfl : bs = bs)]
    go_wp2_with fail
    go_ret
    refine ⟨rfl, ?_⟩
    have q1 := hb1.size
    have q3 := hb3.size
    have q5 := hb5.size
    exact hb1.trans ((hb3.mono q1).trans ((hb5.mono (by omega)).trans (hb6.mono (by omega))))

end Go.Proofs.Ytodbdjkkidfbdaa
