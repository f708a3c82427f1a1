import Derived.Test.YtodbdjkkidfbdaaW7
namespace Go.Proofs.Ytodbdjkkidfbdaa
open Go.RowKit

set_option maxHeartbeats 1000000 in
theorem lawHexText_walk (a : Option Addr) (n cap : Nat) (zs : List Int) (w : World) (hr : IsRow .u8 w a n cap zs) :
    Calls Try.prog 7 #[.slice a n cap] w fun e w' => e = .returned (.bool true) ∧ Below w.heap.size w w' := by
  obtain ⟨hrow, hmax⟩ := hr.row
  obtain ⟨bs, hbs⟩ : ∃ bs, bs = zs.take n := ⟨_, rfl⟩
  rw [← hbs] at hrow
  clear hbs hr
  unfold maxLen at hmax
  have H0 : Hid (Row w a n bs) := hrow
  clear hrow
  by_cases hbig : 1048576 < n
  · go_enter Try.func7, Try.ntmps7
    go_wp2
    go_ret
    exact ⟨rfl, Below.refl _ _⟩
  · have hm : n ≤ maxLen := by unfold maxLen; omega
    obtain ⟨t, ht⟩ : ∃ t, t = strOfNums (hexT bs) := ⟨_, rfl⟩
    have HT : Hid (t = strOfNums (hexT bs)) := ht
    clear ht
    go_enter Try.func7, Try.ntmps7
    go_wp2_with fail
    refine (toByteS_any a n cap bs _ H0.out (by omega)).mono ?_
    rintro e w1 ⟨a1, rfl, ho1, hb1⟩
    go_wp2_with fail
    refine (specHexText_any a1 n n bs _ ho1.toRow (by omega)).mono ?_
    rintro e w2 ⟨rfl, hb2⟩
    rw [← HT.out]
    go_wp2_with fail
    refine (toByteS_any a n cap bs _ ((H0.out.kept hb1).kept hb2) (by omega)).mono ?_
    rintro e w3 ⟨a3, rfl, ho3, hb3⟩
    go_wp2_with fail
    refine (implHexText_any a3 n n bs _ ho3.toRow (by omega)).mono ?_
    rintro e w4 ⟨rfl, hb4⟩
    rw [← HT.out]
    go_wp2_with fail
    refine (toByteS_any a n cap bs _ ((((H0.out.kept hb1).kept hb2).kept hb3).kept hb4) (by omega)).mono ?_
    rintro e w5 ⟨a5, rfl, ho5, hb5⟩
    go_wp2_with fail
    refine (eqByteS_any a3 a5 n n n n bs bs _ ((ho3.kept hb4).kept hb5).toRow ho5.toRow hm hm).mono ?_
    rintro e w6 ⟨rfl, hb6⟩
    rw [decide_eq_true (rfl : bs = bs)]
    go_wp2_with fail
    go_ret
    refine ⟨rfl, ?_⟩
    have q1 := hb1.size
    have q2 := hb2.size
    have q3 := hb3.size
    have q4 := hb4.size
    have q5 := hb5.size
    exact hb1.trans ((hb2.mono q1).trans ((hb3.mono (by omega)).trans ((hb4.mono (by omega)).trans ((hb5.mono (by omega)).trans (hb6.mono (by omega))))))

end Go.Proofs.Ytodbdjkkidfbdaa
