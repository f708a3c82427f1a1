import Derived.Test.YtochaopoggempaaEM1
namespace Go.Proofs.Ytochaopoggempaa
open Go.RowKit

set_option maxRecDepth 10000 in
set_option maxHeartbeats 1000000 in
theorem lawDigestBy_walk (alg : Int) (a : Option Addr) (n cap : Nat) (zs : List Int) (w : World) (hr : IsRow .u8 w a n cap zs) :
    Calls Try.prog 3 #[.int .i64 alg, .slice a n cap] w fun e w' => e = .returned (.bool true) ∧ Below w.heap.size w w' := by
  obtain ⟨hrow, hmax⟩ := hr.row
  obtain ⟨bs, hbs⟩ : ∃ bs, bs = zs.take n := ⟨_, rfl⟩
  rw [← hbs] at hrow
  clear hbs hr
  unfold maxLen at hmax
  have H0 : Hid (Row w a n bs) := hrow
  clear hrow
  by_cases hbig : 1048576 < n
  · go_enter Try.func3, Try.ntmps3
    go_wp2
    go_ret
    exact ⟨rfl, Below.refl _ _⟩
  · have hm : n ≤ maxLen := by unfold maxLen; omega
    go_enter Try.func3, Try.ntmps3
    go_wp2_with fail
    refine (toByteS_any a n cap bs _ H0.out (by omega)).mono ?_
    rintro e w1 ⟨a1, rfl, ho1, hb1⟩
    have hn1 : a1 = none → n = 0 := ho1.nil
    go_wp2_with fail
    refine (specDigestBy_any alg a1 n n bs _ ho1.toRow (by omega) hn1).mono ?_
    rintro e w2 ⟨rfl, hb2⟩
    have B2 := keepT hb1 hb2
    clear hb1 hb2 ho1 hn1
    go_wp2_with fail
    refine (toByteS_any a n cap bs _ (H0.out.kept B2) (by omega)).mono ?_
    rintro e w3 ⟨a3, rfl, ho3, hb3⟩
    have B3 := keepT B2 hb3
    have hn1 : a3 = none → n = 0 := ho3.nil
    have HO3 : Hid (Row w3 a3 n bs) := ho3.toRow
    clear hb3 ho3
    go_wp2_with fail
    refine (implDigestBy_any alg a3 n n bs _ HO3.out (by omega) hn1).mono ?_
    rintro e w4 ⟨rfl, hb4⟩
    have B4 := keepT B3 hb4
    have HO4 : Hid (Row w4 a3 n bs) := HO3.out.kept hb4
    have t1 : (dgR alg bs != dgR alg bs) = false := by simp
    clear hn1
    go_wp2_with fail
    refine (toByteS_any a n cap bs _ (H0.out.kept B4) (by omega)).mono ?_
    rintro e w5 ⟨a5, rfl, ho5, hb5⟩
    go_wp2_with fail
    refine (eqByteS_any a3 a5 n n n n bs bs _ (HO4.out.kept hb5) ho5.toRow hm hm).mono ?_
    rintro e w6 ⟨rfl, hb6⟩
    rw [decide_eq_true (rfl : bs = bs)]
    go_wp2_with fail
    go_ret
    exact ⟨rfl, keepT B4 (keepT hb5 hb6)⟩

end Go.Proofs.Ytochaopoggempaa
