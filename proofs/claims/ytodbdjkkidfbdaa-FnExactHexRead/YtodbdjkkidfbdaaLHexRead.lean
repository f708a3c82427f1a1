import Derived.Test.YtodbdjkkidfbdaaW6
namespace Go.Proofs.Ytodbdjkkidfbdaa
open Go.RowKit

set_option maxHeartbeats 1000000 in
theorem lawHexRead_walk (s : ByteArray) (hs : s.size ≤ maxLen) (w : World) :
    Calls Try.prog 8 #[.string s] w fun e w' => e = .returned (.bool true) ∧ Below w.heap.size w w' := by
  unfold maxLen at hs
  by_cases hbig : 1048576 < s.size
  · go_enter Try.func8, Try.ntmps8
    go_wp2
    go_ret
    exact ⟨rfl, Below.refl _ _⟩
  · have hm : 1048576 ≤ maxLen := by unfold maxLen; omega
    have HS : Hid (s.size ≤ 1048576) := by show _ ≤ _; omega
    go_enter Try.func8, Try.ntmps8
    go_wp2_with fail
    refine (specHexRead_any s _ HS.out).mono ?_
    rintro e w1 ⟨a, n, cap, bs, ok, rfl, hr1, ho1, hb1⟩
    have hn : n ≤ 1048576 := by
      rw [← ho1.length]
      rcases hr1 with ⟨_, _, _, rfl⟩ | ⟨_, rfl, _⟩
      · rw [hexL_len]; omega
      · simp
    have HR1 : Hid (hexRes s bs ok) := hr1
    clear hr1
    have t0 : (ok != ok) = false := by simp
    go_wp2_with fail
    refine (implHexRead_any s _ HS.out).mono ?_
    rintro e w2 ⟨a2, n2, cap2, bs2, ok2, rfl, hr2, ho2, hb2⟩
    obtain ⟨e1, e2⟩ := hexRes_one hr2 HR1.out
    subst e1
    subst e2
    have hl1 := ho1.length
    have hl2 := ho2.length
    have hnn : n2 = n := by omega
    subst hnn
    clear hl1 hl2 hr2
    go_wp2_with fail
    refine (eqByteS_any a2 a n2 n2 cap2 cap bs2 bs2 _ ho2.toRow (ho1.kept hb2).toRow (by omega) (by omega)).mono ?_
    rintro e w3 ⟨rfl, hb3⟩
    rw [decide_eq_true (rfl : bs2 = bs2)]
    go_wp2_with fail
    have ho2' := ho2.kept hb3
    refine (markByteS_int w1.heap.size a2 n2 cap2 1 bs2 _ ho2' (by omega) (by decide) (by decide)).mono ?_
    rintro e w4 ⟨rfl, ho4, hg4⟩
    have hr1 : Row w4 a n2 bs2 := ((ho1.kept hb2).kept hb3).toRow.grown (ho1.toRow.under (Nat.le_refl _)) ho2' hg4
    have hb14 : Below w1.heap.size w1 w4 := ((hb2.trans (hb3.mono hb2.size)).grown hg4 (by have := hb2.size; have := hb3.size; omega) (fun k hk => (ho2'.row.lt k hk).1))
    go_wp2_with fail
    refine (heldByteS_int a2 n2 cap2 1 _ ho4.toRow (by omega) (by decide) (by decide)).mono ?_
    rintro e w5 ⟨rfl, hw5⟩
    subst hw5
    have t1 : ((1 : Int) + (n2 : Int) != 1 + (n2 : Int)) = false := by simp
    go_wp2_with fail
    refine (implHexRead_any s _ HS.out).mono ?_
    rintro e w6 ⟨a6, n6, cap6, bs6, ok6, rfl, hr6, ho6, hb6⟩
    obtain ⟨e1, e2⟩ := hexRes_one hr6 HR1.out
    subst e1
    subst e2
    have hl6 := ho6.length
    have hl4 := ho1.length
    have hnn : n6 = n2 := by omega
    subst hnn
    clear hl6 hl4 hr6
    go_wp2_with fail
    refine (eqByteS_any a6 a n6 n6 cap6 cap bs6 bs6 _ ho6.toRow (hr1.kept hb6) (by omega) (by omega)).mono ?_
    rintro e w7 ⟨rfl, hb7⟩
    rw [decide_eq_true (rfl : bs6 = bs6)]
    go_wp2_with fail
    refine (heldByteS_int a2 n6 cap2 1 _ ((ho4.toRow.kept hb6).kept hb7) (by omega) (by decide) (by decide)).mono ?_
    rintro e w8 ⟨rfl, hw8⟩
    subst hw8
    go_wp2_with fail
    go_ret
    refine ⟨rfl, ?_⟩
    have q1 := hb1.size
    have q2 := hb14.size
    have q3 := hb6.size
    exact hb1.trans ((hb14.mono q1).trans ((hb6.mono (by omega)).trans (hb7.mono (by omega))))

end Go.Proofs.Ytodbdjkkidfbdaa
