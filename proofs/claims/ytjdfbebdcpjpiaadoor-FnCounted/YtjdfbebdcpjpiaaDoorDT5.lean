import Derived.Test.YtjdfbebdcpjpiaaDoorDT4
namespace Go.Proofs.YtjdfbebdcpjpiaaDoor
open Go.RowKit

theorem year_start {d : Int} (h0 : 0 ≤ d) : yearI d (1970 + d / 366) (d - dAhead (1970 + d / 366)) := by
  have h := ysum_bd (d / 366).toNat
  rw [ysum_is, show (1970 : Int) + ((d / 366).toNat : Int) = 1970 + d / 366 by omega] at h
  exact ⟨by omega, rfl, by omega⟩

set_option maxRecDepth 10000 in
set_option maxHeartbeats 4000000 in
theorem dateOf_any (d : Int) (w : World) (hT : TabW w) (h0 : 0 ≤ d) (h1 : d ≤ 2932896) :
    Calls Tryd.prog 34 #[.int .i64 d] w fun e w' => ∃ y m z, e = .returned (.tuple #[.int .i64 y, .int .i64 m, .int .i64 z]) ∧ Hid (dateR d y m z) ∧ w = w' := by
  have HT : Hid (TabW w) := hT
  clear hT
  have HY : Hid (yearI d (1970 + d / 366) (d - dAhead (1970 + d / 366))) := year_start h0
  go_enter Tryd.func34, Tryd.ntmps34
  go_wp2
  go_loopw [5] (fun y wr => ∃ (yy : Int), y = .int .i64 yy ∧ Hid (yearI d yy (d - dAhead yy)) ∧ w = wr) (fun y _ => 10000 - (intOf y).toNat)
  case atStart => exact ⟨_, rfl, HY, rfl⟩
  case round =>
    clear HY
    obtain ⟨yy, rfl, HI, rfl⟩ := hrel
    obtain ⟨q1, q2, q3, q4⟩ := yearI_bd HI.out h1
    go_wp2_with fail
    refine (daysAhead_any (yy + 1) _ (by omega) (by omega)).mono ?_
    rintro e w2 ⟨rfl, hw2⟩
    replace hw2 := hw2.symm
    subst hw2
    have hnx := dAhead_next yy
    have hlb := ldays_bd yy
    obtain ⟨A, hA⟩ : ∃ A, A = dAhead (yy + 1) := ⟨_, rfl⟩
    rw [← hA] at hnx ⊢
    by_cases hge : A ≤ d
    · have HN : Hid (yearI d (yy + 1) (d - dAhead (yy + 1))) := by
        have h := yearI_next HI.out (by omega)
        rw [← hA]
        have e : d - dAhead yy - ldays yy = d - A := by omega
        rw [e] at h
        exact h
      clear HI hA hnx hlb q3 q4
      go_wp2
      go_roundw
      case rel => exact ⟨_, rfl, HN, by trivial⟩
      case measure => simp [intOf]; omega
    · have HM : Hid (monI d yy (d - dAhead yy) 0) := yearI_done HI.out (by omega)
      clear HI hA hnx hlb
      obtain ⟨B, hB⟩ : ∃ B, B = dAhead yy := ⟨_, rfl⟩
      go_wp2_with fail
      refine (daysAhead_any yy _ (by omega) (by omega)).mono ?_
      rintro e w3 ⟨rfl, hw3⟩
      replace hw3 := hw3.symm
      subst hw3
      rw [← hB] at HM q3 q4 ⊢
      clear hB
      go_wp2
      go_loopw [6, 7] (fun r m wr => ∃ (r2 : Int) (k : Nat), r = .int .i64 r2 ∧ m = .int .i64 (k + 1) ∧ Hid (monI d yy r2 k) ∧ w = wr) (fun _ m _ => 13 - (intOf m).toNat)
      case atStart => exact ⟨_, 0, rfl, rfl, HM, rfl⟩
      case round =>
        clear HM
        obtain ⟨r2, k, rfl, rfl, HI, rfl⟩ := hrel
        have hk : k < 12 := HI.out.2.2.2.1
        have hr0 : 0 ≤ r2 := HI.out.2.2.2.2.2
        have hr1 : r2 ≤ 366 := monI_bd HI.out
        go_wp2_with fail
        refine (monthDays_any yy (k + 1) _ HT.out (by omega) (by omega) (by omega) (by omega)).mono ?_
        rintro e w4 ⟨rfl, hw4⟩
        replace hw4 := hw4.symm
        subst hw4
        have hmd := mdays_bd yy (k + 1) (by omega) (by omega)
        obtain ⟨M, hM⟩ : ∃ M, M = mdays yy (k + 1) := ⟨_, rfl⟩
        rw [← hM] at hmd ⊢
        by_cases hge2 : M ≤ r2
        · have HN : Hid (monI d yy (r2 - M) (k + 1)) := by
            show monI _ _ _ _
            rw [hM]
            exact monI_next HI.out (by rw [← hM]; exact hge2)
          have HMD : Hid (M = mdays yy (k + 1)) := hM
          clear HI hM
          go_wp2_with fail
          refine (monthDays_any yy (k + 1) _ HT.out (by omega) (by omega) (by omega) (by omega)).mono ?_
          rintro e w5 ⟨rfl, hw5⟩
          replace hw5 := hw5.symm
          subst hw5
          rw [← HMD.out]
          go_wp2
          go_roundw
          case rel => exact ⟨_, k + 1, rfl, by go_num, HN, by trivial⟩
          case measure => simp [intOf]; omega
        · have HD0 : Hid (dateR d yy (k + 1) (r2 + 1)) := monI_done HI.out (by rw [← hM]; exact hge2)
          clear HI hM
          go_wp2
          go_ret3
          exact ⟨_, _, _, rfl, HD0, rfl⟩

end Go.Proofs.YtjdfbebdcpjpiaaDoor
