import Derived.Test.YtjdfbebdcpjpiaaDoorT4
import Derived.Test.YtjdfbebdcpjpiaaDoorT3
import Derived.Deep.RegionWith
namespace Go.Proofs.YtjdfbebdcpjpiaaDoor
open Go.RowKit

set_option maxRecDepth 10000 in
set_option maxHeartbeats 8000000 in
theorem implTimeRead_any (s : ByteArray) (w : World) (hT : TabW w) :
    Calls Tryd.prog 17 #[.string s] w (TPost s w) := by
  have HT : Hid (TabW w) := hT
  clear hT
  go_enter Tryd.func17, Tryd.ntmps17
  go_wp2_with fail
  refine (hasTimeForm_any s _).mono ?_
  rintro e w1 ⟨ok, rfl, HV, hb1⟩
  cases ok with
  | false =>
    have HN : Hid (¬ (timeF s ∧ rangeP s)) := fun h => Bool.false_ne_true (HV.out.2 h.1)
    clear HV
    go_wp2
    go_ret2
    exact tpost_f HN.out hb1
  | true =>
    have HF : Hid (timeF s) := HV.out.1 rfl
    have hsz : s.size = 19 := HF.out.1
    clear HV
    have Dy := group_dig HF.out 0 4 (by decide) (by decide)
    have By := dgs_bd4 _ _ (by decide) Dy
    have Ey := ext_size s 0 4 (by omega)
    obtain ⟨y, hy⟩ : ∃ v, v = gv s 0 4 := ⟨_, rfl⟩
    have Hy : Hid (y = gv s 0 4) := hy
    have bdy : 0 ≤ y ∧ y < 10000 := by rw [hy]; exact By
    have Cy : Hid (∀ W : World, Calls Tryd.prog 37 #[.string (s.extract 0 4)] W fun e w' => e = .returned (.int .i64 y) ∧ w' = W) := fun W => by
      have := digitsOf_any (s.extract 0 4) W (by omega) (by rw [Ey]; exact Dy)
      rw [Ey] at this
      rw [Hy.out]
      exact this
    clear Dy By Ey hy
    have Dm := group_dig HF.out 5 7 (by decide) (by decide)
    have Bm := dgs_bd4 _ _ (by decide) Dm
    have Em := ext_size s 5 7 (by omega)
    obtain ⟨m, hm⟩ : ∃ v, v = gv s 5 7 := ⟨_, rfl⟩
    have Hm : Hid (m = gv s 5 7) := hm
    have bdm : 0 ≤ m ∧ m < 10000 := by rw [hm]; exact Bm
    have Cm : Hid (∀ W : World, Calls Tryd.prog 37 #[.string (s.extract 5 7)] W fun e w' => e = .returned (.int .i64 m) ∧ w' = W) := fun W => by
      have := digitsOf_any (s.extract 5 7) W (by omega) (by rw [Em]; exact Dm)
      rw [Em] at this
      rw [Hm.out]
      exact this
    clear Dm Bm Em hm
    have Dd := group_dig HF.out 8 10 (by decide) (by decide)
    have Bd := dgs_bd4 _ _ (by decide) Dd
    have Ed := ext_size s 8 10 (by omega)
    obtain ⟨d, hd⟩ : ∃ v, v = gv s 8 10 := ⟨_, rfl⟩
    have Hd : Hid (d = gv s 8 10) := hd
    have bdd : 0 ≤ d ∧ d < 10000 := by rw [hd]; exact Bd
    have Cd : Hid (∀ W : World, Calls Tryd.prog 37 #[.string (s.extract 8 10)] W fun e w' => e = .returned (.int .i64 d) ∧ w' = W) := fun W => by
      have := digitsOf_any (s.extract 8 10) W (by omega) (by rw [Ed]; exact Dd)
      rw [Ed] at this
      rw [Hd.out]
      exact this
    clear Dd Bd Ed hd
    have Dh := group_dig HF.out 11 13 (by decide) (by decide)
    have Bh := dgs_bd4 _ _ (by decide) Dh
    have Eh := ext_size s 11 13 (by omega)
    obtain ⟨h, hh⟩ : ∃ v, v = gv s 11 13 := ⟨_, rfl⟩
    have Hh : Hid (h = gv s 11 13) := hh
    have bdh : 0 ≤ h ∧ h < 10000 := by rw [hh]; exact Bh
    have Ch : Hid (∀ W : World, Calls Tryd.prog 37 #[.string (s.extract 11 13)] W fun e w' => e = .returned (.int .i64 h) ∧ w' = W) := fun W => by
      have := digitsOf_any (s.extract 11 13) W (by omega) (by rw [Eh]; exact Dh)
      rw [Eh] at this
      rw [Hh.out]
      exact this
    clear Dh Bh Eh hh
    have Di := group_dig HF.out 14 16 (by decide) (by decide)
    have Bi := dgs_bd4 _ _ (by decide) Di
    have Ei := ext_size s 14 16 (by omega)
    obtain ⟨i, hi⟩ : ∃ v, v = gv s 14 16 := ⟨_, rfl⟩
    have Hi : Hid (i = gv s 14 16) := hi
    have bdi : 0 ≤ i ∧ i < 10000 := by rw [hi]; exact Bi
    have Ci : Hid (∀ W : World, Calls Tryd.prog 37 #[.string (s.extract 14 16)] W fun e w' => e = .returned (.int .i64 i) ∧ w' = W) := fun W => by
      have := digitsOf_any (s.extract 14 16) W (by omega) (by rw [Ei]; exact Di)
      rw [Ei] at this
      rw [Hi.out]
      exact this
    clear Di Bi Ei hi
    have Dc := group_dig HF.out 17 19 (by decide) (by decide)
    have Bc := dgs_bd4 _ _ (by decide) Dc
    have Ec := ext_size s 17 19 (by omega)
    obtain ⟨c, hc⟩ : ∃ v, v = gv s 17 19 := ⟨_, rfl⟩
    have Hc : Hid (c = gv s 17 19) := hc
    have bdc : 0 ≤ c ∧ c < 10000 := by rw [hc]; exact Bc
    have Cc : Hid (∀ W : World, Calls Tryd.prog 37 #[.string (s.extract 17 19)] W fun e w' => e = .returned (.int .i64 c) ∧ w' = W) := fun W => by
      have := digitsOf_any (s.extract 17 19) W (by omega) (by rw [Ec]; exact Dc)
      rw [Ec] at this
      rw [Hc.out]
      exact this
    clear Dc Bc Ec hc
    go_wp2_with fail
    go_quiet (first
      | (go_at_call_of 37 (s.extract 0 4); refine Calls.quiet_of_same (Cy.out _))
      | (go_at_call_of 37 (s.extract 5 7); refine Calls.quiet_of_same (Cm.out _))
      | (go_at_call_of 37 (s.extract 8 10); refine Calls.quiet_of_same (Cd.out _)))
    obtain ⟨W2, hW2⟩ : ∃ W, W = w1.drewN nq := ⟨_, rfl⟩
    rw [← hW2]
    have hb2 : Below w.heap.size w W2 := by rw [hW2]; exact below_drewN' hb1 nq
    clear hW2
    go_wp2_with fail
    go_quiet (first
      | (go_at_call_of 37 (s.extract 11 13); refine Calls.quiet_of_same (Ch.out _))
      | (go_at_call_of 37 (s.extract 14 16); refine Calls.quiet_of_same (Ci.out _))
      | (go_at_call_of 37 (s.extract 17 19); refine Calls.quiet_of_same (Cc.out _)))
    obtain ⟨W3, hW3⟩ : ∃ W, W = W2.drewN nq := ⟨_, rfl⟩
    rw [← hW3]
    have hb3 : Below w.heap.size w W3 := by rw [hW3]; exact below_drewN' hb2 nq
    have HT3 : Hid (TabW W3) := HT.out.kept hb3
    clear hW3 Cy Cm Cd Ch Ci Cc
    have WHY : Hid (rangeP s ↔ (1970 ≤ y ∧ (1 ≤ m ∧ m ≤ 12) ∧ (1 ≤ d ∧ d ≤ mdays y m) ∧ h ≤ 23 ∧ i ≤ 59 ∧ c ≤ 59)) := by
      show _ ↔ _
      unfold rangeP
      rw [← Hy.out, ← Hm.out, ← Hd.out, ← Hh.out, ← Hi.out, ← Hc.out]
    by_cases c1 : y < 1970
    case pos =>
      have HN : Hid (¬ (timeF s ∧ rangeP s)) := fun q => by have := WHY.out.1 q.2; omega
      go_wp2
      go_ret2
      exact tpost_f HN.out hb3
    by_cases c2 : 1 ≤ m ∧ m ≤ 12
    case neg =>
      have HN : Hid (¬ (timeF s ∧ rangeP s)) := fun q => c2 (WHY.out.1 q.2).2.1
      have H2 : Hid (¬ (1 ≤ m ∧ m ≤ 12)) := c2
      clear c2
      go_wp2_with fail
      refine (inBounds_f m 1 12 _ H2.out).mono ?_
      rintro e w4 ⟨rfl, hw4⟩
      replace hw4 := hw4.symm
      subst hw4
      go_wp2
      go_ret2
      exact tpost_f HN.out hb3
    have H2 : Hid (1 ≤ m ∧ m ≤ 12) := c2
    have hmd := mdays_bd y m c2.1 c2.2
    obtain ⟨md, hmd2⟩ : ∃ v, v = mdays y m := ⟨_, rfl⟩
    have HMD : Hid (md = mdays y m) := hmd2
    rw [← hmd2] at hmd
    go_wp2_with fail
    refine (inBounds_t m 1 12 _ H2.out).mono ?_
    rintro e w4 ⟨rfl, hw4⟩
    replace hw4 := hw4.symm
    subst hw4
    go_wp2_with fail
    refine (monthDays_any y m _ HT3.out (by omega) (by omega) c2.1 c2.2).mono ?_
    rintro e w4 ⟨rfl, hw4⟩
    replace hw4 := hw4.symm
    subst hw4
    rw [← hmd2]
    clear hmd2
    go_wp2_with fail
    by_cases c3 : 1 ≤ d ∧ d ≤ md
    case neg =>
      have HN : Hid (¬ (timeF s ∧ rangeP s)) := fun q => c3 (by have := (WHY.out.1 q.2).2.2.1; rw [← HMD.out] at this; exact this)
      have H3 : Hid (¬ (1 ≤ d ∧ d ≤ md)) := c3
      clear c3
      refine (inBounds_f d 1 md _ H3.out).mono ?_
      rintro e w4 ⟨rfl, hw4⟩
      replace hw4 := hw4.symm
      subst hw4
      go_wp2
      go_ret2
      exact tpost_f HN.out hb3
    have H3 : Hid (1 ≤ d ∧ d ≤ md) := c3
    refine (inBounds_t d 1 md _ H3.out).mono ?_
    rintro e w4 ⟨rfl, hw4⟩
    replace hw4 := hw4.symm
    subst hw4
    by_cases c5 : 23 < h
    case pos =>
      have HN : Hid (¬ (timeF s ∧ rangeP s)) := fun q => by have := (WHY.out.1 q.2).2.2.2.1; omega
      go_wp2
      go_ret2
      exact tpost_f HN.out hb3
    by_cases c6 : 59 < i
    case pos =>
      have HN : Hid (¬ (timeF s ∧ rangeP s)) := fun q => by have := (WHY.out.1 q.2).2.2.2.2.1; omega
      go_wp2
      go_ret2
      exact tpost_f HN.out hb3
    by_cases c7 : 59 < c
    case pos =>
      have HN : Hid (¬ (timeF s ∧ rangeP s)) := fun q => by have := (WHY.out.1 q.2).2.2.2.2.2; omega
      go_wp2
      go_ret2
      exact tpost_f HN.out hb3
    have RP : Hid (rangeP s) := WHY.out.2 (by rw [← HMD.out]; omega)
    go_wp2_with fail
    refine (daysAhead_any y _ (by omega) (by omega)).mono ?_
    rintro e w4 ⟨rfl, hw4⟩
    replace hw4 := hw4.symm
    subst hw4
    have hda := dAhead_bd y (by omega) (by omega)
    obtain ⟨da, hda2⟩ : ∃ v, v = dAhead y := ⟨_, rfl⟩
    have HDA : Hid (da = dAhead y) := hda2
    rw [← hda2] at hda ⊢
    clear hda2
    have hd9 : 1 ≤ d ∧ d ≤ 31 := by omega
    go_wp2
    obtain ⟨M, hM⟩ : ∃ M : Nat, m = 1 + (M : Int) := ⟨(m - 1).toNat, by omega⟩
    have HMM : Hid (m = 1 + (M : Int)) := hM
    have hMb : M ≤ 11 := by omega
    have VAL : Hid (valT s = 86400 * (da + d - 1 + msum y M) + 3600 * h + 60 * i + c) := by
      show _ = _
      unfold valT
      rw [← Hy.out, ← Hm.out, ← Hd.out, ← Hh.out, ← Hi.out, ← Hc.out, ← HDA.out, show m.toNat - 1 = M by omega]
    clear hM WHY HMD HDA hmd c1 c3
    have hy9 : 1970 ≤ y ∧ y < 10000 := by have := RP.out.1; rw [← Hy.out] at this; omega
    go_loopw [10, 11] (fun ds k wr => ∃ (p : Nat) (u : Int), p ≤ M ∧ k = .int .i64 (1 + (p : Int)) ∧ ds = .int .i64 u ∧ Hid (u = da + d - 1 + msum y p) ∧ 0 ≤ u ∧ u ≤ 5000000 ∧ W3 = wr) (fun _ k _ => (m - intOf k).toNat)
    case atStart => exact ⟨0, da + d - 1, Nat.zero_le _, rfl, rfl, (by show _ = _; rw [msum]; omega), by omega, by omega, rfl⟩
    case round =>
      obtain ⟨p, u, hp, rfl, rfl, HU, hu0, hu1, rfl⟩ := hrel
      by_cases hlt2 : p < M
      · have hkm : 1 + (p : Int) < m := by rw [HMM.out]; omega
        have hmd := mdays_bd y (1 + p) (by omega) (by omega)
        have hmb := msum_bd y (p + 1) (by omega)
        have HU2 : Hid (u + mdays y (1 + p) = da + d - 1 + msum y (p + 1)) := by show _ = _; rw [HU.out, msum, Int.add_comm (1 : Int) p]; omega
        have hu2 : 0 ≤ u + mdays y (1 + p) ∧ u + mdays y (1 + p) ≤ 5000000 := by rw [HU2.out]; push_cast at hmb; omega
        obtain ⟨ld, hld⟩ : ∃ l, l = mdays y (1 + (p : Int)) := ⟨_, rfl⟩
        rw [← hld] at hmd HU2 hu2
        clear hmb HU
        go_wp2_with fail
        refine (monthDays_any y (1 + p) _ HT3.out (by omega) (by omega) (by omega) (by omega)).mono ?_
        rintro e w5 ⟨rfl, hw5⟩
        replace hw5 := hw5.symm
        subst hw5
        rw [← hld]
        clear hld
        go_wp2
        go_roundw
        case rel => exact ⟨p + 1, u + ld, by omega, by go_num, rfl, HU2.out, hu2.1, hu2.2, by trivial⟩
        case measure => simp [intOf]; omega
      · obtain rfl : p = M := by omega
        have hkm : ¬ (1 + (p : Int) < m) := by rw [HMM.out]; omega
        have VF : Hid (86400 * u + 3600 * h + 60 * i + c = valT s) := by show _ = _; rw [VAL.out, HU.out]
        clear HU VAL
        go_wp2
        go_ret2
        exact ⟨_, true, rfl, .inl ⟨rfl, HF.out, RP.out, VF.out⟩, hb3⟩

end Go.Proofs.YtjdfbebdcpjpiaaDoor
