import Derived.Test.YtjdfbebdcpjpiaaDoorT4
namespace Go.Proofs.YtjdfbebdcpjpiaaDoor
open Go.RowKit

set_option maxRecDepth 10000 in
set_option maxHeartbeats 8000000 in
theorem specTimeRead_any (s : ByteArray) (w : World) :
    Calls Tryd.prog 19 #[.string s] w (TPost s w) := by
  by_cases h19 : s.size = 19
  case neg =>
    have HN : Hid (¬ (timeF s ∧ rangeP s)) := fun h => h19 h.1.1
    have z : ((s.size : Int) != 19) = true := bne_iff_ne.2 (by omega)
    clear h19
    go_enter Tryd.func19, Tryd.ntmps19
    go_wp2
    go_ret2
    exact tpost_f HN.out (Below.refl _ _)
  have l4 : 4 < s.size := by omega
  have x4 := cAt_get s 4 l4
  have l7 : 7 < s.size := by omega
  have x7 := cAt_get s 7 l7
  have l10 : 10 < s.size := by omega
  have x10 := cAt_get s 10 l10
  have l13 : 13 < s.size := by omega
  have x13 := cAt_get s 13 l13
  have l16 : 16 < s.size := by omega
  have x16 := cAt_get s 16 l16
  by_cases h4 : (s[4].toNat : Int) = 45
  case neg =>
    have HN : Hid (¬ (timeF s ∧ rangeP s)) := fun h => h4 (by have h2 := h.1.2 4 (by decide); rw [← x4]; exact h2)
    have z4 : ((s[4].toNat : Int) != 45) = true := bne_iff_ne.2 h4
    clear h4 x4 x7 x10 x13 x16
    go_enter Tryd.func19, Tryd.ntmps19
    go_wp2
    go_ret2
    exact tpost_f HN.out (Below.refl _ _)
  have z4 : ((s[4].toNat : Int) != 45) = false := by simp [h4]
  rw [h4] at x4
  clear h4
  by_cases h7 : (s[7].toNat : Int) = 45
  case neg =>
    have HN : Hid (¬ (timeF s ∧ rangeP s)) := fun h => h7 (by have h2 := h.1.2 7 (by decide); rw [← x7]; exact h2)
    have z7 : ((s[7].toNat : Int) != 45) = true := bne_iff_ne.2 h7
    clear h7 x4 x7 x10 x13 x16
    go_enter Tryd.func19, Tryd.ntmps19
    go_wp2
    go_ret2
    exact tpost_f HN.out (Below.refl _ _)
  have z7 : ((s[7].toNat : Int) != 45) = false := by simp [h7]
  rw [h7] at x7
  clear h7
  by_cases h10 : (s[10].toNat : Int) = 32
  case neg =>
    have HN : Hid (¬ (timeF s ∧ rangeP s)) := fun h => h10 (by have h2 := h.1.2 10 (by decide); rw [← x10]; exact h2)
    have z10 : ((s[10].toNat : Int) != 32) = true := bne_iff_ne.2 h10
    clear h10 x4 x7 x10 x13 x16
    go_enter Tryd.func19, Tryd.ntmps19
    go_wp2
    go_ret2
    exact tpost_f HN.out (Below.refl _ _)
  have z10 : ((s[10].toNat : Int) != 32) = false := by simp [h10]
  rw [h10] at x10
  clear h10
  by_cases h13 : (s[13].toNat : Int) = 58
  case neg =>
    have HN : Hid (¬ (timeF s ∧ rangeP s)) := fun h => h13 (by have h2 := h.1.2 13 (by decide); rw [← x13]; exact h2)
    have z13 : ((s[13].toNat : Int) != 58) = true := bne_iff_ne.2 h13
    clear h13 x4 x7 x10 x13 x16
    go_enter Tryd.func19, Tryd.ntmps19
    go_wp2
    go_ret2
    exact tpost_f HN.out (Below.refl _ _)
  have z13 : ((s[13].toNat : Int) != 58) = false := by simp [h13]
  rw [h13] at x13
  clear h13
  by_cases h16 : (s[16].toNat : Int) = 58
  case neg =>
    have HN : Hid (¬ (timeF s ∧ rangeP s)) := fun h => h16 (by have h2 := h.1.2 16 (by decide); rw [← x16]; exact h2)
    have z16 : ((s[16].toNat : Int) != 58) = true := bne_iff_ne.2 h16
    clear h16 x4 x7 x10 x13 x16
    go_enter Tryd.func19, Tryd.ntmps19
    go_wp2
    go_ret2
    exact tpost_f HN.out (Below.refl _ _)
  have z16 : ((s[16].toNat : Int) != 58) = false := by simp [h16]
  rw [h16] at x16
  clear h16
  have SG : Hid (cAt s 4 = 45 ∧ cAt s 7 = 45 ∧ cAt s 10 = 32 ∧ cAt s 13 = 58 ∧ cAt s 16 = 58) := ⟨x4, x7, x10, x13, x16⟩
  clear x4 x7 x10 x13 x16
  have Ey := ext_size s 0 4 (by omega)
  obtain ⟨y, hy⟩ : ∃ v, v = dig1 (s.extract 0 4) := ⟨_, rfl⟩
  have bdy : -1 ≤ y ∧ y < 10000 := by rw [hy]; exact dig1_bd _ (by omega)
  have Cy : Hid (∀ W : World, Calls Tryd.prog 41 #[.string (s.extract 0 4)] W fun e w' => e = .returned (.int .i64 y) ∧ w' = W) := fun W => by
    rw [hy]
    exact l6Digits_any (s.extract 0 4) W (by omega)
  have Gy : Hid (timeF s → y = gv s 0 4) := fun hf => by rw [hy]; exact dig1_gv hf 0 4 (by decide) (by decide)
  have Ky : Hid (0 ≤ y → digP (s.extract 0 4) (4 - 0)) := fun h0 => dig1_back 0 4 (by omega) (by rw [← hy]; exact h0)
  clear Ey hy
  have Em := ext_size s 5 7 (by omega)
  obtain ⟨m, hm⟩ : ∃ v, v = dig1 (s.extract 5 7) := ⟨_, rfl⟩
  have bdm : -1 ≤ m ∧ m < 10000 := by rw [hm]; exact dig1_bd _ (by omega)
  have Cm : Hid (∀ W : World, Calls Tryd.prog 41 #[.string (s.extract 5 7)] W fun e w' => e = .returned (.int .i64 m) ∧ w' = W) := fun W => by
    rw [hm]
    exact l6Digits_any (s.extract 5 7) W (by omega)
  have Gm : Hid (timeF s → m = gv s 5 7) := fun hf => by rw [hm]; exact dig1_gv hf 5 7 (by decide) (by decide)
  have Km : Hid (0 ≤ m → digP (s.extract 5 7) (7 - 5)) := fun h0 => dig1_back 5 7 (by omega) (by rw [← hm]; exact h0)
  clear Em hm
  have Ed := ext_size s 8 10 (by omega)
  obtain ⟨d, hd⟩ : ∃ v, v = dig1 (s.extract 8 10) := ⟨_, rfl⟩
  have bdd : -1 ≤ d ∧ d < 10000 := by rw [hd]; exact dig1_bd _ (by omega)
  have Cd : Hid (∀ W : World, Calls Tryd.prog 41 #[.string (s.extract 8 10)] W fun e w' => e = .returned (.int .i64 d) ∧ w' = W) := fun W => by
    rw [hd]
    exact l6Digits_any (s.extract 8 10) W (by omega)
  have Gd : Hid (timeF s → d = gv s 8 10) := fun hf => by rw [hd]; exact dig1_gv hf 8 10 (by decide) (by decide)
  have Kd : Hid (0 ≤ d → digP (s.extract 8 10) (10 - 8)) := fun h0 => dig1_back 8 10 (by omega) (by rw [← hd]; exact h0)
  clear Ed hd
  have Eh := ext_size s 11 13 (by omega)
  obtain ⟨h, hh⟩ : ∃ v, v = dig1 (s.extract 11 13) := ⟨_, rfl⟩
  have bdh : -1 ≤ h ∧ h < 10000 := by rw [hh]; exact dig1_bd _ (by omega)
  have Ch : Hid (∀ W : World, Calls Tryd.prog 41 #[.string (s.extract 11 13)] W fun e w' => e = .returned (.int .i64 h) ∧ w' = W) := fun W => by
    rw [hh]
    exact l6Digits_any (s.extract 11 13) W (by omega)
  have Gh : Hid (timeF s → h = gv s 11 13) := fun hf => by rw [hh]; exact dig1_gv hf 11 13 (by decide) (by decide)
  have Kh : Hid (0 ≤ h → digP (s.extract 11 13) (13 - 11)) := fun h0 => dig1_back 11 13 (by omega) (by rw [← hh]; exact h0)
  clear Eh hh
  have Ei := ext_size s 14 16 (by omega)
  obtain ⟨i, hi⟩ : ∃ v, v = dig1 (s.extract 14 16) := ⟨_, rfl⟩
  have bdi : -1 ≤ i ∧ i < 10000 := by rw [hi]; exact dig1_bd _ (by omega)
  have Ci : Hid (∀ W : World, Calls Tryd.prog 41 #[.string (s.extract 14 16)] W fun e w' => e = .returned (.int .i64 i) ∧ w' = W) := fun W => by
    rw [hi]
    exact l6Digits_any (s.extract 14 16) W (by omega)
  have Gi : Hid (timeF s → i = gv s 14 16) := fun hf => by rw [hi]; exact dig1_gv hf 14 16 (by decide) (by decide)
  have Ki : Hid (0 ≤ i → digP (s.extract 14 16) (16 - 14)) := fun h0 => dig1_back 14 16 (by omega) (by rw [← hi]; exact h0)
  clear Ei hi
  have Ec := ext_size s 17 19 (by omega)
  obtain ⟨c, hc⟩ : ∃ v, v = dig1 (s.extract 17 19) := ⟨_, rfl⟩
  have bdc : -1 ≤ c ∧ c < 10000 := by rw [hc]; exact dig1_bd _ (by omega)
  have Cc : Hid (∀ W : World, Calls Tryd.prog 41 #[.string (s.extract 17 19)] W fun e w' => e = .returned (.int .i64 c) ∧ w' = W) := fun W => by
    rw [hc]
    exact l6Digits_any (s.extract 17 19) W (by omega)
  have Gc : Hid (timeF s → c = gv s 17 19) := fun hf => by rw [hc]; exact dig1_gv hf 17 19 (by decide) (by decide)
  have Kc : Hid (0 ≤ c → digP (s.extract 17 19) (19 - 17)) := fun h0 => dig1_back 17 19 (by omega) (by rw [← hc]; exact h0)
  clear Ec hc
  have ALL : Hid (0 ≤ y → 0 ≤ m → 0 ≤ d → 0 ≤ h → 0 ≤ i → 0 ≤ c → timeF s) := fun p1 p2 p3 p4 p5 p6 => by
    refine ⟨h19, fun j hj => ?_⟩
    obtain ⟨s1, s2, s3, s4, s5⟩ := SG.out
    have hj' : j = 0 ∨ j = 1 ∨ j = 2 ∨ j = 3 ∨ j = 4 ∨ j = 5 ∨ j = 6 ∨ j = 7 ∨ j = 8 ∨ j = 9 ∨ j = 10 ∨ j = 11 ∨ j = 12 ∨ j = 13 ∨ j = 14 ∨ j = 15 ∨ j = 16 ∨ j = 17 ∨ j = 18 := by omega
    rcases hj' with rfl | rfl | rfl | rfl | rfl | rfl | rfl | rfl | rfl | rfl | rfl | rfl | rfl | rfl | rfl | rfl | rfl | rfl | rfl
    · exact group_fits (Ky.out p1) (by omega) 0 (by decide) (by decide) rfl
    · exact group_fits (Ky.out p1) (by omega) 1 (by decide) (by decide) rfl
    · exact group_fits (Ky.out p1) (by omega) 2 (by decide) (by decide) rfl
    · exact group_fits (Ky.out p1) (by omega) 3 (by decide) (by decide) rfl
    · exact s1
    · exact group_fits (Km.out p2) (by omega) 5 (by decide) (by decide) rfl
    · exact group_fits (Km.out p2) (by omega) 6 (by decide) (by decide) rfl
    · exact s2
    · exact group_fits (Kd.out p3) (by omega) 8 (by decide) (by decide) rfl
    · exact group_fits (Kd.out p3) (by omega) 9 (by decide) (by decide) rfl
    · exact s3
    · exact group_fits (Kh.out p4) (by omega) 11 (by decide) (by decide) rfl
    · exact group_fits (Kh.out p4) (by omega) 12 (by decide) (by decide) rfl
    · exact s4
    · exact group_fits (Ki.out p5) (by omega) 14 (by decide) (by decide) rfl
    · exact group_fits (Ki.out p5) (by omega) 15 (by decide) (by decide) rfl
    · exact s5
    · exact group_fits (Kc.out p6) (by omega) 17 (by decide) (by decide) rfl
    · exact group_fits (Kc.out p6) (by omega) 18 (by decide) (by decide) rfl
  clear Ky Km Kd Kh Ki Kc SG
  go_enter Tryd.func19, Tryd.ntmps19
  go_wp2_with fail
  refine (Cy.out _).mono ?_
  rintro e Wy ⟨rfl, hWy⟩
  replace hWy := hWy.symm
  subst hWy
  clear Cy
  go_wp2_with fail
  refine (Cm.out _).mono ?_
  rintro e Wm ⟨rfl, hWm⟩
  replace hWm := hWm.symm
  subst hWm
  clear Cm
  go_wp2_with fail
  refine (Cd.out _).mono ?_
  rintro e Wd ⟨rfl, hWd⟩
  replace hWd := hWd.symm
  subst hWd
  clear Cd
  go_wp2_with fail
  refine (Ch.out _).mono ?_
  rintro e Wh ⟨rfl, hWh⟩
  replace hWh := hWh.symm
  subst hWh
  clear Ch
  go_wp2_with fail
  refine (Ci.out _).mono ?_
  rintro e Wi ⟨rfl, hWi⟩
  replace hWi := hWi.symm
  subst hWi
  clear Ci
  go_wp2_with fail
  refine (Cc.out _).mono ?_
  rintro e Wc ⟨rfl, hWc⟩
  replace hWc := hWc.symm
  subst hWc
  clear Cc
  by_cases c1 : y < 1970
  case pos =>
    have HN : Hid (¬ (timeF s ∧ rangeP s)) := fun q => by
      obtain ⟨r1, ⟨r2, r3⟩, ⟨r4, r5⟩, r6, r7, r8⟩ := q.2
      rw [← Gy.out q.1] at r1 r5
      rw [← Gm.out q.1] at r2 r3 r5
      rw [← Gd.out q.1] at r4 r5
      rw [← Gh.out q.1] at r6
      rw [← Gi.out q.1] at r7
      rw [← Gc.out q.1] at r8
      have n1 : 0 ≤ h := by rw [Gh.out q.1]; exact (dgs_bd4 _ _ (by decide) (group_dig q.1 11 13 (by decide) (by decide))).1
      have n2 : 0 ≤ i := by rw [Gi.out q.1]; exact (dgs_bd4 _ _ (by decide) (group_dig q.1 14 16 (by decide) (by decide))).1
      have n3 : 0 ≤ c := by rw [Gc.out q.1]; exact (dgs_bd4 _ _ (by decide) (group_dig q.1 17 19 (by decide) (by decide))).1
      omega
    clear ALL Gy Gm Gd Gh Gi Gc
    go_wp2
    go_ret2
    exact tpost_f HN.out (Below.refl _ _)
  by_cases c2 : 1 ≤ m ∧ m ≤ 12
  case neg =>
    have HN : Hid (¬ (timeF s ∧ rangeP s)) := fun q => by
      obtain ⟨r1, ⟨r2, r3⟩, ⟨r4, r5⟩, r6, r7, r8⟩ := q.2
      rw [← Gy.out q.1] at r1 r5
      rw [← Gm.out q.1] at r2 r3 r5
      rw [← Gd.out q.1] at r4 r5
      rw [← Gh.out q.1] at r6
      rw [← Gi.out q.1] at r7
      rw [← Gc.out q.1] at r8
      have n1 : 0 ≤ h := by rw [Gh.out q.1]; exact (dgs_bd4 _ _ (by decide) (group_dig q.1 11 13 (by decide) (by decide))).1
      have n2 : 0 ≤ i := by rw [Gi.out q.1]; exact (dgs_bd4 _ _ (by decide) (group_dig q.1 14 16 (by decide) (by decide))).1
      have n3 : 0 ≤ c := by rw [Gc.out q.1]; exact (dgs_bd4 _ _ (by decide) (group_dig q.1 17 19 (by decide) (by decide))).1
      exact c2 ⟨r2, r3⟩
    have H2 : Hid (¬ (1 ≤ m ∧ m ≤ 12)) := c2
    clear c2
    clear ALL Gy Gm Gd Gh Gi Gc
    go_wp2_with fail
    refine (l1In_f m 1 12 _ H2.out).mono ?_
    rintro e w1 ⟨rfl, hw1⟩
    replace hw1 := hw1.symm
    subst hw1
    go_wp2
    go_ret2
    exact tpost_f HN.out (Below.refl _ _)
  have H2 : Hid (1 ≤ m ∧ m ≤ 12) := c2
  go_wp2_with fail
  refine (l1In_t m 1 12 _ H2.out).mono ?_
  rintro e w1 ⟨rfl, hw1⟩
  replace hw1 := hw1.symm
  subst hw1
  by_cases c3 : d < 1
  case pos =>
    have HN : Hid (¬ (timeF s ∧ rangeP s)) := fun q => by
      obtain ⟨r1, ⟨r2, r3⟩, ⟨r4, r5⟩, r6, r7, r8⟩ := q.2
      rw [← Gy.out q.1] at r1 r5
      rw [← Gm.out q.1] at r2 r3 r5
      rw [← Gd.out q.1] at r4 r5
      rw [← Gh.out q.1] at r6
      rw [← Gi.out q.1] at r7
      rw [← Gc.out q.1] at r8
      have n1 : 0 ≤ h := by rw [Gh.out q.1]; exact (dgs_bd4 _ _ (by decide) (group_dig q.1 11 13 (by decide) (by decide))).1
      have n2 : 0 ≤ i := by rw [Gi.out q.1]; exact (dgs_bd4 _ _ (by decide) (group_dig q.1 14 16 (by decide) (by decide))).1
      have n3 : 0 ≤ c := by rw [Gc.out q.1]; exact (dgs_bd4 _ _ (by decide) (group_dig q.1 17 19 (by decide) (by decide))).1
      omega
    clear ALL Gy Gm Gd Gh Gi Gc
    go_wp2
    go_ret2
    exact tpost_f HN.out (Below.refl _ _)
  have hmd := mdays_bd y m c2.1 c2.2
  obtain ⟨md, hmd2⟩ : ∃ v, v = mdays y m := ⟨_, rfl⟩
  have HMD : Hid (md = mdays y m) := hmd2
  rw [← hmd2] at hmd
  go_wp2_with fail
  refine (l6Month_any y m _ (by omega) (by omega) c2.1 c2.2).mono ?_
  rintro e w2 ⟨rfl, hb2⟩
  rw [← hmd2]
  clear hmd2
  by_cases c4 : md < d
  case pos =>
    have HN : Hid (¬ (timeF s ∧ rangeP s)) := fun q => by
      obtain ⟨r1, ⟨r2, r3⟩, ⟨r4, r5⟩, r6, r7, r8⟩ := q.2
      rw [← Gy.out q.1] at r1 r5
      rw [← Gm.out q.1] at r2 r3 r5
      rw [← Gd.out q.1] at r4 r5
      rw [← Gh.out q.1] at r6
      rw [← Gi.out q.1] at r7
      rw [← Gc.out q.1] at r8
      have n1 : 0 ≤ h := by rw [Gh.out q.1]; exact (dgs_bd4 _ _ (by decide) (group_dig q.1 11 13 (by decide) (by decide))).1
      have n2 : 0 ≤ i := by rw [Gi.out q.1]; exact (dgs_bd4 _ _ (by decide) (group_dig q.1 14 16 (by decide) (by decide))).1
      have n3 : 0 ≤ c := by rw [Gc.out q.1]; exact (dgs_bd4 _ _ (by decide) (group_dig q.1 17 19 (by decide) (by decide))).1
      rw [← HMD.out] at r5; omega
    clear ALL Gy Gm Gd Gh Gi Gc
    go_wp2
    go_ret2
    exact tpost_f HN.out hb2
  by_cases c5 : 0 ≤ h ∧ h ≤ 23
  case neg =>
    have HN : Hid (¬ (timeF s ∧ rangeP s)) := fun q => by
      obtain ⟨r1, ⟨r2, r3⟩, ⟨r4, r5⟩, r6, r7, r8⟩ := q.2
      rw [← Gy.out q.1] at r1 r5
      rw [← Gm.out q.1] at r2 r3 r5
      rw [← Gd.out q.1] at r4 r5
      rw [← Gh.out q.1] at r6
      rw [← Gi.out q.1] at r7
      rw [← Gc.out q.1] at r8
      have n1 : 0 ≤ h := by rw [Gh.out q.1]; exact (dgs_bd4 _ _ (by decide) (group_dig q.1 11 13 (by decide) (by decide))).1
      have n2 : 0 ≤ i := by rw [Gi.out q.1]; exact (dgs_bd4 _ _ (by decide) (group_dig q.1 14 16 (by decide) (by decide))).1
      have n3 : 0 ≤ c := by rw [Gc.out q.1]; exact (dgs_bd4 _ _ (by decide) (group_dig q.1 17 19 (by decide) (by decide))).1
      exact c5 ⟨by omega, by omega⟩
    have H5 : Hid (¬ (0 ≤ h ∧ h ≤ 23)) := c5
    clear c5
    clear ALL Gy Gm Gd Gh Gi Gc
    go_wp2_with fail
    refine (l1In_f h 0 23 _ H5.out).mono ?_
    rintro e w3 ⟨rfl, hw3⟩
    replace hw3 := hw3.symm
    subst hw3
    go_wp2
    go_ret2
    exact tpost_f HN.out hb2
  have H5 : Hid (0 ≤ h ∧ h ≤ 23) := c5
  go_wp2_with fail
  refine (l1In_t h 0 23 _ H5.out).mono ?_
  rintro e w35 ⟨rfl, hw3⟩
  replace hw3 := hw3.symm
  subst hw3
  by_cases c6 : 0 ≤ i ∧ i ≤ 59
  case neg =>
    have HN : Hid (¬ (timeF s ∧ rangeP s)) := fun q => by
      obtain ⟨r1, ⟨r2, r3⟩, ⟨r4, r5⟩, r6, r7, r8⟩ := q.2
      rw [← Gy.out q.1] at r1 r5
      rw [← Gm.out q.1] at r2 r3 r5
      rw [← Gd.out q.1] at r4 r5
      rw [← Gh.out q.1] at r6
      rw [← Gi.out q.1] at r7
      rw [← Gc.out q.1] at r8
      have n1 : 0 ≤ h := by rw [Gh.out q.1]; exact (dgs_bd4 _ _ (by decide) (group_dig q.1 11 13 (by decide) (by decide))).1
      have n2 : 0 ≤ i := by rw [Gi.out q.1]; exact (dgs_bd4 _ _ (by decide) (group_dig q.1 14 16 (by decide) (by decide))).1
      have n3 : 0 ≤ c := by rw [Gc.out q.1]; exact (dgs_bd4 _ _ (by decide) (group_dig q.1 17 19 (by decide) (by decide))).1
      exact c6 ⟨by omega, by omega⟩
    have H6 : Hid (¬ (0 ≤ i ∧ i ≤ 59)) := c6
    clear c6
    clear ALL Gy Gm Gd Gh Gi Gc
    go_wp2_with fail
    refine (l1In_f i 0 59 _ H6.out).mono ?_
    rintro e w3 ⟨rfl, hw3⟩
    replace hw3 := hw3.symm
    subst hw3
    go_wp2
    go_ret2
    exact tpost_f HN.out hb2
  have H6 : Hid (0 ≤ i ∧ i ≤ 59) := c6
  go_wp2_with fail
  refine (l1In_t i 0 59 _ H6.out).mono ?_
  rintro e w36 ⟨rfl, hw3⟩
  replace hw3 := hw3.symm
  subst hw3
  by_cases c7 : 0 ≤ c ∧ c ≤ 59
  case neg =>
    have HN : Hid (¬ (timeF s ∧ rangeP s)) := fun q => by
      obtain ⟨r1, ⟨r2, r3⟩, ⟨r4, r5⟩, r6, r7, r8⟩ := q.2
      rw [← Gy.out q.1] at r1 r5
      rw [← Gm.out q.1] at r2 r3 r5
      rw [← Gd.out q.1] at r4 r5
      rw [← Gh.out q.1] at r6
      rw [← Gi.out q.1] at r7
      rw [← Gc.out q.1] at r8
      have n1 : 0 ≤ h := by rw [Gh.out q.1]; exact (dgs_bd4 _ _ (by decide) (group_dig q.1 11 13 (by decide) (by decide))).1
      have n2 : 0 ≤ i := by rw [Gi.out q.1]; exact (dgs_bd4 _ _ (by decide) (group_dig q.1 14 16 (by decide) (by decide))).1
      have n3 : 0 ≤ c := by rw [Gc.out q.1]; exact (dgs_bd4 _ _ (by decide) (group_dig q.1 17 19 (by decide) (by decide))).1
      exact c7 ⟨by omega, by omega⟩
    have H7 : Hid (¬ (0 ≤ c ∧ c ≤ 59)) := c7
    clear c7
    clear ALL Gy Gm Gd Gh Gi Gc
    go_wp2_with fail
    refine (l1In_f c 0 59 _ H7.out).mono ?_
    rintro e w3 ⟨rfl, hw3⟩
    replace hw3 := hw3.symm
    subst hw3
    go_wp2
    go_ret2
    exact tpost_f HN.out hb2
  have H7 : Hid (0 ≤ c ∧ c ≤ 59) := c7
  go_wp2_with fail
  refine (l1In_t c 0 59 _ H7.out).mono ?_
  rintro e w37 ⟨rfl, hw3⟩
  replace hw3 := hw3.symm
  subst hw3
  go_wp2
  have TF : Hid (timeF s) := ALL.out (by omega) (by omega) (by omega) c5.1 c6.1 c7.1
  have RP : Hid (rangeP s) := by
    show rangeP s
    unfold rangeP
    rw [← Gy.out TF.out, ← Gm.out TF.out, ← Gd.out TF.out, ← Gh.out TF.out, ← Gi.out TF.out, ← Gc.out TF.out, ← HMD.out]
    omega
  obtain ⟨N, hN⟩ : ∃ N : Nat, y = 1970 + (N : Int) := ⟨(y - 1970).toNat, by omega⟩
  obtain ⟨M, hM⟩ : ∃ M : Nat, m = 1 + (M : Int) := ⟨(m - 1).toNat, by omega⟩
  have VAL : Hid (valT s = 86400 * (d - 1 + ysum N + msum y M) + 3600 * h + 60 * i + c) := by
    show _ = _
    unfold valT
    rw [← Gy.out TF.out, ← Gm.out TF.out, ← Gd.out TF.out, ← Gh.out TF.out, ← Gi.out TF.out, ← Gc.out TF.out, ysum_is, ← hN, show m.toNat - 1 = M by omega]
    omega
  have HYN : Hid (y = 1970 + (N : Int)) := hN
  have HMM : Hid (m = 1 + (M : Int)) := hM
  have hNb : N ≤ 8030 := by omega
  have hMb : M ≤ 11 := by omega
  have hy9 : 1970 ≤ y ∧ y < 10000 := by omega
  have hd9 : 1 ≤ d ∧ d ≤ 31 := by omega
  clear ALL Gy Gm Gd Gh Gi Gc HMD c1 c4 bdm hmd H2
  go_loopw [10, 11] (fun ds k wr => ∃ (q : Nat) (v : Int), q ≤ N ∧ k = .int .i64 (1970 + (q : Int)) ∧ ds = .int .i64 v ∧ Hid (v = d - 1 + ysum q) ∧ 0 ≤ v ∧ v ≤ 4000000 ∧ w2 = wr) (fun _ k _ => (y - intOf k).toNat)
  case atStart => exact ⟨0, d - 1, Nat.zero_le _, rfl, rfl, (by show _ = _; rw [ysum]; omega), by omega, by omega, rfl⟩
  case round =>
    obtain ⟨q, v, hq, rfl, rfl, HV, hv0, hv1, rfl⟩ := hrel
    by_cases hlt : q < N
    · have hk : 1970 + (q : Int) < y := by rw [hN]; omega
      have hl : 365 ≤ ldays (1970 + q) ∧ ldays (1970 + q) ≤ 366 := by unfold ldays; split <;> omega
      have hyb := ysum_bd (q + 1)
      have HV2 : Hid (v + ldays (1970 + q) = d - 1 + ysum (q + 1)) := by show _ = _; rw [HV.out, ysum]; omega
      have hv2 : 0 ≤ v + ldays (1970 + q) ∧ v + ldays (1970 + q) ≤ 4000000 := by rw [HV2.out]; push_cast at hyb; omega
      obtain ⟨ld, hld⟩ : ∃ l, l = ldays (1970 + (q : Int)) := ⟨_, rfl⟩
      rw [← hld] at hl HV2 hv2
      clear hyb hN hM HV
      go_wp2_with fail
      refine (l6Days_any (1970 + q) _ (by omega) (by omega)).mono ?_
      rintro e w4 ⟨rfl, hw4⟩
      replace hw4 := hw4.symm
      subst hw4
      rw [← hld]
      clear hld
      go_wp2
      go_roundw
      case rel => exact ⟨q + 1, v + ld, by omega, by go_num, rfl, HV2.out, hv2.1, hv2.2, by trivial⟩
      case measure => simp [intOf]; omega
    · obtain rfl : q = N := by omega
      have hk : ¬ (1970 + (q : Int) < y) := by rw [hN]; omega
      have hm1 : 1 ≤ m ∧ m ≤ 12 := c2
      clear hN hM
      go_wp2
      go_loopw [10, 12] (fun ds k wr => ∃ (p : Nat) (u : Int), p ≤ M ∧ k = .int .i64 (1 + (p : Int)) ∧ ds = .int .i64 u ∧ Hid (u = v + msum y p) ∧ 0 ≤ u ∧ u ≤ 5000000 ∧ Below w.heap.size w wr) (fun _ k _ => (m - intOf k).toNat)
      case atStart => exact ⟨0, v, Nat.zero_le _, rfl, rfl, (by show _ = _; rw [msum]; omega), by omega, by omega, hb2⟩
      case round =>
        obtain ⟨p, u, hp, rfl, rfl, HU, hu0, hu1, hbr⟩ := hrel
        by_cases hlt2 : p < M
        · have hkm : 1 + (p : Int) < m := by rw [HMM.out]; omega
          have hmd := mdays_bd y (1 + p) (by omega) (by omega)
          have hmb := msum_bd y (p + 1) (by omega)
          have HU2 : Hid (u + mdays y (1 + p) = v + msum y (p + 1)) := by show _ = _; rw [HU.out, msum, Int.add_comm (1 : Int) p]; omega
          have hu2 : 0 ≤ u + mdays y (1 + p) ∧ u + mdays y (1 + p) ≤ 5000000 := by rw [HU2.out]; push_cast at hmb; omega
          obtain ⟨ld, hld⟩ : ∃ l, l = mdays y (1 + (p : Int)) := ⟨_, rfl⟩
          rw [← hld] at hmd HU2 hu2
          clear hmb HU
          go_wp2_with fail
          refine (l6Month_any y (1 + p) _ (by omega) (by omega) (by omega) (by omega)).mono ?_
          rintro e w5 ⟨rfl, hb5⟩
          have hb5' : Below w.heap.size w w5 := hbr.trans (hb5.mono hbr.size)
          rw [← hld]
          clear hld
          go_wp2
          go_roundw
          case rel => exact ⟨p + 1, u + ld, by omega, by go_num, rfl, HU2.out, hu2.1, hu2.2, hb5'⟩
          case measure => simp [intOf]; omega
        · obtain rfl : p = M := by omega
          have hkm : ¬ (1 + (p : Int) < m) := by rw [HMM.out]; omega
          have VF : Hid (u * 86400 + h * 3600 + i * 60 + c = valT s) := by show _ = _; rw [VAL.out, HU.out, HV.out]; omega
          clear HU HV VAL
          go_wp2
          go_ret2
          exact ⟨_, true, rfl, .inl ⟨rfl, TF.out, RP.out, VF.out⟩, hbr⟩

end Go.Proofs.YtjdfbebdcpjpiaaDoor
