import Derived.Test.YtmmbfoncpjjonabDoorGW1
namespace Go.Proofs.YtmmbfoncpjjonabDoor
open Go.RowKit

/-- Two general names, boxed one behind the other. -/
theorem two_boxes (t : Nat) (w : World) (g : GT) (a : Option Addr) (n c : Nat) (g2 : GT) (a2 : Option Addr) (n2 c2 : Nat) : ∃ W, W = ((w.alloc (.cells #[.int .i64 g.kind, .string g.text, .int .i64 g.addr, .int .i64 g.bits, .slice a n c] t)).alloc (.cells #[.int .i64 g2.kind, .string g2.text, .int .i64 g2.addr, .int .i64 g2.bits, .slice a2 n2 c2] t)) ∧ BoxG t w.heap.size W g a n c ∧ BoxG t (w.heap.size + 1) W g2 a2 n2 c2 ∧ Below w.heap.size w W ∧ W.heap.size = w.heap.size + 2 := by
  refine ⟨_, rfl, ?_, ?_, ((Below.refl _ _).alloc (Nat.le_refl _) _).alloc (by simp) _, by simp⟩
  · exact (boxG_new t w g a n c).kept ((Below.refl _ _).alloc (Nat.le_refl _) _)
  · have := boxG_new t (w.alloc (.cells #[.int .i64 g.kind, .string g.text, .int .i64 g.addr, .int .i64 g.bits, .slice a n c] t)) g2 a2 n2 c2
    simpa using this

theorem withinP_1 {g b : GT} {xs ys : List PT} (h1 : genP g xs) (h2 : baseP b ys) (h3 : g.kind = b.kind) (hk : g.kind = 1) : withinP g xs b ys ↔ relH g.text b.text := by
  unfold withinP
  constructor
  · rintro ⟨_, _, _, (⟨_, h⟩ | ⟨h, _⟩ | ⟨h, _⟩ | ⟨h, _⟩)⟩
    · exact h
    all_goals omega
  · exact fun h => ⟨h1, h2, h3, .inl ⟨hk, h⟩⟩
theorem withinP_2 {g b : GT} {xs ys : List PT} (h1 : genP g xs) (h2 : baseP b ys) (h3 : g.kind = b.kind) (hk : g.kind = 2) : withinP g xs b ys ↔ relM g.text b.text := by
  unfold withinP
  constructor
  · rintro ⟨_, _, _, (⟨h, _⟩ | ⟨_, h⟩ | ⟨h, _⟩ | ⟨h, _⟩)⟩
    · omega
    · exact h
    all_goals omega
  · exact fun h => ⟨h1, h2, h3, .inr (.inl ⟨hk, h⟩)⟩
theorem withinP_3 {g b : GT} {xs ys : List PT} (h1 : genP g xs) (h2 : baseP b ys) (h3 : g.kind = b.kind) (hk : g.kind = 3) : withinP g xs b ys ↔ relA g.addr b.addr b.bits := by
  unfold withinP
  constructor
  · rintro ⟨_, _, _, (⟨h, _⟩ | ⟨h, _⟩ | ⟨_, h⟩ | ⟨h, _⟩)⟩
    · omega
    · omega
    · exact h
    · omega
  · exact fun h => ⟨h1, h2, h3, .inr (.inr (.inl ⟨hk, h⟩))⟩
theorem withinP_4 {g b : GT} {xs ys : List PT} (h1 : genP g xs) (h2 : baseP b ys) (h3 : g.kind = b.kind) (hk : g.kind = 4) : withinP g xs b ys ↔ underP xs ys := by
  unfold withinP
  constructor
  · rintro ⟨_, _, _, (⟨h, _⟩ | ⟨h, _⟩ | ⟨h, _⟩ | ⟨_, h⟩)⟩
    · omega
    · omega
    · omega
    · exact h
  · exact fun h => ⟨h1, h2, h3, .inr (.inr (.inr ⟨hk, h⟩))⟩
theorem gen_host {g : GT} {xs : List PT} (h : genP g xs) (hk : g.kind = 1) : hostP g.text true := by
  rcases h with ⟨_, _, h⟩ | ⟨h, _⟩ | ⟨h, _⟩ | ⟨h, _⟩
  · exact h
  all_goals omega
theorem gen_mail {g : GT} {xs : List PT} (h : genP g xs) (hk : g.kind = 2) : mailP g.text := by
  rcases h with ⟨h, _⟩ | ⟨_, _, h⟩ | ⟨h, _⟩ | ⟨h, _⟩
  · omega
  · exact h
  all_goals omega
theorem base_mail {g : GT} {xs : List PT} (h : baseP g xs) (hk : g.kind = 2) : mbaseP g.text := by
  rcases h with ⟨h, _⟩ | ⟨_, _, h⟩ | ⟨h, _⟩ | ⟨h, _⟩
  · omega
  · exact h
  all_goals omega
theorem base_bits {g : GT} {xs : List PT} (h : baseP g xs) (hk : g.kind = 3) : 0 ≤ g.bits ∧ g.bits ≤ 32 := by
  rcases h with ⟨h, _⟩ | ⟨h, _⟩ | ⟨_, _, _, h, _⟩ | ⟨h, _⟩
  · omega
  · omega
  · exact h
  · omega

set_option maxRecDepth 10000 in
set_option maxHeartbeats 8000000 in
theorem specWithin_any (g : GT) (a : Option Addr) (n c : Nat) (xs : List PT) (b : GT) (a2 : Option Addr) (n2 c2 : Nat) (ys : List PT) (w : World) (h : Pts w a n xs) (hz : ∀ k, k < n → (xs.getD k default).val.size ≤ 1048576) (hs : g.text.size ≤ 1048576) (h2 : Pts w a2 n2 ys) (hz2 : ∀ k, k < n2 → (ys.getD k default).val.size ≤ 1048576) (hs2 : b.text.size ≤ 1048576) :
    Calls Tryd.prog 14 #[gnv g a n c, gnv b a2 n2 c2] w (SaysB (withinP g xs b ys) w) := by
  obtain ⟨P, hP⟩ : ∃ P, P = withinP g xs b ys := ⟨_, rfl⟩
  rw [← hP]
  have HP : Hid (P = withinP g xs b ys) := hP
  have HK : Hid (Pts w a n xs) := h
  have HZ : Hid (_) := hz
  have HK2 : Hid (Pts w a2 n2 ys) := h2
  have HZ2 : Hid (_) := hz2
  clear hP h hz h2 hz2
  obtain ⟨W, hW, x1, x2, bW, sW⟩ := two_boxes 33 w g a n c b a2 n2 c2
  have SG := specGenOk_any g a n c xs W (HK.out.kept bW) HZ.out hs
  have SB := fun (w1 : World) (hb : Below w.heap.size w w1) => specBaseOk_any b a2 n2 c2 ys w1 (HK2.out.kept hb) HZ2.out hs2
  unfold gnv at SG SB ⊢
  go_enter Tryd.func14, Tryd.ntmps14
  go_wp2_with fail
  rw [← hW]
  clear hW
  refine SG.mono ?_
  rintro e w1 ⟨r1, rfl, HV1, hb1⟩
  have B1 : Below w.heap.size w w1 := bW.trans (hb1.mono bW.size)
  have X1 : Hid (_) := x1.kept hb1
  have X2 : Hid (_) := x2.kept hb1
  clear SG x1 x2 bW
  cases r1 with
  | false =>
    have HN : Hid (¬ P) := by show ¬ P; rw [HP.out]; exact fun q => Bool.false_ne_true (HV1.out.2 q.1)
    clear HP HV1 SB HK HZ HK2 HZ2 X1 X2
    go_wp2
    go_ret
    exact saysB_f HN.out B1
  | true =>
    have HG : Hid (genP g xs) := HV1.out.1 rfl
    clear HV1
    obtain ⟨q0, q1, q2, q3, q4⟩ := X2.out.cells
    go_wp2_with fail
    refine (SB _ B1).mono ?_
    rintro e w2 ⟨r2, rfl, HV2, hb2⟩
    have B2 : Below w.heap.size w w2 := B1.trans (hb2.mono B1.size)
    have Y1 : Hid (_) := X1.out.kept hb2
    have Y2 : Hid (_) := X2.out.kept hb2
    clear SB X1 X2 B1 q0 q1 q2 q3 q4
    cases r2 with
    | false =>
      have HN : Hid (¬ P) := by show ¬ P; rw [HP.out]; exact fun q => Bool.false_ne_true (HV2.out.2 q.2.1)
      clear HP HV2 HK HZ HK2 HZ2 Y1 Y2
      go_wp2
      go_ret
      exact saysB_f HN.out B2
    | true =>
      have HB : Hid (baseP b ys) := HV2.out.1 rfl
      clear HV2
      obtain ⟨p0, p1, p2, p3, p4⟩ := Y1.out.cells
      obtain ⟨q0, q1, q2, q3, q4⟩ := Y2.out.cells
      have hlt : w.heap.size + 1 < w2.heap.size := Nat.lt_of_lt_of_le (by omega) (Nat.le_trans hb1.size hb2.size)
      by_cases hkk : g.kind = b.kind
      · have zk : (g.kind != b.kind) = false := by simp [hkk]
        by_cases k1 : g.kind = 1
        · have HI : Hid (P ↔ relH g.text b.text) := by show P ↔ _; rw [HP.out]; exact withinP_1 HG.out HB.out hkk k1
          have hh := gen_host HG.out k1
          have hp := hostP_pos hh
          have HST : Hid (cAt g.text 0 = 42 → 2 ≤ g.text.size ∧ cAt g.text 1 = 46) := hostP_star hh
          have hx := cAt_get g.text 0 hp
          have e1 : (g.kind == 1) = true := beq_iff_eq.2 k1
          have hso : ¬ (9223372036854775807 < 1 + b.text.size) := by omega
          have hul := unstar_le g.text
          obtain ⟨u, hu⟩ : ∃ u, u = unstar g.text := ⟨_, rfl⟩
          obtain ⟨d, hd⟩ : ∃ d : ByteArray, d = (⟨#[46]⟩ ++ b.text : ByteArray) := ⟨_, rfl⟩
          have HI2 : Hid (P ↔ u = b.text ∨ endsP u d) := by show P ↔ _; rw [HI.out, hu, hd]; exact Iff.rfl
          rw [← hu] at hul
          have hsz : d.size = 1 + b.text.size := by rw [hd, ByteArray.size_append]; rfl
          have hd1 : d.size ≤ 1048578 := by omega
          have hu1 : u.size ≤ 1048578 := by omega
          have FIN : ∀ (w2' : World), Calls Tryd.prog 27 #[.string u, .string d] w2' (SaysW (endsP u d) w2') := fun w2' => l6Ends_any u d w2' hu1 hd1
          have HD : Hid (d = (⟨#[46]⟩ ++ b.text : ByteArray)) := hd
          clear hd hd1 hu1
          clear HP HK HZ HK2 HZ2 Y1 Y2 HG HB hkk k1 hh HI hsz
          by_cases hc : (g.text[0].toNat : Int) = 42
          · have zc : ((g.text[0].toNat : Int) == 42) = true := beq_iff_eq.2 hc
            have h22 := (HST.out (hx.trans hc)).1
            have hu2 : g.text.extract 2 g.text.size = u := by rw [hu]; unfold unstar; rw [if_pos (hx.trans hc)]
            clear hu hc hx HST
            by_cases heq : u = b.text
            · have HN : Hid P := HI2.out.2 (.inl heq)
              have z5 : (u.toList == b.text.toList) = true := (toList_same _ _).2 heq
              clear HI2 heq FIN
              go_wp2
              go_ret
              exact saysB_t HN.out B2
            · have z5 : (u.toList == b.text.toList) = false := by rw [Bool.eq_false_iff]; exact fun q => heq ((toList_same _ _).1 q)
              have HI3 : Hid (P ↔ endsP u d) := ⟨fun q => (HI2.out.1 q).resolve_left heq, fun q => HI2.out.2 (.inr q)⟩
              clear HI2 heq
              go_wp2_with fail
              rw [← HD.out]
              refine (FIN _).mono ?_
              rintro e w3 ⟨r3, rfl, HV3, hw3⟩
              subst hw3
              clear FIN
              cases r3 with
              | true =>
                have HN : Hid P := HI3.out.2 (HV3.out.1 rfl)
                clear HV3 HI3
                go_wp2
                go_ret
                exact saysB_t HN.out B2
              | false =>
                have HN : Hid (¬ P) := fun q => Bool.false_ne_true (HV3.out.2 (HI3.out.1 q))
                clear HV3 HI3
                go_wp2
                go_ret
                exact saysB_f HN.out B2
          · have zc : ((g.text[0].toNat : Int) == 42) = false := beq_false_of_ne hc
            have hu2 : g.text = u := by rw [hu]; unfold unstar; rw [if_neg (fun q => hc (hx.symm.trans q))]
            clear hu hc hx HST
            by_cases heq : u = b.text
            · have HN : Hid P := HI2.out.2 (.inl heq)
              have z5 : (g.text.toList == b.text.toList) = true := by rw [hu2]; exact (toList_same _ _).2 heq
              clear HI2 heq FIN hu2
              go_wp2
              go_ret
              exact saysB_t HN.out B2
            · have z5 : (g.text.toList == b.text.toList) = false := by rw [hu2, Bool.eq_false_iff]; exact fun q => heq ((toList_same _ _).1 q)
              have HI3 : Hid (P ↔ endsP u d) := ⟨fun q => (HI2.out.1 q).resolve_left heq, fun q => HI2.out.2 (.inr q)⟩
              rw [← hu2] at FIN HI3
              clear HI2 heq hu2
              go_wp2_with fail
              rw [← HD.out]
              refine (FIN _).mono ?_
              rintro e w3 ⟨r3, rfl, HV3, hw3⟩
              subst hw3
              clear FIN
              cases r3 with
              | true =>
                have HN : Hid P := HI3.out.2 (HV3.out.1 rfl)
                clear HV3 HI3
                go_wp2
                go_ret
                exact saysB_t HN.out B2
              | false =>
                have HN : Hid (¬ P) := fun q => Bool.false_ne_true (HV3.out.2 (HI3.out.1 q))
                clear HV3 HI3
                go_wp2
                go_ret
                exact saysB_f HN.out B2
        have e1 : (g.kind == 1) = false := beq_false_of_ne k1
        by_cases k2 : g.kind = 2
        · have HI : Hid (P ↔ relM g.text b.text) := by show P ↔ _; rw [HP.out]; exact withinP_2 HG.out HB.out hkk k2
          have hm := gen_mail HG.out k2
          have hbm := base_mail HB.out (hkk.symm.trans k2)
          have hbp := mbase_pos hbm
          have hx := cAt_get b.text 0 hbp
          have e2 : (g.kind == 2) = true := beq_iff_eq.2 k2
          have HM : Hid (mailP g.text) := hm
          clear HP HK HZ HK2 HZ2 HG HB hkk k1 k2 hm hbm
          go_wp2_with fail
          refine (l6Mail_any g.text _ hs).mono ?_
          rintro e w3 ⟨x, y, ok, rfl, HR, hxs, hys, hb3⟩
          have B3 : Below w.heap.size w w3 := B2.trans (hb3.mono B2.size)
          obtain rfl : ok = true := by
            cases ok with
            | true => rfl
            | false => exact absurd HM.out (mailR_f HR.out)
          have HY : Hid (y = bh g.text 64) := by
            show y = _
            rcases HR.out with ⟨_, q⟩ | ⟨q, _⟩
            · exact (mail_bh q).1
            · cases q
          have HI2 : Hid (P ↔ (cAt b.text 0 = 46 ∧ endsP y b.text) ∨ (cAt b.text 0 ≠ 46 ∧ (g.text = b.text ∨ y = b.text))) := by show P ↔ _; rw [HI.out, HY.out]; exact Iff.rfl
          clear HR HI HM p0 p1 p2 p3 p4 q0 q1 q2 q3 q4 HY
          obtain ⟨p0, p1, p2, p3, p4⟩ := (Y1.out.kept hb3).cells
          obtain ⟨q0, q1, q2, q3, q4⟩ := (Y2.out.kept hb3).cells
          clear Y1 Y2
          by_cases hd : (b.text[0].toNat : Int) = 46
          · have zd : ((b.text[0].toNat : Int) == 46) = true := beq_iff_eq.2 hd
            have HI3 : Hid (P ↔ endsP y b.text) := by
              show P ↔ _
              rw [HI2.out]
              constructor
              · rintro (q | q)
                · exact q.2
                · exact absurd (hx.trans hd) q.1
              · exact fun q => .inl ⟨hx.trans hd, q⟩
            clear HI2 hx hd
            go_wp2_with fail
            refine (l6Ends_any y b.text _ (by omega) (by omega)).mono ?_
            rintro e w4 ⟨r4, rfl, HV4, hw4⟩
            subst hw4
            go_wp2
            go_ret
            exact ⟨r4, rfl, HV4.out.trans HI3.out.symm, B3⟩
          · have zd : ((b.text[0].toNat : Int) == 46) = false := beq_false_of_ne hd
            have HI3 : Hid (P ↔ (g.text = b.text ∨ y = b.text)) := by
              show P ↔ _
              rw [HI2.out]
              constructor
              · rintro (q | q)
                · exact absurd (hx.symm.trans q.1) hd
                · exact q.2
              · exact fun q => .inr ⟨fun r => hd (hx.symm.trans r), q⟩
            clear HI2 hx hd
            by_cases heq : g.text = b.text
            · have HN : Hid P := HI3.out.2 (.inl heq)
              have z5 : (g.text.toList == b.text.toList) = true := (toList_same _ _).2 heq
              clear HI3 heq
              go_wp2
              go_ret
              exact saysB_t HN.out B3
            · have z5 : (g.text.toList == b.text.toList) = false := by rw [Bool.eq_false_iff]; exact fun q => heq ((toList_same _ _).1 q)
              by_cases hyb : y = b.text
              · have HN : Hid P := HI3.out.2 (.inr hyb)
                have z6 : (y.toList == b.text.toList) = true := (toList_same _ _).2 hyb
                clear HI3 heq hyb
                go_wp2
                go_ret
                exact saysB_t HN.out B3
              · have HN : Hid (¬ P) := fun q => by rcases HI3.out.1 q with q | q; exact heq q; exact hyb q
                have z6 : (y.toList == b.text.toList) = false := by rw [Bool.eq_false_iff]; exact fun q => hyb ((toList_same _ _).1 q)
                clear HI3 heq hyb
                go_wp2
                go_ret
                exact saysB_f HN.out B3
        have e2 : (g.kind == 2) = false := beq_false_of_ne k2
        by_cases k3 : g.kind = 3
        · have HI : Hid (P ↔ relA g.addr b.addr b.bits) := by show P ↔ _; rw [HP.out]; exact withinP_3 HG.out HB.out hkk k3
          obtain ⟨hb0, hb1'⟩ := base_bits HB.out (hkk.symm.trans k3)
          have e3 : (g.kind == 3) = true := beq_iff_eq.2 k3
          clear HP HK HZ HK2 HZ2 HG HB hkk k1 k2 k3 Y1 Y2
          by_cases hr : g.addr / (2 : Int) ^ (32 - b.bits).toNat = b.addr / (2 : Int) ^ (32 - b.bits).toNat
          · have HN : Hid P := HI.out.2 hr
            have z6 : (g.addr / (2 : Int) ^ (32 - b.bits).toNat == b.addr / (2 : Int) ^ (32 - b.bits).toNat) = true := beq_iff_eq.2 hr
            clear HI hr
            go_wp2
            go_ret
            exact saysB_t HN.out B2
          · have HN : Hid (¬ P) := fun q => hr (HI.out.1 q)
            have z6 : (g.addr / (2 : Int) ^ (32 - b.bits).toNat == b.addr / (2 : Int) ^ (32 - b.bits).toNat) = false := beq_false_of_ne hr
            clear HI hr
            go_wp2
            go_ret
            exact saysB_f HN.out B2
        have e3 : (g.kind == 3) = false := beq_false_of_ne k3
        have k4 : g.kind = 4 := by rcases genP_kind HG.out with q | q | q | q <;> omega
        have HI : Hid (P ↔ underP xs ys) := by show P ↔ _; rw [HP.out]; exact withinP_4 HG.out HB.out hkk k4
        have SU := specUnder_any a n c xs a2 n2 c2 ys w2 (HK.out.kept B2) (HK2.out.kept B2) HZ.out HZ2.out
        unfold nmv at SU
        clear HP HK HZ HK2 HZ2 HG HB hkk k1 k2 k3 k4 Y1 Y2
        go_wp2_with fail
        refine SU.mono ?_
        rintro e w3 ⟨r3, rfl, HV3, hb3⟩
        have B3 : Below w.heap.size w w3 := B2.trans (hb3.mono B2.size)
        clear SU
        go_wp2
        go_ret
        exact ⟨r3, rfl, HV3.out.trans HI.out.symm, B3⟩
      · have zk : (g.kind != b.kind) = true := bne_iff_ne.2 hkk
        have HN : Hid (¬ P) := by show ¬ P; rw [HP.out]; exact fun q => hkk q.2.2.1
        clear HP HK HZ HK2 HZ2 Y1 Y2 HG HB hkk
        go_wp2
        go_ret
        exact saysB_f HN.out B2

end Go.Proofs.YtmmbfoncpjjonabDoor
