import Derived.Test.YtkpabanjlhlmfaaGreatDoorGN4
import Derived.Test.YtkpabanjlhlmfaaGreatDoorL1In
namespace Go.Proofs.YtkpabanjlhlmfaaGreatDoor
open Go.RowKit

theorem genP_1 {g : GT} {xs : List PT} (hk : g.kind = 1) (hb : bareB g xs.length = true) (h0 : g.bits = 0) : genP g xs ↔ hostP g.text true := by
  obtain ⟨q1, q2⟩ := bare_12 hb (.inl hk)
  unfold genP
  constructor
  · rintro (⟨_, _, h⟩ | ⟨h, _⟩ | ⟨h, _⟩ | ⟨h, _⟩)
    · exact h
    all_goals omega
  · exact fun h => .inl ⟨hk, ⟨q1, h0, q2⟩, h⟩
theorem genP_2 {g : GT} {xs : List PT} (hk : g.kind = 2) (hb : bareB g xs.length = true) (h0 : g.bits = 0) : genP g xs ↔ mailP g.text := by
  obtain ⟨q1, q2⟩ := bare_12 hb (.inr hk)
  unfold genP
  constructor
  · rintro (⟨h, _⟩ | ⟨_, _, h⟩ | ⟨h, _⟩ | ⟨h, _⟩)
    · omega
    · exact h
    all_goals omega
  · exact fun h => .inr (.inl ⟨hk, ⟨q1, h0, q2⟩, h⟩)
theorem genP_3 {g : GT} {xs : List PT} (hk : g.kind = 3) (hb : bareB g xs.length = true) (h0 : g.bits = 0) : genP g xs ↔ (0 ≤ g.addr ∧ g.addr ≤ 4294967295) := by
  obtain ⟨q1, q2⟩ := bare_3 hb hk
  unfold genP
  constructor
  · rintro (⟨h, _⟩ | ⟨h, _⟩ | ⟨_, _, h, _⟩ | ⟨h, _⟩)
    · omega
    · omega
    · exact h
    · omega
  · exact fun h => .inr (.inr (.inl ⟨hk, ⟨q1, q2⟩, h, h0⟩))
theorem genP_4 {g : GT} {xs : List PT} (hk : g.kind = 4) (hb : bareB g xs.length = true) (h0 : g.bits = 0) : genP g xs ↔ (nameP xs ∧ 0 < xs.length) := by
  obtain ⟨q1, q2⟩ := bare_4 hb hk
  unfold genP
  constructor
  · rintro (⟨h, _⟩ | ⟨h, _⟩ | ⟨h, _⟩ | ⟨_, _, h⟩)
    · omega
    · omega
    · omega
    · exact h
  · exact fun h => .inr (.inr (.inr ⟨hk, ⟨q1, q2, h0⟩, h⟩))
theorem genP_bits {g : GT} {xs : List PT} (h : genP g xs) : g.bits = 0 := by
  rcases h with ⟨_, ⟨_, h, _⟩, _⟩ | ⟨_, ⟨_, h, _⟩, _⟩ | ⟨_, _, _, h⟩ | ⟨_, ⟨_, _, h⟩, _⟩ <;> exact h
theorem genP_kind {g : GT} {xs : List PT} (h : genP g xs) : g.kind = 1 ∨ g.kind = 2 ∨ g.kind = 3 ∨ g.kind = 4 := by
  rcases h with ⟨h, _⟩ | ⟨h, _⟩ | ⟨h, _⟩ | ⟨h, _⟩ <;> omega
theorem baseP_kind {g : GT} {xs : List PT} (h : baseP g xs) : g.kind = 1 ∨ g.kind = 2 ∨ g.kind = 3 ∨ g.kind = 4 := by
  rcases h with ⟨h, _⟩ | ⟨h, _⟩ | ⟨h, _⟩ | ⟨h, _⟩ <;> omega

set_option maxRecDepth 10000 in
set_option maxHeartbeats 4000000 in
theorem specGenOk_any (g : GT) (a : Option Addr) (n c : Nat) (xs : List PT) (w : World) (h : Pts w a n xs) (hz : ∀ k, k < n → (xs.getD k default).val.size ≤ 1048576) (hs : g.text.size ≤ 1048576) :
    Calls Tryz.prog 78 #[gnv g a n c] w (SaysB (genP g xs) w) := by
  obtain ⟨P, hP⟩ : ∃ P, P = genP g xs := ⟨_, rfl⟩
  rw [← hP]
  have HP : Hid (P = genP g xs) := hP
  have HK : Hid (Pts w a n xs) := h
  have HZ : Hid (_) := hz
  have hl := h.len
  have hmx := h.max
  clear hP h hz
  have hbl : Below w.heap.size w (w.alloc (.cells #[.int .i64 g.kind, .string g.text, .int .i64 g.addr, .int .i64 g.bits, .slice a n c] 96)) := (Below.refl _ _).alloc (Nat.le_refl _) _
  have hbx := boxG_new 96 w g a n c
  have LB := l6Bare_any g a n c
  unfold gnv at LB ⊢
  go_enter Tryz.func78, Tryz.ntmps78
  go_wp2_with fail
  refine (LB _).mono ?_
  rintro e w1 ⟨rfl, hb1⟩
  have B1 : Below w.heap.size w w1 := hbl.trans (hb1.mono hbl.size)
  obtain ⟨p0, p1, p2, p3, p4⟩ := (hbx.kept hb1).cells
  have hlt : w.heap.size < w1.heap.size := Nat.lt_of_lt_of_le (by simp) hb1.size
  obtain ⟨B, hB⟩ : ∃ B, B = bareB g n := ⟨_, rfl⟩
  rw [← hB]
  clear LB hbx hbl hb1
  cases B with
  | false =>
    have HN : Hid (¬ P) := by show ¬ P; rw [HP.out]; exact (bare_f (by rw [hl]; exact hB.symm)).1
    clear hB HP HK HZ
    go_wp2
    go_ret
    exact saysB_f HN.out B1
  | true =>
    have HBB : Hid (bareB g xs.length = true) := by show _ = true; rw [hl]; exact hB.symm
    clear hB
    by_cases hb0 : g.bits = 0
    · have zb : (g.bits != 0) = false := by simp [hb0]
      by_cases k1 : g.kind = 1
      · have HI : Hid (P ↔ hostP g.text true) := by show P ↔ _; rw [HP.out]; exact genP_1 k1 HBB.out hb0
        have e1 : (g.kind == 1) = true := beq_iff_eq.2 k1
        clear HP HK HZ HBB hb0 k1
        go_wp2_with fail
        refine (specHostOk_any g.text true _).mono ?_
        rintro e w2 ⟨b, rfl, HV, hb2⟩
        have B2 : Below w.heap.size w w2 := B1.trans (hb2.mono B1.size)
        go_wp2
        go_ret
        exact ⟨b, rfl, HV.out.trans HI.out.symm, B2⟩
      have e1 : (g.kind == 1) = false := beq_false_of_ne k1
      by_cases k2 : g.kind = 2
      · have HI : Hid (P ↔ mailP g.text) := by show P ↔ _; rw [HP.out]; exact genP_2 k2 HBB.out hb0
        have e2 : (g.kind == 2) = true := beq_iff_eq.2 k2
        clear HP HK HZ HBB hb0 k1 k2
        go_wp2_with fail
        refine (l6MailOk_any g.text _ hs).mono ?_
        rintro e w2 ⟨b, rfl, HV, hb2⟩
        have B2 : Below w.heap.size w w2 := B1.trans (hb2.mono B1.size)
        go_wp2
        go_ret
        exact ⟨b, rfl, HV.out.trans HI.out.symm, B2⟩
      have e2 : (g.kind == 2) = false := beq_false_of_ne k2
      by_cases k3 : g.kind = 3
      · have HI : Hid (P ↔ (0 ≤ g.addr ∧ g.addr ≤ 4294967295)) := by show P ↔ _; rw [HP.out]; exact genP_3 k3 HBB.out hb0
        have e3 : (g.kind == 3) = true := beq_iff_eq.2 k3
        clear HP HK HZ HBB hb0 k1 k2 k3
        go_wp2_with fail
        refine (l1In_says g.addr 0 4294967295 _).mono ?_
        rintro e w2 ⟨b, rfl, HV, hw2⟩
        subst hw2
        go_wp2
        go_ret
        exact ⟨b, rfl, HV.out.trans HI.out.symm, B1⟩
      have e3 : (g.kind == 3) = false := beq_false_of_ne k3
      by_cases k4 : g.kind = 4
      · have HI : Hid (P ↔ (nameP xs ∧ 0 < xs.length)) := by show P ↔ _; rw [HP.out]; exact genP_4 k4 HBB.out hb0
        have e4 : (g.kind == 4) = true := beq_iff_eq.2 k4
        clear HP HBB hb0 k1 k2 k3 k4
        have SN := specNameOk_any a n c xs w1 (HK.out.kept B1) HZ.out
        unfold nmv at SN
        go_wp2_with fail
        refine SN.mono ?_
        rintro e w2 ⟨b, rfl, HV, hb2⟩
        have B2 : Below w.heap.size w w2 := B1.trans (hb2.mono B1.size)
        have y4 : w2.cell? ⟨w.heap.size, 4, none⟩ = some (.slice a n c) := (hb2.cell (p := ⟨w.heap.size, 4, none⟩) hlt).trans p4
        clear SN HK HZ
        cases b with
        | false =>
          have HN : Hid (¬ P) := fun q => Bool.false_ne_true (HV.out.2 (HI.out.1 q).1)
          clear HV HI
          go_wp2
          go_ret
          exact saysB_f HN.out B2
        | true =>
          by_cases hn0 : 0 < n
          · have HN : Hid P := HI.out.2 ⟨HV.out.1 rfl, by rw [hl]; exact hn0⟩
            have zn : decide ((0 : Int) < (n : Int)) = true := decide_eq_true (by omega)
            clear HV HI
            go_wp2
            go_ret
            exact saysB_t HN.out B2
          · have HN : Hid (¬ P) := fun q => hn0 (by rw [← hl]; exact (HI.out.1 q).2)
            have zn : decide ((0 : Int) < (n : Int)) = false := decide_eq_false (by omega)
            clear HV HI
            go_wp2
            go_ret
            exact saysB_f HN.out B2
      · have e4 : (g.kind == 4) = false := beq_false_of_ne k4
        have HN : Hid (¬ P) := by show ¬ P; rw [HP.out]; intro q; rcases genP_kind q with q | q | q | q <;> omega
        clear HP HK HZ HBB hb0 k1 k2 k3 k4
        go_wp2
        go_ret
        exact saysB_f HN.out B1
    · have zb : (g.bits != 0) = true := bne_iff_ne.2 hb0
      have HN : Hid (¬ P) := by show ¬ P; rw [HP.out]; exact fun q => hb0 (genP_bits q)
      clear HP HK HZ HBB hb0
      go_wp2
      go_ret
      exact saysB_f HN.out B1

end Go.Proofs.YtkpabanjlhlmfaaGreatDoor
