import Derived.Test.YtoncodoimnideaaGreatDoorHM1
namespace Go.Proofs.YtoncodoimnideaaGreatDoor
open Go.RowKit

theorem toList_same (a b : ByteArray) : (a.toList == b.toList) = true ↔ a = b := by
  rw [ByteArray.toList_eq, ByteArray.toList_eq, beq_iff_eq]
  constructor
  · intro h
    have e := Lib.mk_data a
    rw [h, Lib.mk_data b] at e
    exact e.symm
  · intro h; rw [h]

set_option maxRecDepth 10000 in
set_option maxHeartbeats 1000000 in
theorem l6Behind_any (s : ByteArray) (w : World) (hs : s.size ≤ 1048576) : Calls Tryz.prog 26 #[.string s] w fun e w' => e = .returned (.string (bh s 46)) ∧ w = w' := by
  obtain ⟨r, hr⟩ : ∃ r, r = bh s 46 := ⟨_, rfl⟩
  rw [← hr]
  have HR : Hid (r = bh s 46) := hr
  clear hr
  go_enter Tryz.func26, Tryz.ntmps26
  go_wp2
  go_loopw [3] (fun i wr => ∃ k : Nat, k ≤ s.size ∧ i = .int .i64 k ∧ Hid (behind s 46 (s.size - k) k = r) ∧ w = wr) (fun i _ => s.size - (intOf i).toNat)
  case atStart => exact ⟨0, by omega, rfl, HR.out.symm, rfl⟩
  case round =>
    obtain ⟨k, hk, rfl, HI, rfl⟩ := hrel
    by_cases hlt : k < s.size
    · have hx := cAt_get s k hlt
      obtain ⟨m, hm⟩ : ∃ m, s.size - k = m + 1 := ⟨s.size - k - 1, by omega⟩
      by_cases hc : (s[k].toNat : Int) = 46
      · have HN : Hid (r = s.extract (k + 1) s.size) := by
          show r = _
          rw [← HI.out, hm, behind, if_pos (hx.trans hc)]
        have z : ((s[k].toNat : Int) == 46) = true := beq_iff_eq.2 hc
        clear HI hc hx hm HR
        go_wp2
        go_ret
        exact ⟨by rw [HN.out]; rfl, rfl⟩
      · have HN : Hid (behind s 46 (s.size - (k + 1)) (k + 1) = r) := by
          show _ = r
          rw [← HI.out, hm, behind, if_neg (fun h => hc (hx.symm.trans h)), show s.size - (k + 1) = m by omega]
        have z : ((s[k].toNat : Int) == 46) = false := beq_false_of_ne hc
        clear HI hc hx hm HR
        go_wp2
        go_roundw
        case rel => exact ⟨k + 1, by omega, by go_num, HN, by trivial⟩
        case measure => simp [intOf]; omega
    · obtain rfl : k = s.size := by omega
      have HN : Hid (r = ByteArray.empty) := by
        show r = _
        rw [← HI.out, Nat.sub_self]
        rfl
      clear HI HR
      go_wp2
      go_ret
      exact ⟨by rw [HN.out]; rfl, rfl⟩

set_option maxRecDepth 10000 in
set_option maxHeartbeats 2000000 in
theorem specHostMatch_any (p h : ByteArray) (w : World) : Calls Tryz.prog 9 #[.string p, .string h] w (SaysB (matchP p h) w) := by
  obtain ⟨P, hP⟩ : ∃ P, P = matchP p h := ⟨_, rfl⟩
  rw [← hP]
  have HP : Hid (P ↔ hostP h false ∧ hostP p true ∧ (p = h ∨ (cAt p 0 = 42 ∧ bh p 46 = bh h 46))) := by show P ↔ _; rw [hP]; exact Iff.rfl
  clear hP
  go_enter Tryz.func9, Tryz.ntmps9
  go_wp2_with fail
  refine (specHostOk_any h false _).mono ?_
  rintro e w1 ⟨b1, rfl, HV1, hb1⟩
  cases b1 with
  | false =>
    have HN : Hid (¬ P) := by show ¬ P; rw [HP.out]; intro q; exact Bool.false_ne_true (HV1.out.2 q.1)
    clear HV1 HP
    go_wp2
    go_ret
    exact saysB_f HN.out hb1
  | true =>
    go_wp2_with fail
    refine (specHostOk_any p true _).mono ?_
    rintro e w2 ⟨b2, rfl, HV2, hb2⟩
    have hb : Below w.heap.size w w2 := hb1.trans (hb2.mono hb1.size)
    clear hb1 hb2
    cases b2 with
    | false =>
      have HN : Hid (¬ P) := by show ¬ P; rw [HP.out]; intro q; exact Bool.false_ne_true (HV2.out.2 q.2.1)
      clear HV1 HV2 HP
      go_wp2
      go_ret
      exact saysB_f HN.out hb
    | true =>
      have q1 := HV1.out.1 (by first | rfl | trivial)
      have q2 := HV2.out.1 (by first | rfl | trivial)
      have hp0 := hostP_pos q2
      have hps : p.size ≤ 100 := q2.1
      have hhs : h.size ≤ 100 := q1.1
      have HPP : Hid (P ↔ (p = h ∨ (cAt p 0 = 42 ∧ bh p 46 = bh h 46))) := by
        show P ↔ _
        rw [HP.out]
        exact ⟨fun q => q.2.2, fun q => ⟨q1, q2, q⟩⟩
      have hx := cAt_get p 0 hp0
      clear HV1 HV2 HP q1 q2
      by_cases heq : p = h
      · have HN : Hid P := HPP.out.2 (.inl heq)
        have z : (p.toList == h.toList) = true := (toList_same p h).2 heq
        clear heq HPP hx
        go_wp2
        go_ret
        exact saysB_t HN.out hb
      · have z : (p.toList == h.toList) = false := by rw [Bool.eq_false_iff]; exact fun q => heq ((toList_same p h).1 q)
        by_cases hc : (p[0].toNat : Int) = 42
        · have z0 : ((p[0].toNat : Int) == 42) = true := beq_iff_eq.2 hc
          have HPQ : Hid (P ↔ bh p 46 = bh h 46) := by
            show P ↔ _
            rw [HPP.out]
            exact ⟨fun q => q.resolve_left heq |>.2, fun q => .inr ⟨hx.trans hc, q⟩⟩
          clear heq HPP hx hc
          go_wp2_with fail
          refine (l6Behind_any p _ (by omega)).mono ?_
          rintro e w3 ⟨rfl, rfl⟩
          go_wp2_with fail
          refine (l6Behind_any h _ (by omega)).mono ?_
          rintro e w3 ⟨rfl, rfl⟩
          by_cases hbb : bh p 46 = bh h 46
          · have HN : Hid P := HPQ.out.2 hbb
            have z5 : ((bh p 46).toList == (bh h 46).toList) = true := (toList_same _ _).2 hbb
            clear HPQ hbb
            go_wp2
            go_ret
            exact saysB_t HN.out hb
          · have HN : Hid (¬ P) := fun q => hbb (HPQ.out.1 q)
            have z5 : ((bh p 46).toList == (bh h 46).toList) = false := by rw [Bool.eq_false_iff]; exact fun q => hbb ((toList_same _ _).1 q)
            clear HPQ hbb
            go_wp2
            go_ret
            exact saysB_f HN.out hb
        · have z0 : ((p[0].toNat : Int) == 42) = false := beq_false_of_ne hc
          have HN : Hid (¬ P) := by
            show ¬ P
            rw [HPP.out]
            rintro (q | ⟨q, _⟩)
            · exact heq q
            · exact hc (hx.symm.trans q)
          clear heq HPP hx hc
          go_wp2
          go_ret
          exact saysB_f HN.out hb

end Go.Proofs.YtoncodoimnideaaGreatDoor
