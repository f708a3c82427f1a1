import Derived.Test.YtoncodoimnideaaGreatDoorHM2
import Derived.Test.YtoncodoimnideaaGreatDoorLHostOk
import Derived.Test.YtoncodoimnideaaGreatDoorMGN
namespace Go.Proofs.YtoncodoimnideaaGreatDoor
open Go.RowKit

theorem below_drewN {B : Nat} {w w' : World} (h : Below B w w') (n : Nat) : Below B w (w'.drewN n) := by
  induction n with
  | zero => simpa [World.drewN] using h
  | succ n ih => exact ih.drew

set_option maxRecDepth 10000 in
set_option maxHeartbeats 2000000 in
theorem implHostMatch_any (p h : ByteArray) (w : World) (hm : MaxW w) : Calls Tryz.prog 8 #[.string p, .string h] w (SaysB (matchP p h) w) := by
  obtain ⟨P, hP⟩ : ∃ P, P = matchP p h := ⟨_, rfl⟩
  rw [← hP]
  have HP : Hid (P ↔ hostP h false ∧ hostP p true ∧ (p = h ∨ (cAt p 0 = 42 ∧ bh p 46 = bh h 46))) := by show P ↔ _; rw [hP]; exact Iff.rfl
  have HM : Hid (MaxW w) := hm
  clear hP hm
  go_enter Tryz.func8, Tryz.ntmps8
  go_wp2_with fail
  refine (implHostOk_any h false _ HM.out).mono ?_
  rintro e w1 ⟨b1, rfl, HV1, hb1⟩
  cases b1 with
  | false =>
    have HN : Hid (¬ P) := by show ¬ P; rw [HP.out]; intro q; exact Bool.false_ne_true (HV1.out.2 q.1)
    clear HV1 HP
    go_wp2
    go_ret
    exact saysB_f HN.out hb1
  | true =>
    go_wp2_with fail
    refine (implHostOk_any p true _ (HM.out.kept hb1)).mono ?_
    rintro e w2 ⟨b2, rfl, HV2, hb2⟩
    have hb : Below w.heap.size w w2 := hb1.trans (hb2.mono hb1.size)
    clear hb1 hb2
    cases b2 with
    | false =>
      have HN : Hid (¬ P) := by show ¬ P; rw [HP.out]; intro q; exact Bool.false_ne_true (HV2.out.2 q.2.1)
      clear HV1 HV2 HP
      go_wp2
      go_ret
      exact saysB_f HN.out hb
    | true =>
      have q1 := HV1.out.1 (by first | rfl | trivial)
      have q2 := HV2.out.1 (by first | rfl | trivial)
      have hhs : h.size ≤ 100 := q1.1
      have HPP : Hid (P ↔ (p = h ∨ (cAt p 0 = 42 ∧ bh p 46 = bh h 46))) := by
        show P ↔ _
        rw [HP.out]
        exact ⟨fun q => q.2.2, fun q => ⟨q1, q2, q⟩⟩
      have HST : Hid (cAt p 0 = 42 → 2 ≤ p.size ∧ cAt p 1 = 46) := hostP_star q2
      clear HV1 HV2 HP q1 q2
      by_cases heq : p = h
      · have HN : Hid P := HPP.out.2 (.inl heq)
        have z : (p.toList == h.toList) = true := (toList_same p h).2 heq
        clear heq HPP
        go_wp2
        go_ret
        exact saysB_t HN.out hb
      · have z : (p.toList == h.toList) = false := by rw [Bool.eq_false_iff]; exact fun q => heq ((toList_same p h).1 q)
        go_wp2_with fail
        refine (cutWild_any p _).mono ?_
        rintro e w3 ⟨rfl, hw3⟩
        subst hw3
        obtain ⟨m, hm⟩ := HM.out.kept hb
        have HMM : Hid (w2.cell? ⟨0, 0, none⟩ = some (.int .i64 m)) := hm
        clear hm
        obtain ⟨rest, hrest⟩ : ∃ r : ByteArray, r = ⟨(Lib.trimPrefix p.data.toList [42, 46]).toArray⟩ := ⟨_, rfl⟩
        rw [← hrest]
        obtain ⟨wl, hwl⟩ : ∃ b : Bool, b = Lib.hasPrefix p.data.toList [42, 46] := ⟨_, rfl⟩
        rw [← hwl]
        have HPX : Hid (P ↔ wl = true ∧ rest = bh h 46) := by
          show P ↔ _
          rw [HPP.out]
          constructor
          · rintro (q | ⟨qa, qb⟩)
            · exact absurd q heq
            · obtain ⟨qc, qd⟩ := HST.out qa
              have hp : Lib.hasPrefix p.data.toList [42, 46] = true := (pre_star p).2 ⟨qc, qa, qd⟩
              exact ⟨hwl.trans hp, by rw [hrest, trim_star hp, ← bh_star qc qa qd]; exact qb⟩
          · rintro ⟨qa, qb⟩
            have hp : Lib.hasPrefix p.data.toList [42, 46] = true := hwl ▸ qa
            obtain ⟨qc, qd, qe⟩ := (pre_star p).1 hp
            exact .inr ⟨qd, by rw [bh_star qc qd qe, ← trim_star hp, ← hrest]; exact qb⟩
        clear hrest hwl HPP HST heq
        go_wp2_with fail
        refine (Tryz.strings_Cut h ⟨#[46]⟩ m _ (by omega) HMM.out).mono ?_
        rintro e w4 ⟨rfl, nn, hw4⟩
        have hcut : (⟨(Lib.cut h.data.toList (⟨#[46]⟩ : ByteArray).data.toList).2.1.toArray⟩ : ByteArray) = bh h 46 := cut_bh h 46
        rw [hcut]
        obtain ⟨tl, htl⟩ : ∃ tl, tl = bh h 46 := ⟨_, rfl⟩
        rw [← htl] at HPX ⊢
        obtain ⟨x1, hx1⟩ : ∃ x : ByteArray, x = ⟨(Lib.cut h.data.toList (⟨#[46]⟩ : ByteArray).data.toList).1.toArray⟩ := ⟨_, rfl⟩
        obtain ⟨x2, hx2⟩ : ∃ x : Bool, x = (Lib.cut h.data.toList (⟨#[46]⟩ : ByteArray).data.toList).2.2 := ⟨_, rfl⟩
        rw [← hx1, ← hx2]
        have hb4 : Below w.heap.size w w4 := by rw [hw4]; exact below_drewN hb nn
        clear hx1 hx2 htl hcut hw4 HMM
        cases wl with
        | false =>
          have HN : Hid (¬ P) := fun q => Bool.false_ne_true (HPX.out.1 q).1
          clear HPX
          go_wp2
          go_ret
          exact saysB_f HN.out hb4
        | true =>
          by_cases hrt : rest = tl
          · have HN : Hid P := HPX.out.2 ⟨rfl, hrt⟩
            have z5 : (rest.toList == tl.toList) = true := (toList_same _ _).2 hrt
            clear HPX hrt
            go_wp2
            go_ret
            exact saysB_t HN.out hb4
          · have HN : Hid (¬ P) := fun q => hrt (HPX.out.1 q).2
            have z5 : (rest.toList == tl.toList) = false := by rw [Bool.eq_false_iff]; exact fun q => hrt ((toList_same _ _).1 q)
            clear HPX hrt
            go_wp2
            go_ret
            exact saysB_f HN.out hb4

end Go.Proofs.YtoncodoimnideaaGreatDoor

