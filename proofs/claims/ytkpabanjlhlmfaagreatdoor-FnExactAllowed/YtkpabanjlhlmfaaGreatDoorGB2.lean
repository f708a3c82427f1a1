import Derived.Test.YtkpabanjlhlmfaaGreatDoorGB
namespace Go.Proofs.YtkpabanjlhlmfaaGreatDoor
open Go.RowKit

/-- What PowMod answers. -/
def powOk (b e m : Int) : Prop := (1 ≤ m ∧ m ≤ 2147483648) ∧ (0 ≤ b ∧ b ≤ m - 1) ∧ 0 ≤ e
instance (b e m : Int) : Decidable (powOk b e m) := by unfold powOk; infer_instance
def powV (b e m : Int) : Int × Bool := if powOk b e m then (pw b e.toNat m, true) else (0, false)
def pair (t : Int × Bool) : Value := .tuple #[.int .i64 t.1, .bool t.2]

set_option maxRecDepth 10000 in
set_option maxHeartbeats 1000000 in
theorem implPowMod_any (b e m : Int) (w : World) (he' : e ≤ 9223372036854775807) :
    Calls Tryz.prog 204 #[.int .i64 b, .int .i64 e, .int .i64 m] w fun r w' => r = .returned (pair (powV b e m)) ∧ w' = w := by
  by_cases h1 : 1 ≤ m ∧ m ≤ 2147483648
  · by_cases h2 : 0 ≤ b ∧ b ≤ m - 1
    · by_cases h3 : 0 ≤ e
      · have HR : Hid (powV b e m = (pw b e.toNat m, true)) := by show _ = _; unfold powV; rw [if_pos ⟨h1, h2, h3⟩]
        have HV : Hid ((1 % m) * b ^ e.toNat % m = pw b e.toNat m) := by show _ = _; unfold pw; rw [Int.mul_emod, Int.emod_emod_of_dvd _ (Int.dvd_refl m), ← Int.mul_emod, Int.one_mul]
        obtain ⟨hm, hm'⟩ := h1
        obtain ⟨hb, hb'⟩ := h2
        have hb1 : b < m := by omega
        have hm1 := mod_bd 1 hm
        go_enter Tryz.func204, Tryz.ntmps204
        go_wp2_with fail
        refine (inBounds_t m 1 2147483648 _ ⟨hm, hm'⟩).mono ?_
        rintro r w1 ⟨rfl, rfl⟩
        go_wp2_with fail
        refine (inBounds_t b 0 (m - 1) _ ⟨hb, hb'⟩).mono ?_
        rintro r w1 ⟨rfl, rfl⟩
        go_wp2
        go_loopw [0, 1, 8] (fun vb ve vo wr => ∃ (b' e' out : Int), vb = .int .i64 b' ∧ ve = .int .i64 e' ∧ vo = .int .i64 out ∧ 0 ≤ b' ∧ b' < m ∧ 0 ≤ e' ∧ e' ≤ 9223372036854775807 ∧ 0 ≤ out ∧ out < m ∧ Hid (out * b' ^ e'.toNat % m = pw b e.toNat m) ∧ w1 = wr) (fun _ ve _ _ => (intOf ve).toNat)
        case atStart => exact ⟨b, e, 1 % m, rfl, rfl, rfl, hb, hb1, h3, he', hm1.1, hm1.2, HV, rfl⟩
        case round =>
          obtain ⟨b', e', out, rfl, rfl, rfl, hb0, hb1, he0, he1, ho0, ho1, HI, rfl⟩ := hrel
          by_cases hp : 0 < e'
          · have hbb := mul_bd hb0 hb1 hb0 hb1 hm'
            have hob := mul_bd ho0 ho1 hb0 hb1 hm'
            have hbm := mod_bd (b' * b') hm
            have hom := mod_bd (out * b') hm
            have ha := and1 e' he0 he1
            by_cases hodd : e' % 2 = 1
            · have HN : Hid ((out * b' % m) * (b' * b' % m) ^ (e' / 2).toNat % m = pw b e.toNat m) := by
                show _ = _
                rw [← HI.out, show (e' / 2).toNat = e'.toNat / 2 by omega]
                exact pw_odd out b' m e'.toNat (by omega)
              have z : (e' % 2 == 1) = true := beq_iff_eq.2 hodd
              clear hodd HI
              go_wp2
              go_roundw
              case rel => exact ⟨_, _, _, rfl, rfl, rfl, hbm.1, hbm.2, by omega, by omega, hom.1, hom.2, HN, by trivial⟩
              case measure => simp [intOf]; omega
            · have HN : Hid (out * (b' * b' % m) ^ (e' / 2).toNat % m = pw b e.toNat m) := by
                show _ = _
                rw [← HI.out, show (e' / 2).toNat = e'.toNat / 2 by omega]
                exact pw_even out b' m e'.toNat (by omega)
              have z : (e' % 2 == 1) = false := beq_false_of_ne hodd
              clear hodd HI
              go_wp2
              go_roundw
              case rel => exact ⟨_, _, _, rfl, rfl, rfl, hbm.1, hbm.2, by omega, by omega, ho0, ho1, HN, by trivial⟩
              case measure => simp [intOf]; omega
          · obtain rfl : e' = 0 := by omega
            have HE : Hid (out = pw b e.toNat m) := by
              show _ = _
              rw [← HI.out, show Int.toNat 0 = 0 from rfl, Int.pow_zero, Int.mul_one, Int.emod_eq_of_lt ho0 ho1]
            clear HI
            go_wp2
            go_ret2
            exact ⟨by rw [HR.out, ← HE.out]; rfl, rfl⟩
      · have HV : Hid (powV b e m = (0, false)) := by show _ = _; unfold powV; rw [if_neg (fun h => h3 h.2.2)]
        go_enter Tryz.func204, Tryz.ntmps204
        go_wp2_with fail
        refine (inBounds_t m 1 2147483648 _ h1).mono ?_
        rintro r w1 ⟨rfl, rfl⟩
        go_wp2_with fail
        refine (inBounds_t b 0 (m - 1) _ h2).mono ?_
        rintro r w1 ⟨rfl, rfl⟩
        go_wp2
        go_ret2
        exact ⟨by rw [HV.out]; rfl, rfl⟩
    · have HV : Hid (powV b e m = (0, false)) := by show _ = _; unfold powV; rw [if_neg (fun h => h2 h.2.1)]
      go_enter Tryz.func204, Tryz.ntmps204
      go_wp2_with fail
      refine (inBounds_t m 1 2147483648 _ h1).mono ?_
      rintro r w1 ⟨rfl, rfl⟩
      go_wp2_with fail
      refine (inBounds_f b 0 (m - 1) _ h2).mono ?_
      rintro r w1 ⟨rfl, rfl⟩
      go_wp2
      go_ret2
      exact ⟨by rw [HV.out]; rfl, rfl⟩
  · have HV : Hid (powV b e m = (0, false)) := by show _ = _; unfold powV; rw [if_neg (fun h => h1 h.1)]
    go_enter Tryz.func204, Tryz.ntmps204
    go_wp2_with fail
    refine (inBounds_f m 1 2147483648 _ h1).mono ?_
    rintro r w1 ⟨rfl, rfl⟩
    go_wp2
    go_ret2
    exact ⟨by rw [HV.out]; rfl, rfl⟩

end Go.Proofs.YtkpabanjlhlmfaaGreatDoor
