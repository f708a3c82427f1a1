import Derived.Test.YtjdfbebdcpjpiaaDoorWI64
import Derived.Test.YtjdfbebdcpjpiaaDoorT4
import Derived.Test.YtjdfbebdcpjpiaaDoorW3
import Derived.Test.YtjdfbebdcpjpiaaDoorWApp
import Derived.BigQuiet
import Derived.Deep.QuietTactic
import Derived.Deep.DeepCutAuto
namespace Go.Proofs.YtjdfbebdcpjpiaaDoor
open Go.RowKit

def arc2 (x : Int) : Int := if x = 2 then 1000 else 39
def arcP (zs : List Int) : Prop := (2 ≤ zs.length ∧ zs.length ≤ 12) ∧ (0 ≤ zs.getD 0 0 ∧ zs.getD 0 0 ≤ 2) ∧ (0 ≤ zs.getD 1 0 ∧ zs.getD 1 0 ≤ arc2 (zs.getD 0 0)) ∧ ∀ k, 2 ≤ k → k < zs.length → 0 ≤ zs.getD k 0 ∧ zs.getD k 0 ≤ 1099511627776

set_option maxRecDepth 10000 in
set_option maxHeartbeats 400000 in
theorem maxSecondArc_any (x : Int) (w : World) : Calls Tryd.prog 47 #[.int .i64 x] w fun e w' => e = .returned (.int .i64 (arc2 x)) ∧ w' = w := by
  by_cases h : x = 2
  · have HV : Hid (arc2 x = 1000) := by show _ = _; unfold arc2; rw [if_pos h]
    have z : (x == 2) = true := beq_iff_eq.2 h
    clear h
    go_enter Tryd.func47, Tryd.ntmps47
    go_wp2
    go_ret
    exact ⟨by rw [HV.out]; rfl, rfl⟩
  · have HV : Hid (arc2 x = 39) := by show _ = _; unfold arc2; rw [if_neg h]
    have z : (x == 2) = false := beq_false_of_ne h
    clear h
    go_enter Tryd.func47, Tryd.ntmps47
    go_wp2
    go_ret
    exact ⟨by rw [HV.out]; rfl, rfl⟩

set_option maxRecDepth 10000 in
set_option maxHeartbeats 2000000 in
theorem implArcsOk_any (a : Option Addr) (n c : Nat) (zs : List Int) (w : World) (h : Row64 w a n zs) (hn : n ≤ 2000000) (hc : n ≤ c) (hc2 : c ≤ 9223372036854775807) :
    Calls Tryd.prog 25 #[.slice a n c] w (Says (arcP zs) w) := by
  have HR : Hid (Row64 w a n zs) := h
  have HL : Hid (zs.length = n) := h.len
  clear h
  by_cases h1 : 2 ≤ (n : Int) ∧ (n : Int) ≤ 12
  · obtain ⟨b, off, rfl, hlb, hc0⟩ := HR.out.get 0 (by omega)
    obtain ⟨b', off', hab, _, hc1⟩ := HR.out.get 1 (by omega)
    simp only [Option.some.injEq, Addr.mk.injEq, and_true] at hab
    obtain ⟨rfl, rfl⟩ := hab
    obtain ⟨z0, hz0⟩ : ∃ z, z = zs.getD 0 0 := ⟨_, rfl⟩
    obtain ⟨z1, hz1⟩ : ∃ z, z = zs.getD 1 0 := ⟨_, rfl⟩
    rw [← hz0] at hc0
    rw [← hz1] at hc1
    have c0 : w.cell? ⟨b, off, none⟩ = some (.int .i64 z0) := hc0
    have HZ : Hid (z0 = zs.getD 0 0 ∧ z1 = zs.getD 1 0) := ⟨hz0, hz1⟩
    have H1 : Hid (2 ≤ (n : Int) ∧ (n : Int) ≤ 12) := h1
    have i0 : (0 : Int) < (n : Int) := by omega
    have i1 : (1 : Int) < (n : Int) := by omega
    clear hc0 hz0 hz1 h1
    by_cases h2 : 0 ≤ z0 ∧ z0 ≤ 2
    · by_cases h3 : 0 ≤ z1 ∧ z1 ≤ arc2 z0
      · have H2 : Hid (0 ≤ z0 ∧ z0 ≤ 2) := h2
        have H3 : Hid (0 ≤ z1 ∧ z1 ≤ arc2 z0) := h3
        clear h2 h3
        by_cases h4 : c = 2
        · subst h4
          have hn2 := H1.out
          obtain rfl : n = 2 := by omega
          clear hn2
          have HN : Hid (arcP zs) := ⟨⟨by rw [HL.out]; exact Nat.le_refl _, by rw [HL.out]; decide⟩, by rw [← HZ.out.1]; exact H2.out, by rw [← HZ.out.1, ← HZ.out.2]; exact H3.out, fun k h1 h2 => absurd h2 (by rw [HL.out]; omega)⟩
          go_enter Tryd.func25, Tryd.ntmps25
          go_wp2_with fail
          go_quiet (first
            | (go_at_call_of 33 (12 : Int); refine Calls.quiet_of_same (inBounds_t (2 : Int) 2 12 _ H1.out))
            | (go_at_call_of 33 z1; refine Calls.quiet_of_same (inBounds_t z1 0 (arc2 z0) _ H3.out))
            | (go_at_call_of 33 z0; refine Calls.quiet_of_same (inBounds_t z0 0 2 _ H2.out))
            | (go_at_call 47; refine Calls.quiet_of_same (maxSecondArc_any z0 _)))
          go_wp2
          go_loopw [30] (fun i wr => i = .int .i64 0 ∧ Below w.heap.size w wr) (fun _ _ => 0)
          case atStart => exact ⟨rfl, below_drewN' (Below.refl _ _) _⟩
          case round =>
            obtain ⟨rfl, hbr⟩ := hrel
            go_wp2
            go_ret
            exact says_t HN.out hbr
        · obtain ⟨m, hm⟩ : ∃ m, n - 2 = m := ⟨_, rfl⟩
          have HM : Hid (n - 2 = m ∧ n = m + 2) := ⟨hm, by have := H1.out; omega⟩
          have hmm : m ≤ 2000000 := by omega
          clear hm
          have h5 : 2 < c := by omega
          clear h4
          go_enter Tryd.func25, Tryd.ntmps25
          go_wp2_with fail
          go_quiet (first
            | (go_at_call_of 33 ((n : Nat) : Int); refine Calls.quiet_of_same (inBounds_t (n : Int) 2 12 _ H1.out))
            | (go_at_call_of 33 z1; refine Calls.quiet_of_same (inBounds_t z1 0 (arc2 z0) _ H3.out))
            | (go_at_call_of 33 z0; refine Calls.quiet_of_same (inBounds_t z0 0 2 _ H2.out))
            | (go_at_call 47; refine Calls.quiet_of_same (maxSecondArc_any z0 _)))
          go_wp2
          clear c0 hc1 i0 i1
          rw [HM.out.1]
          go_loopw [30] (fun i wr => ∃ k : Nat, k ≤ m ∧ i = .int .i64 k ∧ Hid (∀ j, 2 ≤ j → j < k + 2 → 0 ≤ zs.getD j 0 ∧ zs.getD j 0 ≤ 1099511627776) ∧ Below w.heap.size w wr) (fun i _ => m - (intOf i).toNat)
          case atStart => exact ⟨0, Nat.zero_le _, rfl, (fun j h1 h2 => absurd h2 (by omega)), below_drewN' (Below.refl _ _) _⟩
          case round =>
            obtain ⟨k, hk, rfl, HA, hbr⟩ := hrel
            by_cases hlt : k < m
            · obtain ⟨b3, off3, hab, _, hck⟩ := HR.out.get (k + 2) (by have := HM.out.2; omega)
              simp only [Option.some.injEq, Addr.mk.injEq, and_true] at hab
              obtain ⟨rfl, rfl⟩ := hab
              obtain ⟨z, hz⟩ : ∃ z, z = zs.getD (k + 2) 0 := ⟨_, rfl⟩
              rw [← hz] at hck
              have HZK : Hid (z = zs.getD (k + 2) 0) := hz
              have hcr : wr.cell? ⟨b, off + 2 + k, none⟩ = some (.int .i64 z) := by
                rw [show off + 2 + k = off + (k + 2) by omega]
                exact (hbr.cell (p := ⟨b, off + (k + 2), none⟩) hlb).trans hck
              have hlti : (k : Int) < (m : Int) := by omega
              clear hz hck
              by_cases hz : 0 ≤ z ∧ z ≤ 1099511627776
              · have HN : Hid (∀ j, 2 ≤ j → j < k + 1 + 2 → 0 ≤ zs.getD j 0 ∧ zs.getD j 0 ≤ 1099511627776) := fun j h1 h2 => by
                  by_cases e : j = k + 2
                  · rw [e, ← HZK.out]; exact hz
                  · exact HA.out j h1 (by omega)
                have H5 : Hid (_) := hz
                clear hz HA
                go_wp2_with fail
                refine (inBounds_t z 0 1099511627776 _ H5.out).mono ?_
                rintro e w1 ⟨rfl, rfl⟩
                go_wp2
                go_roundw
                case rel => exact ⟨k + 1, by omega, by go_num, HN, hbr⟩
                case measure => simp [intOf]; omega
              · have HN : Hid (¬ arcP zs) := fun h => hz (by rw [HZK.out]; exact h.2.2.2 (k + 2) (by omega) (by rw [HL.out, HM.out.2]; omega))
                have H5 : Hid (¬ _) := hz
                clear hz HA
                go_wp2_with fail
                refine (inBounds_f z 0 1099511627776 _ H5.out).mono ?_
                rintro e w1 ⟨rfl, rfl⟩
                go_wp2
                go_ret
                exact says_f HN.out hbr
            · obtain rfl : k = m := by omega
              have HN : Hid (arcP zs) := ⟨by have := H1.out; rw [HL.out]; omega, by rw [← HZ.out.1]; exact H2.out, by rw [← HZ.out.1, ← HZ.out.2]; exact H3.out, fun j h1 h2 => HA.out j h1 (by rw [HL.out, HM.out.2] at h2; exact h2)⟩
              clear HA
              go_wp2
              go_ret
              exact says_t HN.out hbr
      · have HN : Hid (¬ arcP zs) := fun h => h3 (by rw [HZ.out.1, HZ.out.2]; exact h.2.2.1)
        have H2 : Hid (0 ≤ z0 ∧ z0 ≤ 2) := h2
        have H3 : Hid (¬ (0 ≤ z1 ∧ z1 ≤ arc2 z0)) := h3
        clear h2 h3
        go_enter Tryd.func25, Tryd.ntmps25
        go_wp2_with fail
        go_quiet (first
          | (go_at_call_of 33 ((n : Nat) : Int); refine Calls.quiet_of_same (inBounds_t (n : Int) 2 12 _ H1.out))
          | (go_at_call_of 33 z1; refine Calls.quiet_of_same (inBounds_f z1 0 (arc2 z0) _ H3.out))
          | (go_at_call_of 33 z0; refine Calls.quiet_of_same (inBounds_t z0 0 2 _ H2.out))
          | (go_at_call 47; refine Calls.quiet_of_same (maxSecondArc_any z0 _)))
        go_wp2
        go_ret
        exact says_f HN.out (below_drewN' (Below.refl _ _) _)
    · have HN : Hid (¬ arcP zs) := fun h => h2 (by rw [HZ.out.1]; exact h.2.1)
      have H2 : Hid (¬ (0 ≤ z0 ∧ z0 ≤ 2)) := h2
      clear h2
      go_enter Tryd.func25, Tryd.ntmps25
      go_wp2_with fail
      go_quiet (first
        | (go_at_call_of 33 ((n : Nat) : Int); refine Calls.quiet_of_same (inBounds_t (n : Int) 2 12 _ H1.out))
        | (go_at_call_of 33 z0; refine Calls.quiet_of_same (inBounds_f z0 0 2 _ H2.out)))
      go_wp2
      go_ret
      exact says_f HN.out (below_drewN' (Below.refl _ _) _)
  · have HN : Hid (¬ arcP zs) := fun h => h1 (by have := h.1; rw [HL.out] at this; omega)
    have H1 : Hid (¬ (2 ≤ (n : Int) ∧ (n : Int) ≤ 12)) := h1
    clear h1
    go_enter Tryd.func25, Tryd.ntmps25
    go_wp2_with fail
    go_quiet ((go_at_call_of 33 ((n : Nat) : Int); refine Calls.quiet_of_same (inBounds_f (n : Int) 2 12 _ H1.out)))
    go_wp2
    go_ret
    exact says_f HN.out (below_drewN' (Below.refl _ _) _)

set_option maxRecDepth 10000 in
set_option maxHeartbeats 2000000 in
theorem specArcsOk_any (a : Option Addr) (n c : Nat) (zs : List Int) (w : World) (h : Row64 w a n zs) (hn : n ≤ 2000000) :
    Calls Tryd.prog 27 #[.slice a n c] w (Says (arcP zs) w) := by
  have HR : Hid (Row64 w a n zs) := h
  have HL : Hid (zs.length = n) := h.len
  clear h
  by_cases hA : (n : Int) < 2
  · have HN : Hid (¬ arcP zs) := fun h => absurd h.1.1 (by rw [HL.out]; omega)
    go_enter Tryd.func27, Tryd.ntmps27
    go_wp2
    go_ret
    exact says_f HN.out (Below.refl _ _)
  by_cases hB : 12 < (n : Int)
  · have HN : Hid (¬ arcP zs) := fun h => absurd h.1.2 (by rw [HL.out]; omega)
    go_enter Tryd.func27, Tryd.ntmps27
    go_wp2
    go_ret
    exact says_f HN.out (Below.refl _ _)
  obtain ⟨b, off, rfl, hlb, hc0⟩ := HR.out.get 0 (by omega)
  obtain ⟨b', off', hab, _, hc1⟩ := HR.out.get 1 (by omega)
  simp only [Option.some.injEq, Addr.mk.injEq, and_true] at hab
  obtain ⟨rfl, rfl⟩ := hab
  obtain ⟨z0, hz0⟩ : ∃ z, z = zs.getD 0 0 := ⟨_, rfl⟩
  obtain ⟨z1, hz1⟩ : ∃ z, z = zs.getD 1 0 := ⟨_, rfl⟩
  rw [← hz0] at hc0
  rw [← hz1] at hc1
  have c0 : w.cell? ⟨b, off, none⟩ = some (.int .i64 z0) := hc0
  have HZ : Hid (z0 = zs.getD 0 0 ∧ z1 = zs.getD 1 0) := ⟨hz0, hz1⟩
  have i0 : (0 : Int) < (n : Int) := by omega
  have i1 : (1 : Int) < (n : Int) := by omega
  clear hc0 hz0 hz1
  go_enter Tryd.func27, Tryd.ntmps27
  go_wp2_with fail
  by_cases h2 : 0 ≤ z0 ∧ z0 ≤ 2
  · have H2 : Hid (0 ≤ z0 ∧ z0 ≤ 2) := h2
    clear h2
    refine (l1In_t z0 0 2 _ H2.out).mono ?_
    rintro e w1 ⟨rfl, rfl⟩
    have hcs : (z0 == 2) = true ∨ (z0 == 2) = false := by cases (z0 == 2) <;> simp
    have HA2 : Hid (((z0 == 2) = true → arc2 z0 = 1000) ∧ ((z0 == 2) = false → arc2 z0 = 39)) := ⟨fun h => by unfold arc2; rw [if_pos (beq_iff_eq.1 h)], fun h => by unfold arc2; rw [if_neg (fun e => by rw [e] at h; exact absurd h (by decide))]⟩
    rcases hcs with hz | hz
    all_goals (
      have HM : Hid (arc2 z0 = _) := (by first | exact HA2.out.1 hz | exact HA2.out.2 hz)
      clear HA2
      go_wp2_with fail
      rw [← HM.out]
      by_cases h3 : 0 ≤ z1 ∧ z1 ≤ arc2 z0
      · have H3 : Hid (0 ≤ z1 ∧ z1 ≤ arc2 z0) := h3
        clear h3
        refine (l1In_t z1 0 (arc2 z0) _ H3.out).mono ?_
        rintro e w2 ⟨rfl, rfl⟩
        go_wp2
        clear c0 hc1 i0 i1
        go_loopw [4] (fun i wr => ∃ k : Nat, 2 ≤ k ∧ k ≤ n ∧ i = .int .i64 k ∧ Hid (∀ j, 2 ≤ j → j < k → 0 ≤ zs.getD j 0 ∧ zs.getD j 0 ≤ 1099511627776) ∧ w2 = wr) (fun i _ => n - (intOf i).toNat)
        case atStart => exact ⟨2, Nat.le_refl _, by omega, rfl, (fun j h1 h2 => absurd h2 (by omega)), rfl⟩
        case round =>
          obtain ⟨k, hk2, hk, rfl, HA, rfl⟩ := hrel
          by_cases hlt : k < n
          · obtain ⟨b3, off3, hab, _, hck⟩ := HR.out.get k hlt
            simp only [Option.some.injEq, Addr.mk.injEq, and_true] at hab
            obtain ⟨rfl, rfl⟩ := hab
            obtain ⟨z, hzk⟩ : ∃ z, z = zs.getD k 0 := ⟨_, rfl⟩
            rw [← hzk] at hck
            have HZK : Hid (z = zs.getD k 0) := hzk
            have hlti : (k : Int) < (n : Int) := by omega
            clear hzk
            by_cases hz5 : 0 ≤ z ∧ z ≤ 1099511627776
            · have HN : Hid (∀ j, 2 ≤ j → j < k + 1 → 0 ≤ zs.getD j 0 ∧ zs.getD j 0 ≤ 1099511627776) := fun j h1 h2 => by
                by_cases e : j = k
                · rw [e, ← HZK.out]; exact hz5
                · exact HA.out j h1 (by omega)
              have H5 : Hid (_) := hz5
              clear hz5 HA
              go_wp2_with fail
              refine (l1In_t z 0 1099511627776 _ H5.out).mono ?_
              rintro e w3 ⟨rfl, rfl⟩
              go_wp2
              go_roundw
              case rel => exact ⟨k + 1, by omega, by omega, by go_num, HN, by trivial⟩
              case measure => simp [intOf]; omega
            · have HN : Hid (¬ arcP zs) := fun h => hz5 (by rw [HZK.out]; exact h.2.2.2 k hk2 (by rw [HL.out]; exact hlt))
              have H5 : Hid (¬ _) := hz5
              clear hz5 HA
              go_wp2_with fail
              refine (l1In_f z 0 1099511627776 _ H5.out).mono ?_
              rintro e w3 ⟨rfl, rfl⟩
              go_wp2
              go_ret
              exact says_f HN.out (Below.refl _ _)
          · obtain rfl : n = k := by omega
            have HN : Hid (arcP zs) := ⟨by rw [HL.out]; omega, by rw [← HZ.out.1]; exact H2.out, by rw [← HZ.out.1, ← HZ.out.2]; exact H3.out, fun j h1 h2 => HA.out j h1 (by rw [HL.out] at h2; exact h2)⟩
            clear HA
            go_wp2
            go_ret
            exact says_t HN.out (Below.refl _ _)
      · have HN : Hid (¬ arcP zs) := fun h => h3 (by rw [HZ.out.1, HZ.out.2]; exact h.2.2.1)
        have H3 : Hid (¬ _) := h3
        clear h3
        refine (l1In_f z1 0 (arc2 z0) _ H3.out).mono ?_
        rintro e w2 ⟨rfl, rfl⟩
        go_wp2
        go_ret
        exact says_f HN.out (Below.refl _ _))
  · have HN : Hid (¬ arcP zs) := fun h => h2 (by rw [HZ.out.1]; exact h.2.1)
    have H2 : Hid (¬ _) := h2
    clear h2
    refine (l1In_f z0 0 2 _ H2.out).mono ?_
    rintro e w1 ⟨rfl, rfl⟩
    go_wp2
    go_ret
    exact says_f HN.out (Below.refl _ _)

end Go.Proofs.YtjdfbebdcpjpiaaDoor
