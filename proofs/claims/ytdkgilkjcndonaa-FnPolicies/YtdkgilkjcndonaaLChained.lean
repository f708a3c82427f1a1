import Derived.Test.YtdkgilkjcndonaaPK5
import Derived.Test.YtdkgilkjcndonaaPL9f
import Derived.Test.YtdkgilkjcndonaaWLv
namespace Go.Proofs.Ytdkgilkjcndonaa
open Go.RowKit

set_option maxHeartbeats 400000 in
theorem bigP_any (a : Option Addr) (n cap : Nat) (w : World) (hn : n ≤ 9223372036854775807) :
    Calls Try.prog 7 #[.slice a n cap] w fun r w' => r = .returned (.bool (decide (1048576 < n))) ∧ w' = w := by
  have e : decide (1048576 < n) = decide ((1048576 : Int) < (n : Int)) := by simp; omega
  rw [e]
  go_enter Try.func7, Try.ntmps7
  go_wp2
  go_ret
  exact ⟨rfl, rfl⟩

set_option maxRecDepth 10000 in
set_option maxHeartbeats 4000000 in
theorem lawChained_walk (a : Option Addr) (n cap : Nat) (bs : List Int) (w : World) (h : Row w a n bs) (hn : n ≤ 9223372036854775807) :
    Calls Try.prog 3 #[.slice a n cap] w fun e w' => e = .returned (.bool true) ∧ Below w.heap.size w w' := by
  have HR : Hid (Row w a n bs) := h
  clear h
  go_enter Try.func3, Try.ntmps3
  go_wp2_with fail
  refine (bigP_any a n cap _ hn).mono ?_
  rintro e w1 ⟨rfl, hw1⟩; have hw2 := hw1.symm; subst hw2
  by_cases hbig : 1048576 < n
  · rw [decide_eq_true hbig]
    go_wp2
    go_ret
    exact ⟨rfl, Below.refl _ _⟩
  · rw [decide_eq_false hbig]
    go_wp2_with fail
    refine (drawHolds_any a n cap bs _ HR.out (by omega)).mono ?_
    rintro e w2 ⟨ao, m, c, xs, p, b1, b2, rfl, hm, hx, hb2⟩
    have HX : Hid (Pcs w2 ao m xs) := hx
    have HB2 : Hid (Below w.heap.size w w2) := hb2
    have HL : Hid (xs.length = m) := hx.len
    clear hx hb2 hbig
    go_wp2_with fail
    refine (lawPoliciesOk_any ao m c xs _ HX.out).mono ?_
    rintro e w3 ⟨r, rfl, HRT, hb3⟩
    have HB3 : Hid (Below w2.heap.size w2 w3) := hb3
    have HIM : Hid (∀ (q : Int) (W : World), Below w2.heap.size w2 W → Calls Try.prog 10 #[.slice ao m c, .int .i64 q, .bool b1, .bool b2] W (SaysP (polP xs q b1 b2) W)) := fun q W hW => implHolds_any ao m c xs q b1 b2 W (HX.out.kept hW)
    clear hb3
    cases r with
    | false =>
      have HNP : Hid (∀ q, ¬ polP xs q b1 b2) := fun q e => absurd (HRT.out.2 e.1) (by decide)
      clear HRT
      go_wp2
      go_loopw [8] (fun j wr => ∃ k : Nat, k ≤ 6 ∧ j = .int .i64 k ∧ Hid (Below w2.heap.size w2 wr)) (fun j _ => 6 - (intOf j).toNat)
      case atStart => exact ⟨0, Nat.zero_le _, rfl, HB3⟩
      case round =>
        obtain ⟨k, hk, rfl, HBR⟩ := hrel
        by_cases hlt : k < 6
        · have hlti : (k : Int) < 6 := by omega
          go_wp2_with fail
          refine (HIM.out k _ HBR.out).mono ?_
          rintro e w5 ⟨b5, rfl, HB5, hb5⟩
          obtain rfl : b5 = false := by
            cases b5 with
            | false => rfl
            | true => exact absurd (HB5.out.1 rfl) (HNP.out _)
          have HBF : Hid (Below w2.heap.size w2 w5) := keepP HBR.out hb5
          clear HB5 hb5
          go_wp2
          go_roundw
          case rel => exact ⟨k + 1, by omega, by go_num, HBF⟩
          case measure => simp [intOf]; omega
        · obtain rfl : k = 6 := by omega
          go_wp2_with fail
          refine (lives_any _).mono ?_
          rintro e w5 ⟨rfl, hb5⟩
          have HB5 : Hid (Below w2.heap.size w2 w5) := keepP HBR.out hb5
          clear hb5
          go_wp2_with fail
          refine (HIM.out p _ HB5.out).mono ?_
          rintro e w6 ⟨b6, rfl, HB6, hb6⟩
          obtain rfl : b6 = false := by
            cases b6 with
            | false => rfl
            | true => exact absurd (HB6.out.1 rfl) (HNP.out _)
          have HBF : Hid (Below w.heap.size w w6) := keepP HB2.out (keepP HB5.out hb6)
          clear HB6 hb6
          go_wp2
          go_ret
          exact ⟨rfl, HBF.out⟩
    | true =>
      have HPT : Hid (pathP xs) := HRT.out.1 rfl
      have hm1 : 1 ≤ m := by have := HPT.out.1.1; rw [HL.out] at this; exact this
      have HCH : Hid (∀ (q : Int) (W : World), Below w2.heap.size w2 W → Calls Try.prog 11 #[.slice ao m c, .int .i64 0, .int .i64 q, .bool b1, .bool b2] W (SaysP (0 < chn xs (ctr0 b1 m) (ctr0 b2 m) m 0 q) W)) := fun q W hW => chainP_any ao m c xs b1 b2 HPT.out HL.out m 0 (by omega) (by omega) q W (HX.out.kept hW)
      have HPP : Hid (∀ q, polP xs q b1 b2 ↔ (1 ≤ q ∧ q ≤ 1000) ∧ 0 < chn xs (ctr0 b1 m) (ctr0 b2 m) m 0 q) := fun q => by
        unfold polP
        rw [HL.out]
        exact ⟨fun e => e.2, fun e => ⟨HPT.out, e⟩⟩
      clear HRT
      go_wp2
      go_loopw [8] (fun j wr => ∃ k : Nat, k ≤ 6 ∧ j = .int .i64 k ∧ Hid (Below w2.heap.size w2 wr)) (fun j _ => 6 - (intOf j).toNat)
      case atStart => exact ⟨0, Nat.zero_le _, rfl, HB3⟩
      case round =>
        obtain ⟨k, hk, rfl, HBR⟩ := hrel
        by_cases hlt : k < 6
        · have hlti : (k : Int) < 6 := by omega
          go_wp2_with fail
          refine (HIM.out k _ HBR.out).mono ?_
          rintro e w5 ⟨b5, rfl, HB5, hb5⟩
          have HBB : Hid (Below w2.heap.size w2 w5) := keepP HBR.out hb5
          clear hb5
          by_cases hk0 : 0 < (k : Int)
          · go_wp2_with fail
            refine (HCH.out k _ HBB.out).mono ?_
            rintro e w6 ⟨b6, rfl, HB6, hb6⟩
            have HBF : Hid (Below w2.heap.size w2 w6) := keepP HBB.out hb6
            obtain rfl : b6 = b5 := by
              have h := (HB5.out.trans (HPP.out _)).trans ⟨fun e => HB6.out.2 e.2, fun e => ⟨by omega, HB6.out.1 e⟩⟩
              cases b5 <;> cases b6 <;> simp_all
            have t1 : (b6 != b6) = false := by simp
            clear HB5 HB6 hb6
            go_wp2
            go_roundw
            case rel => exact ⟨k + 1, by omega, by go_num, HBF⟩
            case measure => simp [intOf]; omega
          · obtain rfl : b5 = false := by
              cases b5 with
              | false => rfl
              | true => exact absurd ((HPP.out _).1 (HB5.out.1 rfl)).1.1 (by omega)
            clear HB5
            go_wp2
            go_roundw
            case rel => exact ⟨k + 1, by omega, by go_num, HBB⟩
            case measure => simp [intOf]; omega
        · obtain rfl : k = 6 := by omega
          go_wp2_with fail
          refine (lives_any _).mono ?_
          rintro e w5 ⟨rfl, hb5⟩
          have HB5 : Hid (Below w2.heap.size w2 w5) := keepP HBR.out hb5
          clear hb5
          go_wp2_with fail
          refine (HIM.out p _ HB5.out).mono ?_
          rintro e w6 ⟨b6, rfl, HB6, hb6⟩
          have HBB : Hid (Below w2.heap.size w2 w6) := keepP HB5.out hb6
          clear hb6
          by_cases hp : 1 ≤ p ∧ p ≤ 1000
          · go_wp2_with fail
            refine (in_t p 1 1000 _ hp).mono ?_
            rintro e w7 ⟨rfl, hw7⟩; have hw8 := hw7.symm; subst hw8
            go_wp2_with fail
            refine (HCH.out p _ HBB.out).mono ?_
            rintro e w8 ⟨b8, rfl, HB8, hb8⟩
            have HBF : Hid (Below w.heap.size w w8) := keepP HB2.out (keepP HBB.out hb8)
            obtain rfl : b8 = b6 := by
              have h := (HB6.out.trans (HPP.out _)).trans ⟨fun e => HB8.out.2 e.2, fun e => ⟨hp, HB8.out.1 e⟩⟩
              cases b6 <;> cases b8 <;> simp_all
            have t1 : (b8 == b8) = true := by simp
            clear HB6 HB8 hb8
            go_wp2
            go_ret
            exact ⟨rfl, HBF.out⟩
          · obtain rfl : b6 = false := by
              cases b6 with
              | false => rfl
              | true => exact absurd ((HPP.out _).1 (HB6.out.1 rfl)).1 hp
            have HBF : Hid (Below w.heap.size w w6) := keepP HB2.out HBB.out
            clear HB6
            go_wp2_with fail
            refine (in_f p 1 1000 _ hp).mono ?_
            rintro e w7 ⟨rfl, hw7⟩; have hw8 := hw7.symm; subst hw8
            go_wp2
            go_ret
            exact ⟨rfl, HBF.out⟩

end Go.Proofs.Ytdkgilkjcndonaa
