import Derived.Test.YtjechndhgkkpeaaRS1
import Derived.BigRegion
import Derived.Deep.CutRange
namespace Go.Proofs.Ytjechndhgkkpeaa
open Go.RowKit

set_option maxHeartbeats 2000000 in
theorem sumOverRest_any (b4 b5 g1 g2 n : Nat) (us vs : List Int) (w wx : World) (h : RB w wx b4 b5 g1 g2 n us vs) (hn : n ≤ 20) (hs : ∀ j, j < n → secP (us.getD j 0)) (he : ∀ j, j < n → expP (vs.getD j 0)) :
    Calls Try.prog 32 #[.int .i64 n, .func (Fn.func 33) #[] #[.pointer (some ⟨b4, 0, none⟩), .pointer (some ⟨b5, 0, none⟩)]] wx fun e w' => e = .returned (.int .i64 (sumF (fun j => lamL us (us.getD j 0) * vs.getD j 0 % 500000003) n)) ∧ Below wx.heap.size wx w' := by
  have H0 : Hid (RB w wx b4 b5 g1 g2 n us vs) := h
  have HS : Hid (_) := hs
  have HE : Hid (_) := he
  clear h hs he
  go_enter Try.func32, Try.ntmps32
  go_wp2
  go_loopw [5, 8] (fun s i wr => ∃ (k : Nat) (v : Int), k ≤ n ∧ i = .int .i64 k ∧ s = .int .i64 v ∧ 0 ≤ v ∧ v < 500000003 ∧ Hid (v = sumF (fun j => lamL us (us.getD j 0) * vs.getD j 0 % 500000003) k) ∧ Below wx.heap.size wx wr) (fun _ i _ => n - (intOf i).toNat)
  case atStart => exact ⟨0, 0, Nat.zero_le _, rfl, rfl, by decide, by decide, rfl, Below.refl _ _⟩
  case round =>
    obtain ⟨k, v, hk, rfl, rfl, hv0, hv1, HV, hbr⟩ := hrel
    by_cases hlt : k < n
    · obtain ⟨z, hz⟩ : ∃ z, z = lamL us (us.getD k 0) * vs.getD k 0 % 500000003 := ⟨_, rfl⟩
      obtain ⟨hz0, hz1⟩ := mod_bd (lamL us (us.getD k 0) * vs.getD k 0) (show (1 : Int) ≤ 500000003 by decide)
      rw [← hz] at hz0 hz1
      have HZ : Hid (lamL us (us.getD k 0) * vs.getD k 0 % 500000003 = z) := hz.symm
      have HN : Hid ((v + z) % 500000003 = sumF (fun j => lamL us (us.getD j 0) * vs.getD j 0 % 500000003) (k + 1)) := by show _ = _; rw [sumF, ← HV.out, hz]
      obtain ⟨hm0, hm1⟩ := mod_bd (v + z) (show (1 : Int) ≤ 500000003 by decide)
      have hlti : (k : Int) < (n : Int) := by omega
      clear hz HV
      go_wp2_with fail
      refine (restTerm_any b4 b5 g1 g2 n us vs k w _ (H0.out.kept hbr) hlt hn HS.out HE.out).mono ?_
      rintro e w1 ⟨rfl, q, rfl⟩
      rw [HZ.out]
      go_wp2
      go_roundw
      case rel => exact ⟨k + 1, _, by omega, by go_num, rfl, hm0, hm1, HN, below_drewN3 hbr _⟩
      case measure => simp [intOf]; omega
    · obtain rfl : k = n := by omega
      go_wp2
      go_ret
      exact ⟨by rw [HV.out]; rfl, hbr⟩

def restP (ps : List (Int × Int)) : Prop := whoP (ats ps) ∧ expsP (vls ps)
instance (ps : List (Int × Int)) : Decidable (restP ps) := by unfold restP; infer_instance
def restR (ps : List (Int × Int)) : Int × Bool := if restP ps then (sumF (rterm ps) ps.length, true) else (0, false)

set_option maxHeartbeats 4000000 in
theorem implRestore_any (a : Option Addr) (n c : Nat) (ps : List (Int × Int)) (w : World) (h : Shs w a n ps) (hn : n ≤ 1048576) :
    Calls Try.prog 11 #[.slice a n c] w fun e w' => e = .returned (pair (restR ps)) ∧ Below w.heap.size w w' := by
  have H0 : Hid (Shs w a n ps) := h
  have HL : Hid (ps.length = n) := h.len
  clear h
  have hmk := run_make_row' (P := Try.prog) 24 2 (.int .i64 0) 8 Try.underlying24 Try.info2 rfl .i64 .i64 n (by omega) (by omega)
  go_enter Try.func11, Try.ntmps11
  go_upto_region 1 with fail
  go_cut [4, 5] from 8 to 13 (fun p4 p5 wx => ∃ b4 b5 g1 g2, p4 = .pointer (some ⟨b4, 0, none⟩) ∧ p5 = .pointer (some ⟨b5, 0, none⟩) ∧ RB w wx b4 b5 g1 g2 n (List.replicate n 0) (List.replicate n 0))
  case first =>
    go_region
    all_goals
      go_wp2_with fail
      go_meet
      refine ⟨_, _, _, _, rfl, rfl, RB.made hn (by first | exact fb0 _ _ _ _ _ | exact fb1 _ _ _ _ _ | exact fb2 _ _ _ _ _ | exact fb3 _ _ _ _ _) (by first | exact fb0 _ _ _ _ _ | exact fb1 _ _ _ _ _ | exact fb2 _ _ _ _ _ | exact fb3 _ _ _ _ _) (by first | exact fb0 _ _ _ _ _ | exact fb1 _ _ _ _ _ | exact fb2 _ _ _ _ _ | exact fb3 _ _ _ _ _) (by first | exact fb0 _ _ _ _ _ | exact fb1 _ _ _ _ _ | exact fb2 _ _ _ _ _ | exact fb3 _ _ _ _ _) (by omega) (fbB _ _ _ _ _)⟩
  case rest =>
    obtain ⟨b4, b5, g1, g2, rfl, rfl, hRB⟩ := hcut
    clear hmk
    have HST : Hid (RB w wc b4 b5 g1 g2 n (half (ats ps) 0) (half (vls ps) 0)) := by
      show RB _ _ _ _ _ _ _ _ _
      rw [half_zero, half_zero, ats_len, vls_len, HL.out]
      exact hRB
    clear hRB
    go_wp2
    go_loopw [16] (fun i wr => ∃ k : Nat, k ≤ n ∧ i = .int .i64 k ∧ Hid (RB w wr b4 b5 g1 g2 n (half (ats ps) k) (half (vls ps) k))) (fun i _ => n - (intOf i).toNat)
    case atStart => exact ⟨0, Nat.zero_le _, rfl, HST⟩
    case round =>
      obtain ⟨k, hk, rfl, HB⟩ := hrel
      by_cases hlt : k < n
      · obtain ⟨b, off, rfl, hlb, x0, x1⟩ := (H0.out.kept HB.out.below).get k hlt
        obtain ⟨p, hp⟩ : ∃ p, p = ps.getD k (0, 0) := ⟨_, rfl⟩
        rw [← hp] at x0 x1
        have hnw : Below wr.heap.size wr (wr.alloc (.cells #[.int .i64 p.1, .int .i64 p.2] 33)) := (Below.refl _ _).alloc (Nat.le_refl _) _
        have HX : Hid (BoxS 33 wr.heap.size (wr.alloc (.cells #[.int .i64 p.1, .int .i64 p.2] 33)) p) := boxS_new 33 wr p.1 p.2
        have HB1 : Hid (RB w (wr.alloc (.cells #[.int .i64 p.1, .int .i64 p.2] 33)) b4 b5 g1 g2 n (half (ats ps) k) (half (vls ps) k)) := HB.out.kept hnw
        have HA : Hid ((half (ats ps) k).set k p.1 = half (ats ps) (k + 1) ∧ (half (vls ps) k).set k p.2 = half (vls ps) (k + 1)) := by
          have e1 := half_set (ats ps) k (by rw [ats_len, HL.out]; exact hlt)
          have e2 := half_set (vls ps) k (by rw [vls_len, HL.out]; exact hlt)
          rw [ats_get ps k (by rw [HL.out]; exact hlt), ← hp] at e1
          rw [vls_get ps k (by rw [HL.out]; exact hlt), ← hp] at e2
          exact ⟨e1, e2⟩
        have hlti : (k : Int) < (n : Int) := by omega
        have hg1 : g1 < wr.heap.size := (HB.out.r1.lt _ rfl).2
        have hg2 : g2 < wr.heap.size := (HB.out.r2.lt _ rfl).2
        have m1 : wr.heap.size ≠ g1 := by omega
        have m2 : wr.heap.size ≠ g2 := by omega
        clear hp HB hnw
        go_upto_region 5 with fail
        obtain ⟨w1, hw1⟩ : ∃ w1, w1 = wr.alloc (.cells #[.int .i64 p.1, .int .i64 p.2] 33) := ⟨_, rfl⟩
        rw [← hw1] at HX HB1 ⊢
        clear hw1 x0 x1
        have q4 := HB1.out.c4
        have q5 := HB1.out.c5
        have y0 := HX.out.c0
        have y1 := HX.out.c1
        have f1 : w1.frozen? ⟨g1, k, none⟩ = false := HB1.out.r1.frozenAt _
        have f2 : w1.frozen? ⟨g2, k, none⟩ = false := HB1.out.r2.frozenAt _
        obtain ⟨b', off', hb1, _, z1⟩ := HB1.out.row1.get k hlt
        obtain ⟨b2, off2, hb2, _, z2⟩ := HB1.out.row2.get k hlt
        simp only [Option.some.injEq, Addr.mk.injEq, and_true] at hb1 hb2
        obtain ⟨rfl, rfl⟩ := hb1
        obtain ⟨rfl, rfl⟩ := hb2
        rw [Nat.zero_add] at z1 z2
        have hne := HB1.out.ne.1
        obtain ⟨n1, n2, n3, n4, n5⟩ := hne
        have HFN : Hid (RB w ((w1.setCell ⟨g1, k, none⟩ (.int .i64 p.1)).setCell ⟨g2, k, none⟩ (.int .i64 p.2)).drew b4 b5 g1 g2 n (half (ats ps) (k + 1)) (half (vls ps) (k + 1))) := by
          have := HB1.out.store k p.1 p.2
          rw [HA.out.1, HA.out.2] at this
          exact this.kept (Below.refl _ _).drew
        go_region
        all_goals
          go_wp2_with fail
          exact ⟨⟨k + 1, by omega, by go_num, HFN⟩, by simp [intOf]; omega⟩
      · obtain rfl : k = n := by omega
        have HE : Hid (RB w wr b4 b5 g1 g2 k (ats ps) (vls ps)) := by
          have := HB.out
          have e1 := half_all (ats ps)
          have e2 := half_all (vls ps)
          rw [ats_len, HL.out] at e1
          rw [vls_len, HL.out] at e2
          rw [e1, e2] at this
          exact this
        clear HB HST
        have q4 := HE.out.c4
        have q5 := HE.out.c5
        by_cases hw : whoP (ats ps)
        · by_cases hx : expsP (vls ps)
          · have HR : Hid (restR ps = (sumF (rterm ps) k, true)) := by show _ = _; unfold restR; rw [if_pos ⟨hw, hx⟩, HL.out]
            have h20 : k ≤ 20 := by have := hw.1.2; rw [ats_len, HL.out] at this; exact this
            go_wp2_with fail
            refine (placesOk_any _ k k (ats ps) _ HE.out.row1 (Nat.le_refl _) (by omega)).mono ?_
            rintro e w2 ⟨rfl, rfl⟩
            rw [decide_eq_true hw]
            go_wp2_with fail
            refine (allExponents_any _ k k (vls ps) _ HE.out.row2 (by omega)).mono ?_
            rintro e w2 ⟨rfl, rfl⟩
            rw [decide_eq_true hx]
            go_wp2_with fail
            refine (sumOverRest_any b4 b5 g1 g2 k (ats ps) (vls ps) w _ HE.out h20 (fun j hj => hw.2.1 j (by rw [ats_len, HL.out]; exact hj)) (fun j hj => hx j (by rw [vls_len, HL.out]; exact hj))).mono ?_
            rintro e w3 ⟨rfl, hb3⟩
            have HB3 : Hid (Below w.heap.size w w3) := keep3 HE.out.below hb3
            go_wp2
            go_ret2
            exact ⟨by rw [HR.out]; rfl, HB3.out⟩
          · have HR : Hid (restR ps = (0, false)) := by show _ = _; unfold restR; rw [if_neg (fun hh => hx hh.2)]
            go_wp2_with fail
            refine (placesOk_any _ k k (ats ps) _ HE.out.row1 (Nat.le_refl _) (by omega)).mono ?_
            rintro e w2 ⟨rfl, rfl⟩
            rw [decide_eq_true hw]
            go_wp2_with fail
            refine (allExponents_any _ k k (vls ps) _ HE.out.row2 (by omega)).mono ?_
            rintro e w2 ⟨rfl, rfl⟩
            rw [decide_eq_false hx]
            go_wp2
            go_ret2
            exact ⟨by rw [HR.out]; rfl, HE.out.below⟩
        · have HR : Hid (restR ps = (0, false)) := by show _ = _; unfold restR; rw [if_neg (fun hh => hw hh.1)]
          go_wp2_with fail
          refine (placesOk_any _ k k (ats ps) _ HE.out.row1 (Nat.le_refl _) (by omega)).mono ?_
          rintro e w2 ⟨rfl, rfl⟩
          rw [decide_eq_false hw]
          go_wp2
          go_ret2
          exact ⟨by rw [HR.out]; rfl, HE.out.below⟩

end Go.Proofs.Ytjechndhgkkpeaa
