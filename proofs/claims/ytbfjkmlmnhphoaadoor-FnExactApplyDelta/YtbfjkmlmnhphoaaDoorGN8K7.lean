import Derived.Test.YtbfjkmlmnhphoaaDoorN7
import Derived.BigQuiet
import Derived.Deep.QuietTactic
import Derived.Test.YtbfjkmlmnhphoaaDoorGK6MD2
namespace Go.Proofs.YtbfjkmlmnhphoaaDoor
open Go.RowKit

theorem below_drewN' {B : Nat} {w w' : World} (h : Below B w w') (n : Nat) : Below B w (w'.drewN n) := by
  induction n with
  | zero => simpa [World.drewN] using h
  | succ n ih => exact ih.drew

set_option maxRecDepth 10000 in
set_option maxHeartbeats 8000000 in
theorem specUnder_any (a : Option Addr) (n c : Nat) (xs : List PT) (a2 : Option Addr) (n2 c2 : Nat) (ys : List PT) (w : World) (h : Pts w a n xs) (h2 : Pts w a2 n2 ys) (hz : ∀ k, k < n → (xs.getD k default).val.size ≤ 1048576) (hz2 : ∀ k, k < n2 → (ys.getD k default).val.size ≤ 1048576) :
    Calls Tryd.prog 82 #[nmv a n c, nmv a2 n2 c2] w (Says (underP xs ys) w) := by
  have hn := h.max
  have hn2 := h2.max
  obtain ⟨W0, hW0⟩ : ∃ W0, W0 = ((w.alloc (.cells #[.slice a n c] 33)).alloc (.cells #[.slice a2 n2 c2] 33)) := ⟨_, rfl⟩
  have hB0 : Below w.heap.size w W0 := by rw [hW0]; exact two_below _ _ _
  have b0 := two_blocks w (.cells #[.slice a n c] 33) (.cells #[.slice a2 n2 c2] 33)
  rw [← hW0] at b0
  have HN1 : Hid (BoxN 33 w.heap.size W0 a n c) := ⟨b0.1⟩
  have HN2 : Hid (BoxN 33 (w.heap.size + 1) W0 a2 n2 c2) := ⟨b0.2⟩
  have HK : Hid (Pts W0 a n xs) := h.kept hB0
  have HK2 : Hid (Pts W0 a2 n2 ys) := h2.kept hB0
  have HZ : Hid (_) := hz
  have HZ2 : Hid (_) := hz2
  have HL : Hid (xs.length = n) := h.len
  have HL2 : Hid (ys.length = n2) := h2.len
  have q0 := HN1.out.cell
  clear b0 h h2 hz hz2
  unfold nmv
  go_enter Tryd.func82, Tryd.ntmps82
  go_upto_region 1 with fail
  rw [← hW0]
  clear hW0
  go_wp2_with fail
  refine (specNameOk_any a n c xs _ HK.out HZ.out).mono ?_
  rintro e w1 ⟨b1, rfl, HV1, hb1⟩
  have B1 := hB0.trans (hb1.mono hB0.size)
  cases b1 with
  | false =>
    have HN : Hid (¬ underP xs ys) := fun h => Bool.false_ne_true (HV1.out.2 h.1)
    clear HV1 q0
    go_wp2
    go_ret
    exact says_f HN.out B1
  | true =>
    have HO1 : Hid (nameP xs) := HV1.out.1 rfl
    clear HV1 q0
    have q1 := (HN2.out.kept hb1).cell
    go_wp2_with fail
    refine (specNameOk_any a2 n2 c2 ys _ (HK2.out.kept hb1) HZ2.out).mono ?_
    rintro e w2 ⟨b2, rfl, HV2, hb2⟩
    have D2 : Below W0.heap.size W0 w2 := hb1.trans (hb2.mono hb1.size)
    have B2 := hB0.trans (D2.mono hB0.size)
    cases b2 with
    | false =>
      have HN : Hid (¬ underP xs ys) := fun h => Bool.false_ne_true (HV2.out.2 h.2.1)
      clear HV2 q1
      go_wp2
      go_ret
      exact says_f HN.out B2
    | true =>
      have HO2 : Hid (nameP ys) := HV2.out.1 rfl
      clear HV2 q1
      have q0 := (HN1.out.kept D2).cell
      have q1 := (HN2.out.kept D2).cell
      by_cases hnn : n < n2
      · have HN : Hid (¬ underP xs ys) := fun h => absurd h.2.2.1 (by rw [HL.out, HL2.out]; omega)
        have hi : (n : Int) < (n2 : Int) := by omega
        go_wp2
        go_ret
        exact says_f HN.out B2
      · have hi : ¬ ((n : Int) < (n2 : Int)) := by omega
        have hi' : n2 ≤ n := by omega
        go_wp2
        clear hi q0 q1 hb1 hb2
        go_loopw [5] (fun i wr => ∃ k : Nat, k ≤ n2 ∧ i = .int .i64 k ∧ Hid (∀ j, j < k → alikeP (xs.getD j default) (ys.getD j default)) ∧ Below W0.heap.size W0 wr) (fun i _ => n2 - (intOf i).toNat)
        case atStart => exact ⟨0, Nat.zero_le _, rfl, (fun j hj => absurd hj (Nat.not_lt_zero _)), D2⟩
        case round =>
          obtain ⟨k, hk, rfl, HA, hbr⟩ := hrel
          clear D2 B2
          have d1 := (HN2.out.kept hbr).cell
          by_cases hkn : k < n2
          · obtain ⟨bn, offn, rfl, hlbn, hcn, _⟩ := HK.out.get k (by omega)
            obtain ⟨bb, offb, rfl, hlbb, hcb, _⟩ := HK2.out.get k hkn
            have hzn := HZ.out k (by omega)
            have hzb := HZ2.out k hkn
            obtain ⟨x, hx⟩ : ∃ x, x = xs.getD k default := ⟨_, rfl⟩
            obtain ⟨y, hy⟩ : ∃ y, y = ys.getD k default := ⟨_, rfl⟩
            rw [← hx] at hcn hzn
            rw [← hy] at hcb hzb
            have HX : Hid (x = xs.getD k default ∧ y = ys.getD k default) := ⟨hx, hy⟩
            clear hx hy
            obtain ⟨xa, xv⟩ := x
            obtain ⟨ya, yv⟩ := y
            have HSX : Hid (∀ w', Below wr.heap.size wr w' → (fun w' => w'.cell? ⟨w.heap.size, 0, none⟩ = some (.slice (some ⟨bn, offn, none⟩) n c) ∧ w'.cell? ⟨w.heap.size + 1, 0, none⟩ = some (.slice (some ⟨bb, offb, none⟩) n2 c2) ∧ w'.cell? ⟨bn, offn + k * 2, none⟩ = some (.int .i64 xa) ∧ w'.cell? ⟨bn, offn + k * 2 + 1, none⟩ = some (.string xv) ∧ w'.cell? ⟨bb, offb + k * 2, none⟩ = some (.int .i64 ya) ∧ w'.cell? ⟨bb, offb + k * 2 + 1, none⟩ = some (.string yv)) w') := fun w' hw' =>
              have hw2 := hbr.trans (hw'.mono hbr.size)
              have cn := hcn.of (w' := w') (fun i => hw2.cell (p := ⟨bn, i, none⟩) hlbn)
              have cb := hcb.of (w' := w') (fun i => hw2.cell (p := ⟨bb, i, none⟩) hlbb)
              ⟨(HN1.out.kept hw2).cell, (HN2.out.kept hw2).cell, cn.c0, cn.c1, cb.c0, cb.c1⟩
            have hkni : (k : Int) < (n : Int) := by omega
            have hkn2 : (k : Int) < (n2 : Int) := by omega
            have HB1 : Hid (Below W0.heap.size W0 wr) := hbr
            clear hcn hcb
            have hcur : Below wr.heap.size wr wr.drew := (Below.refl _ _).drew
            obtain ⟨tx, htx⟩ : ∃ t, t = FS xv := ⟨_, rfl⟩
            obtain ⟨ty, hty⟩ : ∃ t, t = FS yv := ⟨_, rfl⟩
            have HTX : Hid (strOfNums (foldL xv) = tx) := htx.symm
            have HTY : Hid (strOfNums (foldL yv) = ty) := hty.symm
            by_cases hE : xa = ya
            · subst hE
              have SS := HSX.out _ (Below.refl _ _)
              have t0 : (xa != xa) = false := by simp
              by_cases hF : tx = ty
              · have HAL : Hid (alikeP ⟨xa, xv⟩ ⟨xa, yv⟩) := ⟨rfl, by show FS xv = FS yv; rw [← htx, ← hty]; exact hF⟩
                have HA2 : Hid (∀ j, j < k + 1 → alikeP (xs.getD j default) (ys.getD j default)) := fun j hj => by
                  by_cases e : j = k
                  · rw [e, ← HX.out.1, ← HX.out.2]; exact HAL.out
                  · exact HA.out j (by omega)
                have HTX2 : Hid (strOfNums (foldL xv) = ty) := by show _ = _; rw [HTX.out, hF]
                clear hF HA HAL htx hty
                go_wp2_with fail
                clear d1
                go_region_held_law (fun w' => w'.cell? ⟨w.heap.size, 0, none⟩ = some (.slice (some ⟨bn, offn, none⟩) n c) ∧ w'.cell? ⟨w.heap.size + 1, 0, none⟩ = some (.slice (some ⟨bb, offb, none⟩) n2 c2) ∧ w'.cell? ⟨bn, offn + k * 2, none⟩ = some (.int .i64 xa) ∧ w'.cell? ⟨bn, offn + k * 2 + 1, none⟩ = some (.string xv) ∧ w'.cell? ⟨bb, offb + k * 2, none⟩ = some (.int .i64 xa) ∧ w'.cell? ⟨bb, offb + k * 2 + 1, none⟩ = some (.string yv)) (first | assumption | exact SS | exact SS1 | exact SS2)
                  (first
                    | (go_at_call_of 88 yv; refine (specFold_any yv _ hzb).mono ?_; rintro e wa ⟨rfl, hb_a⟩; replace hcur := hcur.trans (hb_a.mono hcur.size); have SS1 := HSX.out _ hcur; rw [HTY.out]; clear hb_a)
                    | (go_at_call_of 88 xv; refine (specFold_any xv _ hzn).mono ?_; rintro e wb ⟨rfl, hb_b⟩; replace hcur := hcur.trans (hb_b.mono hcur.size); have SS2 := HSX.out _ hcur; rw [HTX2.out]; clear hb_b))
                all_goals (
                  have hB5 : Below W0.heap.size W0 _ := HB1.out.trans (hcur.mono HB1.out.size)
                  go_wp2
                  go_roundw
                  case rel => exact ⟨k + 1, by omega, by go_num, HA2, hB5⟩
                  case measure => simp [intOf]; omega)
              · have HN : Hid (¬ underP xs ys) := fun h => hF (by
                  have := (h.2.2.2 k (by rw [HL2.out]; exact hkn)).2
                  rw [← HX.out.1, ← HX.out.2] at this
                  rw [htx, hty]; exact this)
                have z1 : ¬ tx = ty := hF
                have z2 : (tx.toList == ty.toList) = false := beq_false_of_ne (fun h => z1 (by rw [ByteArray.toList_eq, ByteArray.toList_eq] at h; exact ByteArray.ext (Array.ext' h)))
                clear hF HA htx hty
                go_wp2_with fail
                clear d1
                go_region_held_law (fun w' => w'.cell? ⟨w.heap.size, 0, none⟩ = some (.slice (some ⟨bn, offn, none⟩) n c) ∧ w'.cell? ⟨w.heap.size + 1, 0, none⟩ = some (.slice (some ⟨bb, offb, none⟩) n2 c2) ∧ w'.cell? ⟨bn, offn + k * 2, none⟩ = some (.int .i64 xa) ∧ w'.cell? ⟨bn, offn + k * 2 + 1, none⟩ = some (.string xv) ∧ w'.cell? ⟨bb, offb + k * 2, none⟩ = some (.int .i64 xa) ∧ w'.cell? ⟨bb, offb + k * 2 + 1, none⟩ = some (.string yv)) (first | assumption | exact SS | exact SS1 | exact SS2)
                  (first
                    | (go_at_call_of 88 yv; refine (specFold_any yv _ hzb).mono ?_; rintro e wa ⟨rfl, hb_a⟩; replace hcur := hcur.trans (hb_a.mono hcur.size); have SS1 := HSX.out _ hcur; rw [HTY.out]; clear hb_a)
                    | (go_at_call_of 88 xv; refine (specFold_any xv _ hzn).mono ?_; rintro e wb ⟨rfl, hb_b⟩; replace hcur := hcur.trans (hb_b.mono hcur.size); have SS2 := HSX.out _ hcur; rw [HTX.out]; clear hb_b))
                all_goals (
                  have hB5 : Below W0.heap.size W0 _ := HB1.out.trans (hcur.mono HB1.out.size)
                  go_wp2
                  go_ret
                  exact says_f HN.out (hB0.trans (hB5.mono hB0.size)))
            · have HN : Hid (¬ underP xs ys) := fun h => hE (by
                have := (h.2.2.2 k (by rw [HL2.out]; exact hkn)).1
                rw [← HX.out.1, ← HX.out.2] at this
                exact this)
              have SS := HSX.out _ (Below.refl _ _)
              have z1 : ¬ xa = ya := hE
              have z2 : (xa != ya) = true := bne_iff_ne.2 hE
              have z3 : (xa == ya) = false := beq_false_of_ne hE
              clear hE HA htx hty HTX HTY hcur
              obtain ⟨s0, s1, s2, s3, s4, s5⟩ := SS
              go_wp2_with fail
              clear d1
              go_quiet (fail)
              go_wp2
              go_ret
              exact says_f HN.out (below_drewN' (hB0.trans (HB1.out.mono hB0.size)) _)
          · obtain rfl : n2 = k := by omega
            have HN : Hid (underP xs ys) := ⟨HO1.out, HO2.out, by rw [HL.out, HL2.out]; exact hi', fun j hj => HA.out j (by rw [HL2.out] at hj; exact hj)⟩
            clear HA
            go_wp2
            go_ret
            exact says_t HN.out (hB0.trans (hbr.mono hB0.size))

end Go.Proofs.YtbfjkmlmnhphoaaDoor

namespace Go.Proofs.YtbfjkmlmnhphoaaDoor
open Go.RowKit

def sameP (xs ys : List PT) : Prop := xs.length = ys.length ∧ underP xs ys

set_option maxRecDepth 10000 in
set_option maxHeartbeats 2000000 in
theorem implSameName_any (a : Option Addr) (n c : Nat) (xs : List PT) (a2 : Option Addr) (n2 c2 : Nat) (ys : List PT) (w : World) (h : Pts w a n xs) (h2 : Pts w a2 n2 ys) (hz : ∀ k, k < n → (xs.getD k default).val.size ≤ 1048576) (hz2 : ∀ k, k < n2 → (ys.getD k default).val.size ≤ 1048576) :
    Calls Tryd.prog 75 #[nmv a n c, nmv a2 n2 c2] w (Says (sameP xs ys) w) := by
  have hn := h.max
  have hn2 := h2.max
  obtain ⟨W0, hW0⟩ : ∃ W0, W0 = ((w.alloc (.cells #[.slice a n c] 33)).alloc (.cells #[.slice a2 n2 c2] 33)) := ⟨_, rfl⟩
  have hB0 : Below w.heap.size w W0 := by rw [hW0]; exact two_below _ _ _
  have b0 := two_blocks w (.cells #[.slice a n c] 33) (.cells #[.slice a2 n2 c2] 33)
  rw [← hW0] at b0
  have HN1 : Hid (BoxN 33 w.heap.size W0 a n c) := ⟨b0.1⟩
  have HN2 : Hid (BoxN 33 (w.heap.size + 1) W0 a2 n2 c2) := ⟨b0.2⟩
  have HK : Hid (Pts W0 a n xs) := h.kept hB0
  have HK2 : Hid (Pts W0 a2 n2 ys) := h2.kept hB0
  have HZ : Hid (_) := hz
  have HZ2 : Hid (_) := hz2
  have HL : Hid (xs.length = n) := h.len
  have HL2 : Hid (ys.length = n2) := h2.len
  have q0 := HN1.out.cell
  have q1 := HN2.out.cell
  clear b0 h h2 hz hz2
  unfold nmv
  by_cases hnn : n = n2
  · have e1 : ((n : Int) == (n2 : Int)) = true := beq_iff_eq.2 (by omega)
    have HNN : Hid (n = n2) := hnn
    clear hnn
    go_enter Tryd.func75, Tryd.ntmps75
    go_upto_region 1 with fail
    rw [← hW0]
    clear hW0
    go_wp2_with fail
    refine (implUnder_any a n c xs a2 n2 c2 ys _ HK.out HK2.out HZ.out HZ2.out).mono ?_
    rintro e w1 ⟨b1, rfl, HV1, hb1⟩
    have B1 := hB0.trans (hb1.mono hB0.size)
    cases b1 with
    | false =>
      have HN : Hid (¬ sameP xs ys) := fun h => Bool.false_ne_true (HV1.out.2 h.2)
      clear HV1
      go_wp2
      go_ret
      exact says_f HN.out B1
    | true =>
      have HN : Hid (sameP xs ys) := ⟨by rw [HL.out, HL2.out]; exact HNN.out, HV1.out.1 rfl⟩
      clear HV1
      go_wp2
      go_ret
      exact says_t HN.out B1
  · have HN : Hid (¬ sameP xs ys) := fun h => hnn (by rw [← HL.out, ← HL2.out]; exact h.1)
    have e1 : ((n : Int) == (n2 : Int)) = false := beq_false_of_ne (by omega)
    clear hnn
    go_enter Tryd.func75, Tryd.ntmps75
    go_upto_region 1 with fail
    rw [← hW0]
    clear hW0
    go_wp2
    go_ret
    exact says_f HN.out hB0

set_option maxRecDepth 10000 in
set_option maxHeartbeats 2000000 in
theorem specSameName_any (a : Option Addr) (n c : Nat) (xs : List PT) (a2 : Option Addr) (n2 c2 : Nat) (ys : List PT) (w : World) (h : Pts w a n xs) (h2 : Pts w a2 n2 ys) (hz : ∀ k, k < n → (xs.getD k default).val.size ≤ 1048576) (hz2 : ∀ k, k < n2 → (ys.getD k default).val.size ≤ 1048576) :
    Calls Tryd.prog 58 #[nmv a n c, nmv a2 n2 c2] w (Says (sameP xs ys) w) := by
  have hn := h.max
  have hn2 := h2.max
  obtain ⟨W0, hW0⟩ : ∃ W0, W0 = ((w.alloc (.cells #[.slice a n c] 33)).alloc (.cells #[.slice a2 n2 c2] 33)) := ⟨_, rfl⟩
  have hB0 : Below w.heap.size w W0 := by rw [hW0]; exact two_below _ _ _
  have b0 := two_blocks w (.cells #[.slice a n c] 33) (.cells #[.slice a2 n2 c2] 33)
  rw [← hW0] at b0
  have HN1 : Hid (BoxN 33 w.heap.size W0 a n c) := ⟨b0.1⟩
  have HN2 : Hid (BoxN 33 (w.heap.size + 1) W0 a2 n2 c2) := ⟨b0.2⟩
  have HK : Hid (Pts W0 a n xs) := h.kept hB0
  have HK2 : Hid (Pts W0 a2 n2 ys) := h2.kept hB0
  have HZ : Hid (_) := hz
  have HZ2 : Hid (_) := hz2
  have HL : Hid (xs.length = n) := h.len
  have HL2 : Hid (ys.length = n2) := h2.len
  have q0 := HN1.out.cell
  have q1 := HN2.out.cell
  clear b0 h h2 hz hz2
  unfold nmv
  by_cases hnn : n = n2
  · have e1 : ((n : Int) == (n2 : Int)) = true := beq_iff_eq.2 (by omega)
    have HNN : Hid (n = n2) := hnn
    clear hnn
    go_enter Tryd.func58, Tryd.ntmps58
    go_upto_region 1 with fail
    rw [← hW0]
    clear hW0
    go_wp2_with fail
    refine (specUnder_any a n c xs a2 n2 c2 ys _ HK.out HK2.out HZ.out HZ2.out).mono ?_
    rintro e w1 ⟨b1, rfl, HV1, hb1⟩
    have B1 := hB0.trans (hb1.mono hB0.size)
    cases b1 with
    | false =>
      have HN : Hid (¬ sameP xs ys) := fun h => Bool.false_ne_true (HV1.out.2 h.2)
      clear HV1
      go_wp2
      go_ret
      exact says_f HN.out B1
    | true =>
      have HN : Hid (sameP xs ys) := ⟨by rw [HL.out, HL2.out]; exact HNN.out, HV1.out.1 rfl⟩
      clear HV1
      go_wp2
      go_ret
      exact says_t HN.out B1
  · have HN : Hid (¬ sameP xs ys) := fun h => hnn (by rw [← HL.out, ← HL2.out]; exact h.1)
    have e1 : ((n : Int) == (n2 : Int)) = false := beq_false_of_ne (by omega)
    clear hnn
    go_enter Tryd.func58, Tryd.ntmps58
    go_upto_region 1 with fail
    rw [← hW0]
    clear hW0
    go_wp2
    go_ret
    exact says_f HN.out hB0

end Go.Proofs.YtbfjkmlmnhphoaaDoor

namespace Go.Proofs.YtbfjkmlmnhphoaaDoor
open Go.RowKit

/-- A name that is right and not empty. -/
def calledP (xs : List PT) : Prop := nameP xs ∧ xs ≠ []
def timeP (t : Int) : Prop := 0 ≤ t ∧ t ≤ 253402300799
def likeP (x y : GP) : Prop := x.ser = y.ser ∧ sameP x.parts y.parts

set_option maxRecDepth 10000 in
set_option maxHeartbeats 1000000 in
theorem l10Time_any (t : Int) (w : World) : Calls Tryd.prog 31 #[.int .i64 t] w fun e w' => e = .returned (.bool (decide (0 ≤ t ∧ t ≤ 253402300799))) ∧ w = w' := by
  go_enter Tryd.func31, Tryd.ntmps31
  go_wp2_with fail
  refine (l1In_any t 0 253402300799 _).mono ?_
  rintro e w1 ⟨rfl, rfl⟩
  obtain ⟨v, hv⟩ : ∃ v, decide (0 ≤ t ∧ t ≤ 253402300799) = v := ⟨_, rfl⟩
  rw [hv]
  have HV : Hid (decide (0 ≤ t ∧ t ≤ 253402300799) = v) := hv
  clear hv
  go_wp2
  go_ret
  exact ⟨by rw [HV.out]; rfl, rfl⟩

set_option maxRecDepth 10000 in
set_option maxHeartbeats 1000000 in
theorem l10Called_any (a : Option Addr) (n c : Nat) (xs : List PT) (w : World) (h : Pts w a n xs) (hz : ∀ k, k < n → (xs.getD k default).val.size ≤ 1048576) :
    Calls Tryd.prog 29 #[nmv a n c] w (Says (calledP xs) w) := by
  have HL : Hid (xs.length = n) := h.len
  have hn := h.max
  obtain ⟨w0, hw0⟩ : ∃ w0, w0 = w.alloc (.cells #[.slice a n c] 33) := ⟨_, rfl⟩
  have hb0 : Below w.heap.size w w0 := by rw [hw0]; exact (Below.refl _ _).alloc (Nat.le_refl _) _
  have hh0 : w0.heap[w.heap.size]? = some (.cells #[.slice a n c] 33) := by rw [hw0]; exact heap_alloc_new w _
  have hl0 : w.heap.size < w0.heap.size := (Array.getElem?_eq_some_iff.1 hh0).1
  have HK : Hid (Pts w0 a n xs) := h.kept hb0
  have HZ : Hid (_) := hz
  clear h hz
  unfold nmv
  go_enter Tryd.func29, Tryd.ntmps29
  go_wp2_with fail
  rw [← hw0]
  clear hw0
  refine (specNameOk_any a n c xs _ HK.out HZ.out).mono ?_
  rintro e w1 ⟨b, rfl, hb, hb1⟩
  have hc : w1.cell? ⟨w.heap.size, 0, none⟩ = some (.slice a n c) := (cell_of_row _ _ 0 _ 33 (0, 0) ((hb1.block _ hl0).trans hh0)).trans rfl
  have HB : Hid (Below w.heap.size w w1) := hb0.trans (hb1.mono hb0.size)
  clear hb0 hb1 hh0
  rcases b with _ | _
  · have HN : Hid (¬ calledP xs) := fun q => by have := hb.out.2 q.1; simp at this
    clear hb
    go_wp2
    go_ret
    exact says_f HN.out HB.out
  · have HN : Hid (nameP xs) := hb.out.1 rfl
    clear hb
    by_cases h0 : n = 0
    · subst h0
      have HE : Hid (¬ calledP xs) := fun q => q.2 (List.eq_nil_of_length_eq_zero HL.out)
      go_wp2
      go_ret
      exact says_f HE.out HB.out
    · have hp : (0 : Int) < (n : Int) := by omega
      have HE : Hid (calledP xs) := ⟨HN.out, fun e => h0 (by rw [← HL.out, e]; rfl)⟩
      go_wp2
      go_ret
      exact ⟨decide (0 < n), rfl, ⟨fun _ => HE.out, fun _ => decide_eq_true (by omega)⟩, HB.out⟩

set_option maxRecDepth 10000 in
set_option maxHeartbeats 2000000 in
theorem l10Like_any (a : Option Addr) (n c : Nat) (x : GP) (b : Option Addr) (m d : Nat) (y : GP) (w : World) (h : Pts w a n x.parts) (h2 : Pts w b m y.parts) (hz : ∀ k, k < n → (x.parts.getD k default).val.size ≤ 1048576) (hz2 : ∀ k, k < m → (y.parts.getD k default).val.size ≤ 1048576) :
    Calls Tryd.prog 32 #[gov a n c x, gov b m d y] w (Says (likeP x y) w) := by
  obtain ⟨W0, hW0⟩ : ∃ W0, W0 = ((w.alloc (.cells #[.slice a n c, .int .i64 x.ser, .int .i64 x.tm, .int .i64 x.rs] 63)).alloc (.cells #[.slice b m d, .int .i64 y.ser, .int .i64 y.tm, .int .i64 y.rs] 63)) := ⟨_, rfl⟩
  have hbl : Below w.heap.size w W0 := by rw [hW0]; exact ((Below.refl _ _).alloc (Nat.le_refl _) _).alloc (by simp) _
  have H1 : Hid (Pts W0 a n x.parts) := h.kept hbl
  have H2 : Hid (Pts W0 b m y.parts) := h2.kept hbl
  have HZ : Hid (_) := hz
  have HZ2 : Hid (_) := hz2
  have HB : Hid (Below w.heap.size w W0) := hbl
  clear h h2 hz hz2 hbl
  unfold gov
  by_cases he : x.ser = y.ser
  · have hd : (x.ser == y.ser) = true := by simp [he]
    have HE : Hid (x.ser = y.ser) := he
    clear he
    go_enter Tryd.func32, Tryd.ntmps32
    go_wp2_with fail
    rw [← hW0]
    refine (specSameName_any a n c x.parts b m d y.parts _ H1.out H2.out HZ.out HZ2.out).mono ?_
    rintro e w1 ⟨v, rfl, hv, hb1⟩
    have HF : Hid (Below w.heap.size w w1) := HB.out.trans (hb1.mono HB.out.size)
    have HV : Hid (_) := hv
    clear hW0 hb1 hv
    go_wp2
    go_ret
    exact ⟨v, rfl, ⟨fun q => ⟨HE.out, HV.out.1 q⟩, fun q => HV.out.2 q.2⟩, HF.out⟩
  · have hd : (x.ser == y.ser) = false := by simp [he]
    have HE : Hid (¬ x.ser = y.ser) := he
    clear he
    go_enter Tryd.func32, Tryd.ntmps32
    go_wp2_with fail
    rw [← hW0]
    clear hW0
    go_ret
    exact says_f (fun q => HE.out q.1) HB.out

end Go.Proofs.YtbfjkmlmnhphoaaDoor
