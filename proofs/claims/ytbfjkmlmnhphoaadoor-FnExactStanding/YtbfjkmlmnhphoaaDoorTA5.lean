import Derived.Test.YtbfjkmlmnhphoaaDoorTA2
import Derived.Test.YtbfjkmlmnhphoaaDoorTA3
import Derived.OwnWalk
import Derived.Laws.AppendOwn
set_option linter.unusedVariables false
namespace Go.Proofs.YtbfjkmlmnhphoaaDoor
open Go.RowKit

theorem Tryd.infoSt : (Tryd.prog.info? 48).map (fun i => (i.zero, i.size, i.bytes)) = some (some (.agg #[.int .i64 0, .int .i64 0, .int .i64 0]), 3, 24) := by kernel_rfl
theorem ownS_kind {w : World} {B n : Nat} {v : Value} {ss : List (Int × Int)} (h : OwnS B w v n ss) (k : Nat) (hk : v.ownBlock = some k) : ∃ cur, w.heap[k]? = some (.cells cur 48 (0, 0)) := by
  rcases h.2 with ⟨rfl, _⟩ | ⟨g, cap', cur, rfl, hb, hg, _⟩
  · simp [Value.ownBlock] at hk
  · simp [Value.ownBlock] at hk
    subst hk
    exact ⟨cur, hg⟩
theorem cell_stand (w : World) (rs tm : Int) : ∀ q u, (flS [(rs, tm)])[q]? = some u → (w.alloc (.cells #[.int .i64 1, .int .i64 rs, .int .i64 tm] 48)).cell? ((⟨w.heap.size, 0, none⟩ : Addr).add q) = some u := by
  intro q u hq
  have hh := heap_alloc_new w (.cells #[.int .i64 1, .int .i64 rs, .int .i64 tm] 48)
  have hf : flS [(rs, tm)] = [.int .i64 1, .int .i64 rs, .int .i64 tm] := rfl
  rw [hf] at hq
  rw [Addr.add_lit, Nat.zero_add]
  rw [cell_of_row _ _ q _ 48 (0, 0) hh]
  rw [← hq]
  simp

set_option maxRecDepth 10000 in
set_option maxHeartbeats 4000000 in
theorem implStanding_any (a : Option Addr) (n c : Nat) (xs : List CP) (ai : Option Addr) (ni ci : Nat) (is : List PT) (ser now : Int) (w : World) (htab : Lib.TabIs Tryd.prog w "internal/strconv.uint64pow10" .u64 Lib.pow10Tab) (h : Cls w a n xs) (hz : ∀ k, k < n → ClOk (xs.getD k default)) (hsb : ∀ k, k < n → -9223372036854775808 ≤ (xs.getD k default).scope ∧ (xs.getD k default).scope ≤ 9223372036854775807) (hi : Pts w ai ni is) (hzi : ∀ k, k < ni → (is.getD k default).val.size ≤ 1048576) :
    Calls Tryd.prog 23 #[.slice a n c, nmv ai ni ci, .int .i64 ser, .int .i64 now] w fun e w' => e = .returned (.agg #[.int .i64 (stdV xs is ser now).1, .int .i64 (stdV xs is ser now).2.1, .int .i64 (stdV xs is ser now).2.2]) ∧ Below w.heap.size w w' := by
  obtain ⟨i0, hi0, hz0, hz1, hz2⟩ := info_parts Tryd.infoSt
  have HK : Hid (Cls w a n xs) := h
  have HTB : Hid (∀ W, Below w.heap.size w W → Lib.TabIs Tryd.prog W "internal/strconv.uint64pow10" .u64 Lib.pow10Tab) := fun W hW => Lib.tabBelow_of_tabIs htab W hW
  have HSB : Hid (∀ k, k < n → -9223372036854775808 ≤ (xs.getD k default).scope ∧ (xs.getD k default).scope ≤ 9223372036854775807) := hsb
  have HL : Hid (xs.length = n) := h.len
  have HZ : Hid (∀ k, k < n → ClOk (xs.getD k default)) := hz
  have HI : Hid (Pts w ai ni is) := hi
  have HZI : Hid (∀ k, k < ni → (is.getD k default).val.size ≤ 1048576) := hzi
  have hmx := h.max
  clear h hz hi hzi htab hsb
  unfold nmv
  obtain ⟨w0, hw0⟩ : ∃ w0, w0 = (w.alloc (.cells #[.slice ai ni ci] 33)).alloc (.cells #[.int .i64 0, .int .i64 0, .int .i64 0] 48) := ⟨_, rfl⟩
  have B0 : Hid (Below w.heap.size w w0) := by show Below w.heap.size w w0; rw [hw0]; exact two_below _ _ _
  have b0 := two_blocks w (.cells #[.slice ai ni ci] 33) (.cells #[.int .i64 0, .int .i64 0, .int .i64 0] 48)
  rw [← hw0] at b0
  have N0 : Hid (w0.heap[w.heap.size]? = some (.cells #[.slice ai ni ci] 33)) := b0.1
  have R0 : Hid (w0.heap[w.heap.size + 1]? = some (.cells #[.int .i64 0, .int .i64 0, .int .i64 0] 48)) := b0.2
  have l0 : w.heap.size + 1 < w0.heap.size := (Array.getElem?_eq_some_iff.1 b0.2).1
  have q0 : w0.cell? ⟨w.heap.size, 0, none⟩ = some (.slice ai ni ci) := (cell_of_row _ _ 0 _ 33 (0, 0) N0.out).trans rfl
  clear b0
  go_enter Tryd.func23, Tryd.ntmps23
  go_upto_region 1 with fail
  rw [← hw0]
  clear hw0
  go_wp2_with fail
  refine (someName_any ai ni ci is _ (HI.out.kept B0.out) HZI.out).mono ?_
  rintro e w1 ⟨v1, rfl, hv1, hb1⟩
  have B1 : Hid (Below w.heap.size w w1) := B0.out.trans (hb1.mono B0.out.size)
  have N1 : Hid (w1.heap[w.heap.size]? = some (.cells #[.slice ai ni ci] 33)) := (hb1.block _ (by omega)).trans N0.out
  have R1 : Hid (w1.heap[w.heap.size + 1]? = some (.cells #[.int .i64 0, .int .i64 0, .int .i64 0] 48)) := (hb1.block _ l0).trans R0.out
  have l1 : w.heap.size + 1 < w1.heap.size := (Array.getElem?_eq_some_iff.1 R1.out).1
  have HV1 : Hid _ := hv1
  clear q0 hb1 hv1 B0 N0 R0 l0
  by_cases hgood : calledP is ∧ xs.length ≤ 20
  case neg =>
    have HV : Hid (stdV xs is ser now = (2, 0, 0)) := stdV_no hgood
    have Rr : Hid (w1.heap[w.heap.size + 1]? = some (.cells #[.int .i64 0, .int .i64 0, .int .i64 0] 48)) := R1
    have z0 : w1.cell? ⟨w.heap.size + 1, 0, none⟩ = some (.int .i64 0) := (cell_of_row _ _ 0 _ 48 (0, 0) Rr.out).trans rfl
    have z1 : w1.cell? ⟨w.heap.size + 1, 1, none⟩ = some (.int .i64 0) := (cell_of_row _ _ 1 _ 48 (0, 0) Rr.out).trans rfl
    have z2 : w1.cell? ⟨w.heap.size + 1, 2, none⟩ = some (.int .i64 0) := (cell_of_row _ _ 2 _ 48 (0, 0) Rr.out).trans rfl
    have y0 : w1.frozen? ⟨w.heap.size + 1, 0, none⟩ = false := frozen_of_row w1 _ 0 _ _ Rr.out
    have y1 : w1.frozen? ⟨w.heap.size + 1, 1, none⟩ = false := frozen_of_row w1 _ 1 _ _ Rr.out
    have y2 : w1.frozen? ⟨w.heap.size + 1, 2, none⟩ = false := frozen_of_row w1 _ 2 _ _ Rr.out
    have HX3 : Hid (_ = _) := put3_same w1 (w.heap.size + 1) 48 (.int .i64 2) (.int .i64 0) (.int .i64 0) _ _ _ Rr.out
    have B3 : Hid (Below w.heap.size w (put3 w1 (w.heap.size + 1) (.int .i64 2) (.int .i64 0) (.int .i64 0))) := put3_below B1.out _ (by omega) _ _ _
    rcases v1 with _ | _
    · clear hgood
      go_wp2
      exact bodyPost_ret (results_cell_row rfl _ _ (w.heap.size + 1) 48 _ (0, 0) _ rfl HX3.out Tryd.underlying48 rfl (by kernel_rfl)) rfl ⟨by rw [HV.out], B3.out⟩
    · have hbig : (20 : Int) < (n : Int) := by
        have := HV1.out.1 rfl
        have h2 : ¬ xs.length ≤ 20 := fun q => hgood ⟨this, q⟩
        rw [HL.out] at h2
        omega
      clear hgood
      go_wp2
      exact bodyPost_ret (results_cell_row rfl _ _ (w.heap.size + 1) 48 _ (0, 0) _ rfl HX3.out Tryd.underlying48 rfl (by kernel_rfl)) rfl ⟨by rw [HV.out], B3.out⟩
  rcases v1 with _ | _
  · have := HV1.out.2 hgood.1
    cases this
  have HG : Hid (calledP is ∧ xs.length ≤ 20) := hgood
  have hn20 : ¬ ((20 : Int) < (n : Int)) := by have := HG.out.2; rw [HL.out] at this; omega
  clear hgood HV1
  go_wp2
  go_loopw [26, 9, 10] (fun i v s wr => ∃ (k m : Nat) (at_ : Option Addr) (ct : Nat), k ≤ n ∧ i = .int .i64 k ∧ v = .slice at_ m ct ∧ s = .int .i64 (scpL xs is now k) ∧ m ≤ 60 * k ∧ Hid (OwnS w1.heap.size wr (.slice at_ m ct) m (toldL xs is ser now k)) ∧ Below w1.heap.size w1 wr) (fun i _ _ _ => n - (intOf i).toNat)
  case atStart => exact ⟨0, 0, none, 0, Nat.zero_le _, rfl, rfl, rfl, by omega, (show OwnS _ _ _ _ _ from ⟨rfl, .inl ⟨rfl, rfl⟩⟩), Below.refl _ _⟩
  case round =>
    obtain ⟨wo, hwo⟩ : ∃ wo, wo = wr := ⟨_, rfl⟩
    subst hwo
    obtain ⟨k, m, at_, ct, hk, rfl, rfl, rfl, hmk, HO, hbr⟩ := hrel
    by_cases hkn : k < n
    case neg =>
      have hkn' : k = n := by omega
      subst hkn'
      have hki : ¬ ((k : Int) < (k : Int)) := by omega
      have Br : Hid (Below w.heap.size w wo) := B1.out.trans (hbr.mono B1.out.size)
      have Rr : Hid (wo.heap[w.heap.size + 1]? = some (.cells #[.int .i64 0, .int .i64 0, .int .i64 0] 48)) := (hbr.block _ l1).trans R1.out
      by_cases hm0 : m = 0
      · have htl : toldL xs is ser now k = [] := List.eq_nil_of_length_eq_zero (by rw [HO.out.len]; exact hm0)
        have hbn : best (toldL xs is ser now k) = none := (best_none _).2 htl
        subst hm0
        have z0 : wo.cell? ⟨w.heap.size + 1, 0, none⟩ = some (.int .i64 0) := (cell_of_row _ _ 0 _ 48 (0, 0) Rr.out).trans rfl
        have z1 : wo.cell? ⟨w.heap.size + 1, 1, none⟩ = some (.int .i64 0) := (cell_of_row _ _ 1 _ 48 (0, 0) Rr.out).trans rfl
        have z2 : wo.cell? ⟨w.heap.size + 1, 2, none⟩ = some (.int .i64 0) := (cell_of_row _ _ 2 _ 48 (0, 0) Rr.out).trans rfl
        have y0 : wo.frozen? ⟨w.heap.size + 1, 0, none⟩ = false := frozen_of_row wo _ 0 _ _ Rr.out
        have y1 : wo.frozen? ⟨w.heap.size + 1, 1, none⟩ = false := frozen_of_row wo _ 1 _ _ Rr.out
        have y2 : wo.frozen? ⟨w.heap.size + 1, 2, none⟩ = false := frozen_of_row wo _ 2 _ _ Rr.out
        by_cases hs : scpL xs is now k = 126
        · have hse : (scpL xs is now k == 126) = true := by simp [hs]
          have HV : Hid (stdV xs is ser now = (0, 0, 0)) := by show _ = _; rw [stdV_none HG.out (by rw [HL.out]; exact hbn), HL.out, if_pos hs]
          have HX3 : Hid (_ = _) := put3_same wo (w.heap.size + 1) 48 (.int .i64 0) (.int .i64 0) (.int .i64 0) _ _ _ Rr.out
          have B3 : Hid (Below w.heap.size w (put3 wo (w.heap.size + 1) (.int .i64 0) (.int .i64 0) (.int .i64 0))) := put3_below Br.out _ (by omega) _ _ _
          clear hs htl hbn
          go_wp2
          exact bodyPost_ret (results_cell_row rfl _ _ (w.heap.size + 1) 48 _ (0, 0) _ rfl HX3.out Tryd.underlying48 rfl (by kernel_rfl)) rfl ⟨by rw [HV.out], B3.out⟩
        · have hse : (scpL xs is now k == 126) = false := by simp [hs]
          have HV : Hid (stdV xs is ser now = (2, 0, 0)) := by show _ = _; rw [stdV_none HG.out (by rw [HL.out]; exact hbn), HL.out, if_neg hs]
          have HX3 : Hid (_ = _) := put3_same wo (w.heap.size + 1) 48 (.int .i64 2) (.int .i64 0) (.int .i64 0) _ _ _ Rr.out
          have B3 : Hid (Below w.heap.size w (put3 wo (w.heap.size + 1) (.int .i64 2) (.int .i64 0) (.int .i64 0))) := put3_below Br.out _ (by omega) _ _ _
          clear hs htl hbn
          go_wp2
          exact bodyPost_ret (results_cell_row rfl _ _ (w.heap.size + 1) 48 _ (0, 0) _ rfl HX3.out Tryd.underlying48 rfl (by kernel_rfl)) rfl ⟨by rw [HV.out], B3.out⟩
      · have hmp : 0 < m := by omega
        have hmi : (0 : Int) < (m : Int) := by omega
        obtain ⟨g, cg, hv, hgB, hgl⟩ := HO.out.shape hmp
        simp only [Value.slice.injEq, true_and] at hv
        obtain ⟨rfl, rfl⟩ := hv
        have MF := minFunc_any w1.heap.size g m ct (toldL xs is ser now k) wo HO.out hmp (by omega)
        go_wp2_with fail
        refine MF.mono ?_
        rintro e w6 ⟨r, hr, rfl, hb6⟩
        have Rr6 : Hid (w6.heap[w.heap.size + 1]? = some (.cells #[.int .i64 0, .int .i64 0, .int .i64 0] 48)) := (hb6.block _ (Array.getElem?_eq_some_iff.1 Rr.out).1).trans Rr.out
        have B6 : Hid (Below w.heap.size w w6) := Br.out.trans (hb6.mono Br.out.size)
        have HV : Hid (stdV xs is ser now = (1, r.1, r.2)) := stdV_some HG.out (by rw [HL.out]; exact hr)
        clear Rr MF hr hb6
        have Rr : Hid (w6.heap[w.heap.size + 1]? = some (.cells #[.int .i64 0, .int .i64 0, .int .i64 0] 48)) := Rr6
        have z0 : w6.cell? ⟨w.heap.size + 1, 0, none⟩ = some (.int .i64 0) := (cell_of_row _ _ 0 _ 48 (0, 0) Rr.out).trans rfl
        have z1 : w6.cell? ⟨w.heap.size + 1, 1, none⟩ = some (.int .i64 0) := (cell_of_row _ _ 1 _ 48 (0, 0) Rr.out).trans rfl
        have z2 : w6.cell? ⟨w.heap.size + 1, 2, none⟩ = some (.int .i64 0) := (cell_of_row _ _ 2 _ 48 (0, 0) Rr.out).trans rfl
        have y0 : w6.frozen? ⟨w.heap.size + 1, 0, none⟩ = false := frozen_of_row w6 _ 0 _ _ Rr.out
        have y1 : w6.frozen? ⟨w.heap.size + 1, 1, none⟩ = false := frozen_of_row w6 _ 1 _ _ Rr.out
        have y2 : w6.frozen? ⟨w.heap.size + 1, 2, none⟩ = false := frozen_of_row w6 _ 2 _ _ Rr.out
        have HX3 : Hid (_ = _) := put3_same w6 (w.heap.size + 1) 48 (.int .i64 1) (.int .i64 r.1) (.int .i64 r.2) _ _ _ Rr.out
        have B3 : Hid (Below w.heap.size w (put3 w6 (w.heap.size + 1) (.int .i64 1) (.int .i64 r.1) (.int .i64 r.2))) := put3_below B6.out _ (by omega) _ _ _
        go_wp2
        exact bodyPost_ret (results_cell_row rfl _ _ (w.heap.size + 1) 48 _ (0, 0) _ rfl HX3.out Tryd.underlying48 rfl (by kernel_rfl)) rfl ⟨by rw [HV.out], B3.out⟩
    have Br : Hid (Below w.heap.size w wo) := B1.out.trans (hbr.mono B1.out.size)
    obtain ⟨b, off, a1, n1, c1, a2, n2, c2, a3, n3, c3, rfl, hlb, hc, hp⟩ := HK.out.get k hkn
    have hcz := HZ.out k hkn
    have hsc := HSB.out k hkn
    obtain ⟨y, hy⟩ : ∃ y, y = xs.getD k default := ⟨_, rfl⟩
    rw [← hy] at hc hp hcz hsc
    have HY : Hid (y = xs.getD k default) := hy
    have HCZ : Hid (CpOk n1 n2 n3 y) := hp.lens.1 hcz
    have HP : Hid (Crs w a1 n1 a2 n2 a3 n3 y) := hp
    have HEL : Hid (y.ents.length = n2) := hp.en.len
    have hm2 := hp.en.max
    have hCO : ∀ W, Below w.heap.size w W → Calls Tryd.prog 60 #[crv a1 n1 c1 a2 n2 c2 a3 n3 c3 y, nmv ai ni ci, .int .i64 now] W (Says (spkP y is now) W) := fun W hW => speaks_any a1 n1 c1 a2 n2 c2 a3 n3 c3 y ai ni ci is now W (HTB.out W hW) (hp.kept hW) HCZ.out hsc (HI.out.kept hW) HZI.out
    have HCO : Hid (∀ W, Below w.heap.size w W → Calls Tryd.prog 60 #[.agg #[.slice a1 n1 c1, .int .i64 y.num, .int .i64 y.base, .int .i64 y.tm, .int .i64 y.next, .int .i64 y.scope, .bool y.ind, .slice a2 n2 c2, .slice a3 n3 c3], .agg #[.slice ai ni ci], .int .i64 now] W (Says (spkP y is now) W)) := hCO
    obtain ⟨d0, d1, d2, d3, d4, d5, d6, d7, d8⟩ := hc.of (w' := wo) (fun i => Br.out.cell (p := ⟨b, i, none⟩) hlb)
    obtain ⟨W1, hW1⟩ : ∃ W1, W1 = wo.alloc (.cells #[.slice a1 n1 c1, .int .i64 y.num, .int .i64 y.base, .int .i64 y.tm, .int .i64 y.next, .int .i64 y.scope, .bool y.ind, .slice a2 n2 c2, .slice a3 n3 c3] 36) := ⟨_, rfl⟩
    have hb1 : Below wo.heap.size wo W1 := by rw [hW1]; exact (Below.refl _ _).alloc (Nat.le_refl _) _
    have Y1 : Hid (W1.heap[wo.heap.size]? = some (.cells #[.slice a1 n1 c1, .int .i64 y.num, .int .i64 y.base, .int .i64 y.tm, .int .i64 y.next, .int .i64 y.scope, .bool y.ind, .slice a2 n2 c2, .slice a3 n3 c3] 36)) := by show _ = _; rw [hW1]; exact heap_alloc_new wo _
    have O1 : Hid (OwnS w1.heap.size W1 (.slice at_ m ct) m (toldL xs is ser now k)) := HO.out.kept hb1
    have BB1 : Hid (Below w1.heap.size w1 W1) := hbr.trans (hb1.mono hbr.size)
    have lY : wo.heap.size < W1.heap.size := (Array.getElem?_eq_some_iff.1 Y1.out).1
    have hkni : (k : Int) < (n : Int) := by omega
    have HW1 : Hid (_ = _) := hW1
    clear hW1 hb1 hc hp hy hCO hcz hsc
    go_upto_region 8 with fail
    rw [← HW1.out]
    clear HW1 d0 d1 d2 d3 d4 d5 d6 d7 d8
    have p0 : W1.cell? ⟨wo.heap.size, 0, none⟩ = some (.slice a1 n1 c1) := (cell_of_row _ _ 0 _ 36 (0, 0) Y1.out).trans rfl
    have p1 : W1.cell? ⟨wo.heap.size, 1, none⟩ = some (.int .i64 y.num) := (cell_of_row _ _ 1 _ 36 (0, 0) Y1.out).trans rfl
    have p2 : W1.cell? ⟨wo.heap.size, 2, none⟩ = some (.int .i64 y.base) := (cell_of_row _ _ 2 _ 36 (0, 0) Y1.out).trans rfl
    have p3 : W1.cell? ⟨wo.heap.size, 3, none⟩ = some (.int .i64 y.tm) := (cell_of_row _ _ 3 _ 36 (0, 0) Y1.out).trans rfl
    have p4 : W1.cell? ⟨wo.heap.size, 4, none⟩ = some (.int .i64 y.next) := (cell_of_row _ _ 4 _ 36 (0, 0) Y1.out).trans rfl
    have p5 : W1.cell? ⟨wo.heap.size, 5, none⟩ = some (.int .i64 y.scope) := (cell_of_row _ _ 5 _ 36 (0, 0) Y1.out).trans rfl
    have p6 : W1.cell? ⟨wo.heap.size, 6, none⟩ = some (.bool y.ind) := (cell_of_row _ _ 6 _ 36 (0, 0) Y1.out).trans rfl
    have p7 : W1.cell? ⟨wo.heap.size, 7, none⟩ = some (.slice a2 n2 c2) := (cell_of_row _ _ 7 _ 36 (0, 0) Y1.out).trans rfl
    have p8 : W1.cell? ⟨wo.heap.size, 8, none⟩ = some (.slice a3 n3 c3) := (cell_of_row _ _ 8 _ 36 (0, 0) Y1.out).trans rfl
    have q0 : W1.cell? ⟨w.heap.size, 0, none⟩ = some (.slice ai ni ci) := (cell_of_row _ _ 0 _ 33 (0, 0) ((BB1.out.block _ (by omega)).trans N1.out)).trans rfl
    go_wp2_with fail
    refine (HCO.out _ (B1.out.trans (BB1.out.mono B1.out.size))).mono ?_
    rintro e w3 ⟨v3, rfl, hv3, hb3⟩
    have HV3 : Hid _ := hv3
    have YW : Hid (w3.heap[wo.heap.size]? = some (.cells #[.slice a1 n1 c1, .int .i64 y.num, .int .i64 y.base, .int .i64 y.tm, .int .i64 y.next, .int .i64 y.scope, .bool y.ind, .slice a2 n2 c2, .slice a3 n3 c3] 36)) := (hb3.block _ lY).trans Y1.out
    have HOW : Hid (OwnS w1.heap.size w3 (.slice at_ m ct) m (toldL xs is ser now k)) := O1.out.kept hb3
    have BW : Hid (Below w1.heap.size w1 w3) := BB1.out.trans (hb3.mono BB1.out.size)
    clear p0 p1 p2 p3 p4 p5 p6 p7 p8 q0 hv3 hb3 Y1 O1 BB1 HCO
    rcases v3 with _ | _
    · have HNS : Hid (¬ spkP (xs.getD k default) is now) := by
        rw [← HY.out]
        exact fun q => by have := HV3.out.2 q; cases this
      have HSC : Hid (scpL xs is now k = scpL xs is now (k + 1)) := (scpL_skip HNS.out).symm
      have HOC : Hid (OwnS w1.heap.size w3 (.slice at_ m ct) m (toldL xs is ser now (k + 1))) := by
        show OwnS _ _ _ _ _
        rw [toldL_skip HNS.out]; exact HOW.out
      go_wp2
      go_roundw
      case rel => exact ⟨k + 1, m, at_, ct, by omega, by go_num, rfl, by rw [HSC.out], by omega, HOC, BW.out⟩
      case measure => simp [intOf]; omega
    have HSQ : Hid (spkP y is now) := HV3.out.1 rfl
    clear HV3
    have HSP : Hid (spkP (xs.getD k default) is now) := by rw [← HY.out]; exact HSQ.out
    have hn60 : n2 ≤ 60 := by have := HSQ.out.1.1.2.2.2.2.2.2.2.1; rw [HEL.out] at this; omega
    have q5 : w3.cell? ⟨wo.heap.size, 5, none⟩ = some (.int .i64 y.scope) := (cell_of_row _ _ 5 _ 36 (0, 0) YW.out).trans rfl
    have q7 : w3.cell? ⟨wo.heap.size, 7, none⟩ = some (.slice a2 n2 c2) := (cell_of_row _ _ 7 _ 36 (0, 0) YW.out).trans rfl
    go_wp2
    clear q5 q7
    go_loopw [42, 9] (fun i v wr => ∃ (j m : Nat) (at_ : Option Addr) (ct : Nat), j ≤ n2 ∧ i = .int .i64 j ∧ v = .slice at_ m ct ∧ m ≤ 60 * k + j ∧ Hid (wr.heap[wo.heap.size]? = some (.cells #[.slice a1 n1 c1, .int .i64 y.num, .int .i64 y.base, .int .i64 y.tm, .int .i64 y.next, .int .i64 y.scope, .bool y.ind, .slice a2 n2 c2, .slice a3 n3 c3] 36)) ∧ Hid (OwnS w1.heap.size wr (.slice at_ m ct) m (toldL xs is ser now k ++ toldE y is ser j)) ∧ Below w1.heap.size w1 wr) (fun i _ _ => n2 - (intOf i).toNat)
    case atStart => exact ⟨0, m, at_, ct, Nat.zero_le _, rfl, rfl, by omega, YW, (by show OwnS _ _ _ _ _; rw [show toldE y is ser 0 = [] from rfl, List.append_nil]; exact HOW.out), BW.out⟩
    case round =>
      clear HOW YW BW
      obtain ⟨j, m, at_, ct, hj, rfl, rfl, hmj, YJ, OJ, hbj⟩ := hrel
      have l2 : w1.heap.size ≤ wo.heap.size := hbr.size
      have l3 : wo.heap.size < wr.heap.size := (Array.getElem?_eq_some_iff.1 YJ.out).1
      have Bj : Hid (Below w.heap.size w wr) := B1.out.trans (hbj.mono B1.out.size)
      by_cases hjn : j < n2
      case neg =>
        have hjn' : j = n2 := by omega
        subst hjn'
        have hji : ¬ ((j : Int) < (j : Int)) := by omega
        have HSC : Hid (bits BinOp.or IntKind.i64 (scpL xs is now k) y.scope = scpL xs is now (k + 1)) := by
          show _ = _
          rw [scpL_take HSP.out, ← HY.out]
        have HOC : Hid (OwnS w1.heap.size wr (.slice at_ m ct) m (toldL xs is ser now (k + 1))) := by
          show OwnS _ _ _ _ _
          rw [toldL_take HSP.out, ← HY.out, HEL.out]; exact OJ.out
        go_wp2
        go_roundw
        case rel => exact ⟨k + 1, m, at_, ct, by omega, by go_num, rfl, by rw [HSC.out], by omega, HOC, hbj⟩
        case measure => simp [intOf]; omega
      obtain ⟨b1, off1, an, nn, cn, rfl, hlb1, hc1, hp1⟩ := HP.out.en.get j hjn
      have HGZ : Hid (GpOk (y.ents.getD j default)) := HCZ.out.2.2.2.1 j hjn
      obtain ⟨z, hzz⟩ : ∃ z, z = y.ents.getD j default := ⟨_, rfl⟩
      rw [← hzz] at hc1 hp1 HGZ
      have HZZ : Hid (z = y.ents.getD j default) := hzz
      have HNN : Hid (z.parts.length = nn) := hp1.len
      have HPZ : Hid (∀ W, Below w.heap.size w W → Pts W an nn z.parts) := fun W hW => hp1.kept hW
      have HGN : Hid (∀ i, i < nn → (z.parts.getD i default).val.size ≤ 1048576) := fun i hi => HGZ.out.2 i (by rw [HNN.out]; exact hi)
      have hME : ∀ W, Below w.heap.size w W → Calls Tryd.prog 61 #[crv a1 n1 c1 (some ⟨b1, off1, none⟩) n2 c2 a3 n3 c3 y, gov an nn cn z, nmv ai ni ci, .int .i64 ser] W (Says (mnsP y z is ser) W) := fun W hW => means_any a1 n1 c1 (some ⟨b1, off1, none⟩) n2 c2 a3 n3 c3 y an nn cn z ai ni ci is ser W (HPZ.out W hW) HGN.out (HI.out.kept hW) HZI.out
      have HME : Hid (∀ W, Below w.heap.size w W → Calls Tryd.prog 61 #[.agg #[.slice a1 n1 c1, .int .i64 y.num, .int .i64 y.base, .int .i64 y.tm, .int .i64 y.next, .int .i64 y.scope, .bool y.ind, .slice (some ⟨b1, off1, none⟩) n2 c2, .slice a3 n3 c3], .agg #[.slice an nn cn, .int .i64 z.ser, .int .i64 z.tm, .int .i64 z.rs], .agg #[.slice ai ni ci], .int .i64 ser] W (Says (mnsP y z is ser) W)) := hME
      obtain ⟨d0, d1, d2, d3⟩ := hc1.of (w' := wr) (fun i => Bj.out.cell (p := ⟨b1, i, none⟩) hlb1)
      obtain ⟨W2, hW2⟩ : ∃ W2, W2 = wr.alloc (.cells #[.slice an nn cn, .int .i64 z.ser, .int .i64 z.tm, .int .i64 z.rs] 63) := ⟨_, rfl⟩
      have hb2 : Below wr.heap.size wr W2 := by rw [hW2]; exact (Below.refl _ _).alloc (Nat.le_refl _) _
      have E2 : Hid (W2.heap[wr.heap.size]? = some (.cells #[.slice an nn cn, .int .i64 z.ser, .int .i64 z.tm, .int .i64 z.rs] 63)) := by show _ = _; rw [hW2]; exact heap_alloc_new wr _
      have Y2 : Hid (W2.heap[wo.heap.size]? = some (.cells #[.slice a1 n1 c1, .int .i64 y.num, .int .i64 y.base, .int .i64 y.tm, .int .i64 y.next, .int .i64 y.scope, .bool y.ind, .slice (some ⟨b1, off1, none⟩) n2 c2, .slice a3 n3 c3] 36)) := (hb2.block _ l3).trans YJ.out
      have O2 : Hid (OwnS w1.heap.size W2 (.slice at_ m ct) m (toldL xs is ser now k ++ toldE y is ser j)) := OJ.out.kept hb2
      have B2 : Hid (Below w1.heap.size w1 W2) := hbj.trans (hb2.mono hbj.size)
      have hjni : (j : Int) < (n2 : Int) := by omega
      have HW2 : Hid (_ = _) := hW2
      clear hW2 hb2 hc1 hp1 hzz HGZ hME YJ OJ
      go_upto_region 13 with fail
      rw [← HW2.out]
      clear HW2 d0 d1 d2 d3
      have p0 : W2.cell? ⟨wo.heap.size, 0, none⟩ = some (.slice a1 n1 c1) := (cell_of_row _ _ 0 _ 36 (0, 0) Y2.out).trans rfl
      have p1 : W2.cell? ⟨wo.heap.size, 1, none⟩ = some (.int .i64 y.num) := (cell_of_row _ _ 1 _ 36 (0, 0) Y2.out).trans rfl
      have p2 : W2.cell? ⟨wo.heap.size, 2, none⟩ = some (.int .i64 y.base) := (cell_of_row _ _ 2 _ 36 (0, 0) Y2.out).trans rfl
      have p3 : W2.cell? ⟨wo.heap.size, 3, none⟩ = some (.int .i64 y.tm) := (cell_of_row _ _ 3 _ 36 (0, 0) Y2.out).trans rfl
      have p4 : W2.cell? ⟨wo.heap.size, 4, none⟩ = some (.int .i64 y.next) := (cell_of_row _ _ 4 _ 36 (0, 0) Y2.out).trans rfl
      have p5 : W2.cell? ⟨wo.heap.size, 5, none⟩ = some (.int .i64 y.scope) := (cell_of_row _ _ 5 _ 36 (0, 0) Y2.out).trans rfl
      have p6 : W2.cell? ⟨wo.heap.size, 6, none⟩ = some (.bool y.ind) := (cell_of_row _ _ 6 _ 36 (0, 0) Y2.out).trans rfl
      have p7 : W2.cell? ⟨wo.heap.size, 7, none⟩ = some (.slice (some ⟨b1, off1, none⟩) n2 c2) := (cell_of_row _ _ 7 _ 36 (0, 0) Y2.out).trans rfl
      have p8 : W2.cell? ⟨wo.heap.size, 8, none⟩ = some (.slice a3 n3 c3) := (cell_of_row _ _ 8 _ 36 (0, 0) Y2.out).trans rfl
      have e0 : W2.cell? ⟨wr.heap.size, 0, none⟩ = some (.slice an nn cn) := (cell_of_row _ _ 0 _ 63 (0, 0) E2.out).trans rfl
      have e1 : W2.cell? ⟨wr.heap.size, 1, none⟩ = some (.int .i64 z.ser) := (cell_of_row _ _ 1 _ 63 (0, 0) E2.out).trans rfl
      have e2 : W2.cell? ⟨wr.heap.size, 2, none⟩ = some (.int .i64 z.tm) := (cell_of_row _ _ 2 _ 63 (0, 0) E2.out).trans rfl
      have e3 : W2.cell? ⟨wr.heap.size, 3, none⟩ = some (.int .i64 z.rs) := (cell_of_row _ _ 3 _ 63 (0, 0) E2.out).trans rfl
      have q0 : W2.cell? ⟨w.heap.size, 0, none⟩ = some (.slice ai ni ci) := (cell_of_row _ _ 0 _ 33 (0, 0) ((B2.out.block _ (by omega)).trans N1.out)).trans rfl
      go_wp2_with fail
      refine (HME.out _ (B1.out.trans (B2.out.mono B1.out.size))).mono ?_
      rintro e w5 ⟨v5, rfl, hv5, hb5⟩
      have HV5 : Hid _ := hv5
      have l4 : wr.heap.size < W2.heap.size := (Array.getElem?_eq_some_iff.1 E2.out).1
      have EV : Hid (w5.heap[wr.heap.size]? = some (.cells #[.slice an nn cn, .int .i64 z.ser, .int .i64 z.tm, .int .i64 z.rs] 63)) := (hb5.block _ l4).trans E2.out
      have YV : Hid (w5.heap[wo.heap.size]? = some (.cells #[.slice a1 n1 c1, .int .i64 y.num, .int .i64 y.base, .int .i64 y.tm, .int .i64 y.next, .int .i64 y.scope, .bool y.ind, .slice (some ⟨b1, off1, none⟩) n2 c2, .slice a3 n3 c3] 36)) := (hb5.block _ (by omega)).trans Y2.out
      have OV : Hid (OwnS w1.heap.size w5 (.slice at_ m ct) m (toldL xs is ser now k ++ toldE y is ser j)) := O2.out.kept hb5
      have BV : Hid (Below w1.heap.size w1 w5) := B2.out.trans (hb5.mono B2.out.size)
      clear hv5 hb5 p0 p1 p2 p3 p4 p5 p6 p7 p8 e0 e1 e2 e3 q0 Y2 O2 B2 E2 l4 HME
      rcases v5 with _ | _
      · have HNM : Hid (¬ mnsP y (y.ents.getD j default) is ser) := by
          rw [← HZZ.out]
          exact fun q => by have := HV5.out.2 q; cases this
        have HOC : Hid (OwnS w1.heap.size w5 (.slice at_ m ct) m (toldL xs is ser now k ++ toldE y is ser (j + 1))) := by
          show OwnS _ _ _ _ _
          rw [toldE_skip HNM.out]; exact OV.out
        go_wp2
        go_roundw
        case rel => exact ⟨j + 1, m, at_, ct, by omega, by go_num, rfl, by omega, YV, HOC, BV.out⟩
        case measure => simp [intOf]; omega
      have HTE : Hid (toldE y is ser (j + 1) = toldE y is ser j ++ [(z.rs, z.tm)]) := by
        show _ = _
        rw [toldE_take (by rw [← HZZ.out]; exact HV5.out.1 rfl), ← HZZ.out]
      have f2 : w5.cell? ⟨wr.heap.size, 2, none⟩ = some (.int .i64 z.tm) := (cell_of_row _ _ 2 _ 63 (0, 0) EV.out).trans rfl
      have f3 : w5.cell? ⟨wr.heap.size, 3, none⟩ = some (.int .i64 z.rs) := (cell_of_row _ _ 3 _ 63 (0, 0) EV.out).trans rfl
      have hal : Below w5.heap.size w5 (w5.alloc (.cells #[.int .i64 1, .int .i64 z.rs, .int .i64 z.tm] 48)) := (Below.refl _ _).alloc (Nat.le_refl _) _
      have B5 : Hid (Below w1.heap.size w1 (w5.alloc (.cells #[.int .i64 1, .int .i64 z.rs, .int .i64 z.tm] 48))) := BV.out.trans (hal.mono BV.out.size)
      have hs5 := B5.out.size
      have hor5 : OwnS w1.heap.size (w5.alloc (.cells #[.int .i64 1, .int .i64 z.rs, .int .i64 z.tm] 48)) (.slice at_ m ct) m (toldL xs is ser now k ++ toldE y is ser j) := OV.out.kept hal
      have HOR : Hid (OwnS w1.heap.size (w5.alloc (.cells #[.int .i64 1, .int .i64 z.rs, .int .i64 z.tm] 48)) (.slice at_ m ct) m (toldL xs is ser now k ++ toldE y is ser j)) := hor5
      have Y5 : Hid ((w5.alloc (.cells #[.int .i64 1, .int .i64 z.rs, .int .i64 z.tm] 48)).heap[wo.heap.size]? = some (.cells #[.slice a1 n1 c1, .int .i64 y.num, .int .i64 y.base, .int .i64 y.tm, .int .i64 y.next, .int .i64 y.scope, .bool y.ind, .slice (some ⟨b1, off1, none⟩) n2 c2, .slice a3 n3 c3] 36)) := (hal.block _ (Array.getElem?_eq_some_iff.1 YV.out).1).trans YV.out
      have hcl : ∀ q u, (flS [(z.rs, z.tm)])[q]? = some u → (w5.alloc (.cells #[.int .i64 1, .int .i64 z.rs, .int .i64 z.tm] 48)).cell? ((⟨w5.heap.size, 0, none⟩ : Addr).add q) = some u := cell_stand w5 z.rs z.tm
      have HCL : Hid _ := hcl
      clear hal hor5 hcl YV OV BV EV
      go_wp2_with (first | (at_builtin; refine wpList_append_own _ rfl (.tmp 51) (.tmp 57) 83 rfl w1.heap.size 48 i0 _ 3 24 Tryd.underlying83 hi0 hz0 hz1 hz2 rfl (by decide) _ m _ rfl HOR.out ⟨w5.heap.size, 0, none⟩ 1 1 (flS [(z.rs, z.tm)]) rfl rfl HCL.out (flS_one _) (by unfold maxLen; omega) (by omega) (by exact hs5) ?_; intro v6 w6 hv6 hg6 _))
      rw [← flS_append] at hv6
      have ho6 : OwnS w1.heap.size w6 v6 (m + 1) ((toldL xs is ser now k ++ toldE y is ser j) ++ [(z.rs, z.tm)]) := hv6
      obtain ⟨a6, c6, rfl⟩ := ho6.slice
      have B6 : Hid (Below w1.heap.size w1 w6) := B5.out.grown hg6 hs5 (fun q hq => (HOR.out.lt q hq).1)
      have Y6 : Hid (w6.heap[wo.heap.size]? = some (.cells #[.slice a1 n1 c1, .int .i64 y.num, .int .i64 y.base, .int .i64 y.tm, .int .i64 y.next, .int .i64 y.scope, .bool y.ind, .slice (some ⟨b1, off1, none⟩) n2 c2, .slice a3 n3 c3] 36)) := (hg6.block _ (Array.getElem?_eq_some_iff.1 Y5.out).1 (fun e => by obtain ⟨cur, hcur⟩ := ownS_kind HOR.out _ e.symm; rw [Y5.out] at hcur; simp at hcur)).trans Y5.out
      have HO6 : Hid (OwnS w1.heap.size w6 (.slice a6 (m + 1) c6) (m + 1) (toldL xs is ser now k ++ toldE y is ser (j + 1))) := by
        show OwnS _ _ _ _ _
        rw [HTE.out, ← List.append_assoc]; exact ho6
      clear ho6 hv6 hg6 HOR HCL B5 Y5 f2 f3
      go_wp2
      go_roundw
      case rel => exact ⟨j + 1, m + 1, a6, c6, by omega, by go_num, rfl, by omega, Y6, HO6, B6.out⟩
      case measure => simp [intOf]; omega

end Go.Proofs.YtbfjkmlmnhphoaaDoor
