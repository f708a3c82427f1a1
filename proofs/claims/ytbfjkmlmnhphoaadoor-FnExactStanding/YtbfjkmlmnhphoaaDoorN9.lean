import Derived.Test.YtbfjkmlmnhphoaaDoorN7N8
namespace Go.Proofs.YtbfjkmlmnhphoaaDoor
open Go.RowKit

def sameP (xs ys : List PT) : Prop := xs.length = ys.length ∧ underP xs ys

set_option maxRecDepth 10000 in
set_option maxHeartbeats 2000000 in
theorem implSameName_any (a : Option Addr) (n c : Nat) (xs : List PT) (a2 : Option Addr) (n2 c2 : Nat) (ys : List PT) (w : World) (h : Pts w a n xs) (h2 : Pts w a2 n2 ys) (hz : ∀ k, k < n → (xs.getD k default).val.size ≤ 1048576) (hz2 : ∀ k, k < n2 → (ys.getD k default).val.size ≤ 1048576) :
    Calls Tryd.prog 75 #[nmv a n c, nmv a2 n2 c2] w (Says (sameP xs ys) w) := by
  have hn := h.max
  have hn2 := h2.max
  obtain ⟨W0, hW0⟩ : ∃ W0, W0 = ((w.alloc (.cells #[.slice a n c] 33)).alloc (.cells #[.slice a2 n2 c2] 33)) := ⟨_, rfl⟩
  have hB0 : Below w.heap.size w W0 := by rw [hW0]; exact two_below _ _ _
  have b0 := two_blocks w (.cells #[.slice a n c] 33) (.cells #[.slice a2 n2 c2] 33)
  rw [← hW0] at b0
  have HN1 : Hid (BoxN 33 w.heap.size W0 a n c) := ⟨b0.1⟩
  have HN2 : Hid (BoxN 33 (w.heap.size + 1) W0 a2 n2 c2) := ⟨b0.2⟩
  have HK : Hid (Pts W0 a n xs) := h.kept hB0
  have HK2 : Hid (Pts W0 a2 n2 ys) := h2.kept hB0
  have HZ : Hid (_) := hz
  have HZ2 : Hid (_) := hz2
  have HL : Hid (xs.length = n) := h.len
  have HL2 : Hid (ys.length = n2) := h2.len
  have q0 := HN1.out.cell
  have q1 := HN2.out.cell
  clear b0 h h2 hz hz2
  unfold nmv
  by_cases hnn : n = n2
  · have e1 : ((n : Int) == (n2 : Int)) = true := beq_iff_eq.2 (by omega)
    have HNN : Hid (n = n2) := hnn
    clear hnn
    go_enter Tryd.func75, Tryd.ntmps75
    go_upto_region 1 with fail
    rw [← hW0]
    clear hW0
    go_wp2_with fail
    refine (implUnder_any a n c xs a2 n2 c2 ys _ HK.out HK2.out HZ.out HZ2.out).mono ?_
    rintro e w1 ⟨b1, rfl, HV1, hb1⟩
    have B1 := hB0.trans (hb1.mono hB0.size)
    cases b1 with
    | false =>
      have HN : Hid (¬ sameP xs ys) := fun h => Bool.false_ne_true (HV1.out.2 h.2)
      clear HV1
      go_wp2
      go_ret
      exact says_f HN.out B1
    | true =>
      have HN : Hid (sameP xs ys) := ⟨by rw [HL.out, HL2.out]; exact HNN.out, HV1.out.1 rfl⟩
      clear HV1
      go_wp2
      go_ret
      exact says_t HN.out B1
  · have HN : Hid (¬ sameP xs ys) := fun h => hnn (by rw [← HL.out, ← HL2.out]; exact h.1)
    have e1 : ((n : Int) == (n2 : Int)) = false := beq_false_of_ne (by omega)
    clear hnn
    go_enter Tryd.func75, Tryd.ntmps75
    go_upto_region 1 with fail
    rw [← hW0]
    clear hW0
    go_wp2
    go_ret
    exact says_f HN.out hB0

set_option maxRecDepth 10000 in
set_option maxHeartbeats 2000000 in
theorem specSameName_any (a : Option Addr) (n c : Nat) (xs : List PT) (a2 : Option Addr) (n2 c2 : Nat) (ys : List PT) (w : World) (h : Pts w a n xs) (h2 : Pts w a2 n2 ys) (hz : ∀ k, k < n → (xs.getD k default).val.size ≤ 1048576) (hz2 : ∀ k, k < n2 → (ys.getD k default).val.size ≤ 1048576) :
    Calls Tryd.prog 58 #[nmv a n c, nmv a2 n2 c2] w (Says (sameP xs ys) w) := by
  have hn := h.max
  have hn2 := h2.max
  obtain ⟨W0, hW0⟩ : ∃ W0, W0 = ((w.alloc (.cells #[.slice a n c] 33)).alloc (.cells #[.slice a2 n2 c2] 33)) := ⟨_, rfl⟩
  have hB0 : Below w.heap.size w W0 := by rw [hW0]; exact two_below _ _ _
  have b0 := two_blocks w (.cells #[.slice a n c] 33) (.cells #[.slice a2 n2 c2] 33)
  rw [← hW0] at b0
  have HN1 : Hid (BoxN 33 w.heap.size W0 a n c) := ⟨b0.1⟩
  have HN2 : Hid (BoxN 33 (w.heap.size + 1) W0 a2 n2 c2) := ⟨b0.2⟩
  have HK : Hid (Pts W0 a n xs) := h.kept hB0
  have HK2 : Hid (Pts W0 a2 n2 ys) := h2.kept hB0
  have HZ : Hid (_) := hz
  have HZ2 : Hid (_) := hz2
  have HL : Hid (xs.length = n) := h.len
  have HL2 : Hid (ys.length = n2) := h2.len
  have q0 := HN1.out.cell
  have q1 := HN2.out.cell
  clear b0 h h2 hz hz2
  unfold nmv
  by_cases hnn : n = n2
  · have e1 : ((n : Int) == (n2 : Int)) = true := beq_iff_eq.2 (by omega)
    have HNN : Hid (n = n2) := hnn
    clear hnn
    go_enter Tryd.func58, Tryd.ntmps58
    go_upto_region 1 with fail
    rw [← hW0]
    clear hW0
    go_wp2_with fail
    refine (specUnder_any a n c xs a2 n2 c2 ys _ HK.out HK2.out HZ.out HZ2.out).mono ?_
    rintro e w1 ⟨b1, rfl, HV1, hb1⟩
    have B1 := hB0.trans (hb1.mono hB0.size)
    cases b1 with
    | false =>
      have HN : Hid (¬ sameP xs ys) := fun h => Bool.false_ne_true (HV1.out.2 h.2)
      clear HV1
      go_wp2
      go_ret
      exact says_f HN.out B1
    | true =>
      have HN : Hid (sameP xs ys) := ⟨by rw [HL.out, HL2.out]; exact HNN.out, HV1.out.1 rfl⟩
      clear HV1
      go_wp2
      go_ret
      exact says_t HN.out B1
  · have HN : Hid (¬ sameP xs ys) := fun h => hnn (by rw [← HL.out, ← HL2.out]; exact h.1)
    have e1 : ((n : Int) == (n2 : Int)) = false := beq_false_of_ne (by omega)
    clear hnn
    go_enter Tryd.func58, Tryd.ntmps58
    go_upto_region 1 with fail
    rw [← hW0]
    clear hW0
    go_wp2
    go_ret
    exact says_f HN.out hB0

end Go.Proofs.YtbfjkmlmnhphoaaDoor
