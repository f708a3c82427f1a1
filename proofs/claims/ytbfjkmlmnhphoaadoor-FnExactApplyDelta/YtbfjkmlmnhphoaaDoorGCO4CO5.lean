import Derived.Test.YtbfjkmlmnhphoaaDoorGCO1CO3
import Derived.Test.YtbfjkmlmnhphoaaDoorCO2
set_option linter.unusedVariables false
namespace Go.Proofs.YtbfjkmlmnhphoaaDoor
open Go.RowKit

set_option maxRecDepth 10000 in
set_option maxHeartbeats 1000000 in
theorem someName_any (a : Option Addr) (n c : Nat) (xs : List PT) (w : World) (h : Pts w a n xs) (hz : ∀ k, k < n → (xs.getD k default).val.size ≤ 1048576) :
    Calls Tryd.prog 35 #[nmv a n c] w (Says (calledP xs) w) := by
  have HL : Hid (xs.length = n) := h.len
  have hn := h.max
  obtain ⟨w0, hw0⟩ : ∃ w0, w0 = w.alloc (.cells #[.slice a n c] 33) := ⟨_, rfl⟩
  have hb0 : Below w.heap.size w w0 := by rw [hw0]; exact (Below.refl _ _).alloc (Nat.le_refl _) _
  have hh0 : w0.heap[w.heap.size]? = some (.cells #[.slice a n c] 33) := by rw [hw0]; exact heap_alloc_new w _
  have hl0 : w.heap.size < w0.heap.size := (Array.getElem?_eq_some_iff.1 hh0).1
  have HK : Hid (Pts w0 a n xs) := h.kept hb0
  have HZ : Hid (_) := hz
  clear h hz
  unfold nmv
  go_enter Tryd.func35, Tryd.ntmps35
  go_wp2_with fail
  rw [← hw0]
  clear hw0
  refine (implNameOk_any a n c xs _ HK.out HZ.out).mono ?_
  rintro e w1 ⟨b, rfl, hb, hb1⟩
  have hc : w1.cell? ⟨w.heap.size, 0, none⟩ = some (.slice a n c) := (cell_of_row _ _ 0 _ 33 (0, 0) ((hb1.block _ hl0).trans hh0)).trans rfl
  have HB : Hid (Below w.heap.size w w1) := hb0.trans (hb1.mono hb0.size)
  clear hb0 hb1 hh0
  rcases b with _ | _
  · have HN : Hid (¬ calledP xs) := fun q => by have := hb.out.2 q.1; simp at this
    clear hb
    go_wp2
    go_ret
    exact says_f HN.out HB.out
  · have HN : Hid (nameP xs) := hb.out.1 rfl
    clear hb
    by_cases h0 : n = 0
    · subst h0
      have HE : Hid (¬ calledP xs) := fun q => q.2 (List.eq_nil_of_length_eq_zero HL.out)
      go_wp2
      go_ret
      exact says_f HE.out HB.out
    · have hp : (0 : Int) < (n : Int) := by omega
      have HE : Hid (calledP xs) := ⟨HN.out, fun e => h0 (by rw [← HL.out, e]; rfl)⟩
      go_wp2
      go_ret
      exact ⟨decide (0 < n), rfl, ⟨fun _ => HE.out, fun _ => decide_eq_true (by omega)⟩, HB.out⟩

set_option maxRecDepth 10000 in
set_option maxHeartbeats 1000000 in
theorem isTime_any (t : Int) (w : World) : Calls Tryd.prog 69 #[.int .i64 t] w fun e w' => e = .returned (.bool (decide (0 ≤ t ∧ t ≤ 253402300799))) ∧ w = w' := by
  go_enter Tryd.func69, Tryd.ntmps69
  go_wp2_with fail
  refine (inBounds_any t 0 253402300799 _).mono ?_
  rintro e w1 ⟨rfl, rfl⟩
  obtain ⟨v, hv⟩ : ∃ v, decide (0 ≤ t ∧ t ≤ 253402300799) = v := ⟨_, rfl⟩
  rw [hv]
  have HV : Hid (decide (0 ≤ t ∧ t ≤ 253402300799) = v) := hv
  clear hv
  go_wp2
  go_ret
  exact ⟨by rw [HV.out]; rfl, rfl⟩

set_option maxRecDepth 10000 in
set_option maxHeartbeats 2000000 in
theorem spanOk_any (s t : Int) (w : World) : Calls Tryd.prog 37 #[.int .i64 s, .int .i64 t] w fun e w' => e = .returned (.bool (decide ((0 ≤ s ∧ s ≤ 253402300799) ∧ (0 ≤ t ∧ t ≤ 253402300799) ∧ s ≤ t))) ∧ w = w' := by
  by_cases h1 : 0 ≤ s ∧ s ≤ 253402300799
  case neg =>
    have HN : Hid (decide ((0 ≤ s ∧ s ≤ 253402300799) ∧ (0 ≤ t ∧ t ≤ 253402300799) ∧ s ≤ t) = false) := decide_eq_false (fun q => h1 q.1)
    go_enter Tryd.func37, Tryd.ntmps37
    go_wp2_with fail
    refine (isTime_any s _).mono ?_
    rintro e w9 ⟨rfl, hw9⟩
    subst hw9
    rw [decide_eq_false h1]
    clear h1
    go_wp2
    go_ret
    exact ⟨by rw [HN.out]; rfl, rfl⟩
  by_cases h2 : 0 ≤ t ∧ t ≤ 253402300799
  case neg =>
    have HN : Hid (decide ((0 ≤ s ∧ s ≤ 253402300799) ∧ (0 ≤ t ∧ t ≤ 253402300799) ∧ s ≤ t) = false) := decide_eq_false (fun q => h2 q.2.1)
    go_enter Tryd.func37, Tryd.ntmps37
    go_wp2_with fail
    refine (isTime_any s _).mono ?_
    rintro e w9 ⟨rfl, hw9⟩
    subst hw9
    rw [decide_eq_true h1]
    clear h1
    go_wp2_with fail
    refine (isTime_any t _).mono ?_
    rintro e w9 ⟨rfl, hw9⟩
    subst hw9
    rw [decide_eq_false h2]
    clear h2
    go_wp2
    go_ret
    exact ⟨by rw [HN.out]; rfl, rfl⟩
  have HN : Hid (decide ((0 ≤ s ∧ s ≤ 253402300799) ∧ (0 ≤ t ∧ t ≤ 253402300799) ∧ s ≤ t) = decide (s ≤ t)) := decide_eq_decide.2 ⟨fun q => q.2.2, fun q => ⟨h1, h2, q⟩⟩
  go_enter Tryd.func37, Tryd.ntmps37
  go_wp2_with fail
  refine (isTime_any s _).mono ?_
  rintro e w9 ⟨rfl, hw9⟩
  subst hw9
  rw [decide_eq_true h1]
  clear h1
  go_wp2_with fail
  refine (isTime_any t _).mono ?_
  rintro e w9 ⟨rfl, hw9⟩
  subst hw9
  rw [decide_eq_true h2]
  clear h2
  go_wp2
  go_ret
  exact ⟨by rw [HN.out]; rfl, rfl⟩

set_option maxRecDepth 10000 in
set_option maxHeartbeats 2000000 in
theorem isFull_any (a1 : Option Addr) (n1 c1 : Nat) (a2 : Option Addr) (n2 c2 : Nat) (a3 : Option Addr) (n3 c3 : Nat) (x : CP) (w : World) : Calls Tryd.prog 46 #[crv a1 n1 c1 a2 n2 c2 a3 n3 c3 x] w fun e w' => e = .returned (.bool (x.base == -1)) ∧ Below w.heap.size w w' := by
  unfold crv
  go_enter Tryd.func46, Tryd.ntmps46
  go_wp2
  go_ret
  exact ⟨rfl, (Below.refl _ _).alloc (Nat.le_refl _) _⟩

set_option maxRecDepth 10000 in
set_option maxHeartbeats 2000000 in
theorem namesIssuer_any (a1 : Option Addr) (n1 c1 : Nat) (a2 : Option Addr) (n2 c2 : Nat) (a3 : Option Addr) (n3 c3 : Nat) (x : CP) (an : Option Addr) (nn cn : Nat) (y : GP) (w : World) (h : Pts w an nn y.parts) (hz : ∀ k, k < nn → (y.parts.getD k default).val.size ≤ 1048576) :
    Calls Tryd.prog 91 #[crv a1 n1 c1 a2 n2 c2 a3 n3 c3 x, gov an nn cn y] w (Says ((x.ind = true → calledP y.parts) ∧ (x.ind = false → y.parts = [])) w) := by
  unfold crv gov
  obtain ⟨W0, hW0⟩ : ∃ W0, W0 = (w.alloc (.cells #[.slice a1 n1 c1, .int .i64 x.num, .int .i64 x.base, .int .i64 x.tm, .int .i64 x.next, .int .i64 x.scope, .bool x.ind, .slice a2 n2 c2, .slice a3 n3 c3] 36)).alloc (.cells #[.slice an nn cn, .int .i64 y.ser, .int .i64 y.tm, .int .i64 y.rs] 63) := ⟨_, rfl⟩
  have hB0 : Below w.heap.size w W0 := by rw [hW0]; exact two_below _ _ _
  have b0 := two_blocks w (.cells #[.slice a1 n1 c1, .int .i64 x.num, .int .i64 x.base, .int .i64 x.tm, .int .i64 x.next, .int .i64 x.scope, .bool x.ind, .slice a2 n2 c2, .slice a3 n3 c3] 36) (.cells #[.slice an nn cn, .int .i64 y.ser, .int .i64 y.tm, .int .i64 y.rs] 63)
  rw [← hW0] at b0
  have HP : Hid (Pts W0 an nn y.parts) := h.kept hB0
  have HZ : Hid (∀ k, k < nn → (y.parts.getD k default).val.size ≤ 1048576) := hz
  have HL : Hid (y.parts.length = nn) := h.len
  have p6 : W0.cell? ⟨w.heap.size, 6, none⟩ = some (.bool x.ind) := (cell_of_row _ _ 6 _ 36 (0, 0) b0.1).trans rfl
  have e0 : W0.cell? ⟨w.heap.size + 1, 0, none⟩ = some (.slice an nn cn) := (cell_of_row _ _ 0 _ 63 (0, 0) b0.2).trans rfl
  have HW : Hid (_ = _) := hW0
  clear hW0 b0 h hz
  go_enter Tryd.func91, Tryd.ntmps91
  go_upto_region 1 with fail
  rw [← HW.out]
  clear HW
  by_cases hi : x.ind = true
  · rw [hi] at p6
    have HI : Hid (x.ind = true) := hi
    clear hi
    go_wp2_with fail
    refine (someName_any an nn cn y.parts _ HP.out HZ.out).mono ?_
    rintro e w1 ⟨v1, rfl, hv1, hb1⟩
    have HV : Hid _ := hv1
    clear hv1 p6 e0
    go_wp2
    go_ret
    exact ⟨v1, rfl, ⟨fun q => ⟨fun _ => HV.out.1 q, fun e => by rw [HI.out] at e; cases e⟩, fun q => HV.out.2 (q.1 HI.out)⟩, hB0.trans (hb1.mono hB0.size)⟩
  · replace hi : x.ind = false := by simpa using hi
    rw [hi] at p6
    have HI : Hid (x.ind = false) := hi
    clear hi
    by_cases h0 : nn = 0
    · subst h0
      have HT : Hid ((x.ind = true → calledP y.parts) ∧ (x.ind = false → y.parts = [])) := ⟨fun e => (by rw [HI.out] at e; cases e), fun _ => List.eq_nil_of_length_eq_zero HL.out⟩
      go_wp2
      go_ret
      exact says_t HT.out hB0
    · have hne : ((nn : Int) == 0) = false := by simp; omega
      have HT : Hid (¬ ((x.ind = true → calledP y.parts) ∧ (x.ind = false → y.parts = []))) := fun q => h0 (by rw [← HL.out, q.2 HI.out]; rfl)
      clear h0
      go_wp2
      go_ret
      exact says_f HT.out hB0

end Go.Proofs.YtbfjkmlmnhphoaaDoor

set_option linter.unusedVariables false
namespace Go.Proofs.YtbfjkmlmnhphoaaDoor
open Go.RowKit

theorem not_mask (a b : BitVec 64) (h : a &&& ~~~b = 0#64) : a &&& b = a := by
  apply BitVec.eq_of_getLsbD_eq
  intro i hi
  have h2 := congrArg (fun v => v.getLsbD i) h
  simp only [BitVec.getLsbD_and, BitVec.getLsbD_not, hi, decide_true, Bool.true_and, BitVec.getLsbD_zero] at h2
  simp only [BitVec.getLsbD_and]
  cases ha : a.getLsbD i <;> cases hb : b.getLsbD i <;> simp [ha, hb] at h2 ⊢
theorem mask_table : ((List.range 127).all fun v => (bits BinOp.andNot IntKind.i64 (v : Int) 126 == 0) == decide ((v : Int) % 2 = 0)) = true := by decide +kernel
theorem scope_bits (s : Int) (h0 : -9223372036854775808 ≤ s) (h1 : s ≤ 9223372036854775807) : (s != 0 && bits BinOp.andNot IntKind.i64 s 126 == 0) = decide (2 ≤ s ∧ s ≤ 126 ∧ s % 2 = 0) := by
  by_cases hs : 0 ≤ s ∧ s ≤ 126
  · obtain ⟨k, rfl⟩ : ∃ k : Nat, s = k := ⟨s.toNat, by omega⟩
    have ht := List.all_eq_true.1 mask_table k (List.mem_range.2 (by omega))
    rw [beq_iff_eq.1 ht]
    by_cases hk : k = 0
    · subst hk; rfl
    · by_cases he : (k : Int) % 2 = 0
      · rw [decide_eq_true he, decide_eq_true (by omega)]
        simp; omega
      · rw [decide_eq_false he, decide_eq_false (fun q => he q.2.2)]
        simp
  · rw [decide_eq_false (fun q => hs ⟨by omega, q.2.1⟩)]
    have hne : ¬ bits BinOp.andNot IntKind.i64 s 126 = 0 := fun e => by
      unfold bits at e
      simp only [IntKind.bits] at e
      have hr : ∀ r : BitVec 64, IntKind.i64.wrap (r.toNat : Int) = 0 → r = 0#64 := fun r hr => by
        rw [IntKind.wrap_i64] at hr
        have := r.isLt
        apply BitVec.eq_of_toNat_eq
        simp
        omega
      have h2 := not_mask _ _ (hr _ e)
      have h3 := congrArg BitVec.toNat h2
      rw [BitVec.toNat_and] at h3
      have h4 : (BitVec.ofInt 64 126).toNat = 126 := by decide
      rw [h4] at h3
      have h5 := Nat.and_le_right (n := (BitVec.ofInt 64 s).toNat) (m := 126)
      rw [h3] at h5
      rw [BitVec.toNat_ofInt] at h5
      omega
    simp [hne]

set_option maxRecDepth 10000 in
set_option maxHeartbeats 2000000 in
theorem scopeOk_any (s : Int) (w : World) (h0 : -9223372036854775808 ≤ s) (h1 : s ≤ 9223372036854775807) : Calls Tryd.prog 38 #[.int .i64 s] w fun e w' => e = .returned (.bool (decide (2 ≤ s ∧ s ≤ 126 ∧ s % 2 = 0))) ∧ w = w' := by
  have HS : Hid ((s != 0 && bits BinOp.andNot IntKind.i64 s 126 == 0) = decide (2 ≤ s ∧ s ≤ 126 ∧ s % 2 = 0)) := scope_bits s h0 h1
  by_cases hz : s = 0
  · subst hz
    go_enter Tryd.func38, Tryd.ntmps38
    go_wp2
    go_ret
    exact ⟨rfl, rfl⟩
  · have hn : (s != 0) = true := by simp [hz]
    go_enter Tryd.func38, Tryd.ntmps38
    go_wp2
    go_ret
    exact ⟨by rw [← HS.out, hn]; rfl, rfl⟩

end Go.Proofs.YtbfjkmlmnhphoaaDoor
