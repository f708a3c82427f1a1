import Derived.Test.YtbfjkmlmnhphoaaDoorCO2
import Derived.Test.YtbfjkmlmnhphoaaDoorCO4
set_option linter.unusedVariables false
namespace Go.Proofs.YtbfjkmlmnhphoaaDoor
open Go.RowKit

theorem not_mask (a b : BitVec 64) (h : a &&& ~~~b = 0#64) : a &&& b = a := by
  apply BitVec.eq_of_getLsbD_eq
  intro i hi
  have h2 := congrArg (fun v => v.getLsbD i) h
  simp only [BitVec.getLsbD_and, BitVec.getLsbD_not, hi, decide_true, Bool.true_and, BitVec.getLsbD_zero] at h2
  simp only [BitVec.getLsbD_and]
  cases ha : a.getLsbD i <;> cases hb : b.getLsbD i <;> simp [ha, hb] at h2 ⊢
theorem mask_table : ((List.range 127).all fun v => (bits BinOp.andNot IntKind.i64 (v : Int) 126 == 0) == decide ((v : Int) % 2 = 0)) = true := by decide +kernel
theorem scope_bits (s : Int) (h0 : -9223372036854775808 ≤ s) (h1 : s ≤ 9223372036854775807) : (s != 0 && bits BinOp.andNot IntKind.i64 s 126 == 0) = decide (2 ≤ s ∧ s ≤ 126 ∧ s % 2 = 0) := by
  by_cases hs : 0 ≤ s ∧ s ≤ 126
  · obtain ⟨k, rfl⟩ : ∃ k : Nat, s = k := ⟨s.toNat, by omega⟩
    have ht := List.all_eq_true.1 mask_table k (List.mem_range.2 (by omega))
    rw [beq_iff_eq.1 ht]
    by_cases hk : k = 0
    · subst hk; rfl
    · by_cases he : (k : Int) % 2 = 0
      · rw [decide_eq_true he, decide_eq_true (by omega)]
        simp; omega
      · rw [decide_eq_false he, decide_eq_false (fun q => he q.2.2)]
        simp
  · rw [decide_eq_false (fun q => hs ⟨by omega, q.2.1⟩)]
    have hne : ¬ bits BinOp.andNot IntKind.i64 s 126 = 0 := fun e => by
      unfold bits at e
      simp only [IntKind.bits] at e
      have hr : ∀ r : BitVec 64, IntKind.i64.wrap (r.toNat : Int) = 0 → r = 0#64 := fun r hr => by
        rw [IntKind.wrap_i64] at hr
        have := r.isLt
        apply BitVec.eq_of_toNat_eq
        simp
        omega
      have h2 := not_mask _ _ (hr _ e)
      have h3 := congrArg BitVec.toNat h2
      rw [BitVec.toNat_and] at h3
      have h4 : (BitVec.ofInt 64 126).toNat = 126 := by decide
      rw [h4] at h3
      have h5 := Nat.and_le_right (n := (BitVec.ofInt 64 s).toNat) (m := 126)
      rw [h3] at h5
      rw [BitVec.toNat_ofInt] at h5
      omega
    simp [hne]

set_option maxRecDepth 10000 in
set_option maxHeartbeats 2000000 in
theorem scopeOk_any (s : Int) (w : World) (h0 : -9223372036854775808 ≤ s) (h1 : s ≤ 9223372036854775807) : Calls Tryd.prog 38 #[.int .i64 s] w fun e w' => e = .returned (.bool (decide (2 ≤ s ∧ s ≤ 126 ∧ s % 2 = 0))) ∧ w = w' := by
  have HS : Hid ((s != 0 && bits BinOp.andNot IntKind.i64 s 126 == 0) = decide (2 ≤ s ∧ s ≤ 126 ∧ s % 2 = 0)) := scope_bits s h0 h1
  by_cases hz : s = 0
  · subst hz
    go_enter Tryd.func38, Tryd.ntmps38
    go_wp2
    go_ret
    exact ⟨rfl, rfl⟩
  · have hn : (s != 0) = true := by simp [hz]
    go_enter Tryd.func38, Tryd.ntmps38
    go_wp2
    go_ret
    exact ⟨by rw [← HS.out, hn]; rfl, rfl⟩

end Go.Proofs.YtbfjkmlmnhphoaaDoor
