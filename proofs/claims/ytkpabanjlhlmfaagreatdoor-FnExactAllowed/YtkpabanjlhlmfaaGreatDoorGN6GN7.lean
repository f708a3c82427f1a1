import Derived.Test.YtkpabanjlhlmfaaGreatDoorGN4
import Derived.Test.YtkpabanjlhlmfaaGreatDoorL1In
import Derived.Laws.EntriesVeiled
import Derived.Laws.Tables
import Derived.Great.BuildSlice
import Derived.Great.Walk
import Derived.Deep.Cut
namespace Go.Proofs.YtkpabanjlhlmfaaGreatDoor
open Go.RowKit

theorem results_gr {fn : Func} {t u : Tmp} (h : fn.results = #[.cell t 142, .tmp u]) (tmps : Array Value) (g : Nat) (b : Bool) (ht : tmps.getD t undef = .pointer (some ⟨g, 0, none⟩)) (hu : tmps.getD u undef = .bool b) (w : World) (c0 c1 c2 c3 : Value)
    (hb : w.heap[g]? = some (.cells #[c0, c1, c2, c3] 142 (0, 0))) : (results fn tmps).run Tryz.prog w = .ok (.tuple #[.agg #[c0, c1, c2, c3], .bool b]) w := by
  have d0 : w.cell? ⟨g, 0, none⟩ = some c0 := (cell_of_row _ g 0 _ 142 (0, 0) hb).trans rfl
  have d1 : w.cell? ⟨g, 1, none⟩ = some c1 := (cell_of_row _ g 1 _ 142 (0, 0) hb).trans rfl
  have d2 : w.cell? ⟨g, 2, none⟩ = some c2 := (cell_of_row _ g 2 _ 142 (0, 0) hb).trans rfl
  have d3 : w.cell? ⟨g, 3, none⟩ = some c3 := (cell_of_row _ g 3 _ 142 (0, 0) hb).trans rfl
  clear hb
  have ht' : tmps[t]?.getD undef = .pointer (some ⟨g, 0, none⟩) := by rw [← ht]; simp
  have hu' : tmps[u]?.getD undef = .bool b := by rw [← hu]; simp
  simp [results, h, go_sem, ht', hu', d0, d1, d2, d3]

theorem below_setRow {B : Nat} {w w' : World} (h : Below B w w') {g : Nat} (hg : B ≤ g) (cs : Array Value) : Below B w (w'.setRow g cs) :=
  h.trans ⟨rfl, rfl, rfl, by simp, fun k hk => setRow_other _ _ _ _ (by omega)⟩

def tabC : Array Value := #[.nilFunc, .nilFunc, .nilFunc, .nilFunc, .func (Fn.func 122) #[] #[], .func (Fn.func 123) #[] #[], .func (Fn.func 124) #[] #[], .func (Fn.func 125) #[] #[], .func (Fn.func 122) #[] #[], .func (Fn.func 126) #[] #[], .func (Fn.func 127) #[] #[], .func (Fn.func 128) #[] #[], .func (Fn.func 129) #[] #[], .func (Fn.func 130) #[] #[], .func (Fn.func 131) #[] #[], .func (Fn.func 132) #[] #[], .func (Fn.func 133) #[] #[], .func (Fn.func 134) #[] #[], .func (Fn.func 135) #[] #[], .func (Fn.func 136) #[] #[]]
def zero20 : Array Value := #[.nilFunc, .nilFunc, .nilFunc, .nilFunc, .nilFunc, .nilFunc, .nilFunc, .nilFunc, .nilFunc, .nilFunc, .nilFunc, .nilFunc, .nilFunc, .nilFunc, .nilFunc, .nilFunc, .nilFunc, .nilFunc, .nilFunc, .nilFunc]
/-- The table that is laid: what of it is read. -/
structure TabF (w W : World) : Prop where
  cell : ∀ j, W.cell? ⟨w.heap.size + 1, j, none⟩ = tabC[j]?
  res : W.heap[w.heap.size]? = some (.cells #[.nilFunc, .nilFunc, .nilFunc, .nilFunc] 142 (0, 0))
  size : W.heap.size = w.heap.size + 2
  below : Below w.heap.size w W
theorem tab_heap (w : World) : ((w.alloc (.cells #[.nilFunc, .nilFunc, .nilFunc, .nilFunc] 142)).alloc (.cells zero20 160)).heap[w.heap.size + 1]? = some (.cells zero20 160 (0, 0)) := by
  have := heap_alloc_new (w.alloc (.cells #[.nilFunc, .nilFunc, .nilFunc, .nilFunc] 142)) (.cells zero20 160 (0, 0))
  simpa using this
theorem tabF_is (w : World) : TabF w (((w.alloc (.cells #[.nilFunc, .nilFunc, .nilFunc, .nilFunc] 142)).alloc (.cells zero20 160)).setRow (w.heap.size + 1) tabC) := by
  have h0 : ((w.alloc (.cells #[.nilFunc, .nilFunc, .nilFunc, .nilFunc] 142)).alloc (.cells zero20 160)).heap[w.heap.size]? = some (.cells #[.nilFunc, .nilFunc, .nilFunc, .nilFunc] 142 (0, 0)) := by
    have hb := ((Below.refl (w.alloc (.cells #[.nilFunc, .nilFunc, .nilFunc, .nilFunc] 142)).heap.size (w.alloc (.cells #[.nilFunc, .nilFunc, .nilFunc, .nilFunc] 142))).alloc (Nat.le_refl _) (.cells zero20 160 (0, 0))).block w.heap.size (by simp)
    exact hb.trans (heap_alloc_new w _)
  have hb : Below w.heap.size w ((w.alloc (.cells #[.nilFunc, .nilFunc, .nilFunc, .nilFunc] 142)).alloc (.cells zero20 160)) := ((Below.refl _ _).alloc (Nat.le_refl _) _).alloc (by simp) _
  exact ⟨fun j => cell_setRow_same _ _ j zero20 tabC 160 (0, 0) (tab_heap w), (setRow_other _ _ _ _ (by omega)).trans h0, by simp, below_setRow hb (by omega) tabC⟩
theorem info20 : (Tryz.prog.info? 160).map (·.size) = some tabC.size := by kernel_rfl
theorem one20 : (tabC.all fun x => x.oneCell') = true := by kernel_rfl
theorem alloc20 (w : World) (a : Act) (o : Oper) (ho : o.op = .alloc 160) : (execOp a.eval o).run Tryz.prog w = .ok (.value (.pointer (some ⟨w.heap.size, 0, none⟩))) (w.alloc (.cells zero20 160)) := by
  simp [execOp, ho, go_sem, zero20]
theorem alloc20b (w : World) (a : Act) (o : Oper) (ho : o.op = .alloc 160) : (execOp a.eval o).run Tryz.prog (w.alloc (.cells #[.nilFunc, .nilFunc, .nilFunc, .nilFunc] 142)) = .ok (.value (.pointer (some ⟨w.heap.size + 1, 0, none⟩))) ((w.alloc (.cells #[.nilFunc, .nilFunc, .nilFunc, .nilFunc] 142)).alloc (.cells zero20 160)) := by
  have h := alloc20 (w.alloc (.cells #[.nilFunc, .nilFunc, .nilFunc, .nilFunc] 142)) a o ho
  rw [show (w.alloc (.cells #[.nilFunc, .nilFunc, .nilFunc, .nilFunc] 142)).heap.size = w.heap.size + 1 by simp] at h
  exact h

set_option maxRecDepth 10000 in
set_option maxHeartbeats 1000000 in
theorem genRulesOf_1 (w : World) : Calls Tryz.prog 100 #[.int .i64 1] w fun e w' => e = .returned (.tuple #[.agg #[.func (Fn.func 122) #[] #[], .func (Fn.func 123) #[] #[], .func (Fn.func 124) #[] #[], .func (Fn.func 125) #[] #[]], .bool true]) ∧ Below w.heap.size w w' := by
  go_enter Tryz.func100, Tryz.ntmps100
  go_upto_region 1 with fail
  rename_i K0 hK0
  apply wp_region_lit
  refine wpList_buildTo rfl 142 _ rfl (some 5) rfl #[.func (Fn.func 122) #[] #[], .func (Fn.func 123) #[] #[], .func (Fn.func 124) #[] #[], .func (Fn.func 125) #[] #[]] (by as_aux_lemma => kernel_rfl) ?_
  refine wpList_buildTo rfl 142 _ rfl (some 6) rfl #[.func (Fn.func 122) #[] #[], .func (Fn.func 126) #[] #[], .func (Fn.func 127) #[] #[], .func (Fn.func 128) #[] #[]] (by as_aux_lemma => kernel_rfl) ?_
  refine wpList_buildTo rfl 142 _ rfl (some 7) rfl #[.func (Fn.func 129) #[] #[], .func (Fn.func 130) #[] #[], .func (Fn.func 131) #[] #[], .func (Fn.func 132) #[] #[]] (by as_aux_lemma => kernel_rfl) ?_
  refine wpList_buildTo rfl 142 _ rfl (some 8) rfl #[.func (Fn.func 133) #[] #[], .func (Fn.func 134) #[] #[], .func (Fn.func 135) #[] #[], .func (Fn.func 136) #[] #[]] (by as_aux_lemma => kernel_rfl) ?_
  refine wpList_buildTo rfl 160 _ rfl (some 9) rfl tabC (by as_aux_lemma => kernel_rfl) ?_
  refine Great.wpList_allocTo rfl (some 4) rfl _ _ (alloc20b w _ _ rfl) ?_
  refine wpList_store_rowTo rfl 160 _ _ rfl rfl (w.heap.size + 1) tabC rfl rfl 160 zero20 (tab_heap w) info20 rfl one20 ?_
  apply wpList_nil
  refine hK0 _ _ ?_
  have HF : Hid (TabF w _) := tabF_is w
  obtain ⟨W, hW⟩ : ∃ W, W = ((w.alloc (.cells #[.nilFunc, .nilFunc, .nilFunc, .nilFunc] 142)).alloc (.cells zero20 160)).setRow (w.heap.size + 1) tabC := ⟨_, rfl⟩
  rw [← hW] at HF ⊢
  clear hW hK0 K0
  obtain ⟨TT, hTT⟩ : ∃ TT, TT = tabC := ⟨_, rfl⟩
  rw [← hTT]
  clear hTT
  have sz := HF.out.size
  have c0 : W.cell? ⟨w.heap.size + 1, 4, none⟩ = some (.func (Fn.func 122) #[] #[]) := HF.out.cell 4
  have c1 : W.cell? ⟨w.heap.size + 1, 5, none⟩ = some (.func (Fn.func 123) #[] #[]) := HF.out.cell 5
  have c2 : W.cell? ⟨w.heap.size + 1, 6, none⟩ = some (.func (Fn.func 124) #[] #[]) := HF.out.cell 6
  have c3 : W.cell? ⟨w.heap.size + 1, 7, none⟩ = some (.func (Fn.func 125) #[] #[]) := HF.out.cell 7
  have fz0 : W.frozen? ⟨w.heap.size, 0, none⟩ = false := frozen_of_row W w.heap.size 0 _ 142 HF.out.res
  have fz1 : W.frozen? ⟨w.heap.size, 1, none⟩ = false := frozen_of_row W w.heap.size 1 _ 142 HF.out.res
  have fz2 : W.frozen? ⟨w.heap.size, 2, none⟩ = false := frozen_of_row W w.heap.size 2 _ 142 HF.out.res
  have fz3 : W.frozen? ⟨w.heap.size, 3, none⟩ = false := frozen_of_row W w.heap.size 3 _ 142 HF.out.res
  have r0 : W.cell? ⟨w.heap.size, 0, none⟩ = some .nilFunc := (cell_of_row _ w.heap.size 0 _ 142 (0, 0) HF.out.res).trans rfl
  have r1 : W.cell? ⟨w.heap.size, 1, none⟩ = some .nilFunc := (cell_of_row _ w.heap.size 1 _ 142 (0, 0) HF.out.res).trans rfl
  have r2 : W.cell? ⟨w.heap.size, 2, none⟩ = some .nilFunc := (cell_of_row _ w.heap.size 2 _ 142 (0, 0) HF.out.res).trans rfl
  have r3 : W.cell? ⟨w.heap.size, 3, none⟩ = some .nilFunc := (cell_of_row _ w.heap.size 3 _ 142 (0, 0) HF.out.res).trans rfl
  go_wp2_with fail
  refine (inBounds_says 1 1 4 _).mono ?_
  rintro e w1 ⟨b, rfl, HV, hw⟩
  obtain rfl : b = true := HV.out.2 ⟨by decide, by decide⟩
  subst hw
  clear HV
  go_wp2
  have q0 := HF.out.res
  have q1 := heap_setCell_same _ w.heap.size 0 _ 142 (.func (Fn.func 122) #[] #[]) q0
  have q2 := heap_setCell_same _ w.heap.size 1 _ 142 (.func (Fn.func 123) #[] #[]) q1
  have q3 := heap_setCell_same _ w.heap.size 2 _ 142 (.func (Fn.func 124) #[] #[]) q2
  have q4 := heap_setCell_same _ w.heap.size 3 _ 142 (.func (Fn.func 125) #[] #[]) q3
  try simp only [Exit.inBlock, Exit.then]
  refine bodyPost_ret (results_gr rfl _ w.heap.size true rfl rfl _ _ _ _ _ q4) rfl ⟨rfl, ?_⟩
  exact (((HF.out.below.setCell (by simp) _).setCell (by simp) _).setCell (by simp) _).setCell (by simp) _

set_option maxRecDepth 10000 in
set_option maxHeartbeats 1000000 in
theorem genRulesOf_2 (w : World) : Calls Tryz.prog 100 #[.int .i64 2] w fun e w' => e = .returned (.tuple #[.agg #[.func (Fn.func 122) #[] #[], .func (Fn.func 126) #[] #[], .func (Fn.func 127) #[] #[], .func (Fn.func 128) #[] #[]], .bool true]) ∧ Below w.heap.size w w' := by
  go_enter Tryz.func100, Tryz.ntmps100
  go_upto_region 1 with fail
  rename_i K0 hK0
  apply wp_region_lit
  refine wpList_buildTo rfl 142 _ rfl (some 5) rfl #[.func (Fn.func 122) #[] #[], .func (Fn.func 123) #[] #[], .func (Fn.func 124) #[] #[], .func (Fn.func 125) #[] #[]] (by as_aux_lemma => kernel_rfl) ?_
  refine wpList_buildTo rfl 142 _ rfl (some 6) rfl #[.func (Fn.func 122) #[] #[], .func (Fn.func 126) #[] #[], .func (Fn.func 127) #[] #[], .func (Fn.func 128) #[] #[]] (by as_aux_lemma => kernel_rfl) ?_
  refine wpList_buildTo rfl 142 _ rfl (some 7) rfl #[.func (Fn.func 129) #[] #[], .func (Fn.func 130) #[] #[], .func (Fn.func 131) #[] #[], .func (Fn.func 132) #[] #[]] (by as_aux_lemma => kernel_rfl) ?_
  refine wpList_buildTo rfl 142 _ rfl (some 8) rfl #[.func (Fn.func 133) #[] #[], .func (Fn.func 134) #[] #[], .func (Fn.func 135) #[] #[], .func (Fn.func 136) #[] #[]] (by as_aux_lemma => kernel_rfl) ?_
  refine wpList_buildTo rfl 160 _ rfl (some 9) rfl tabC (by as_aux_lemma => kernel_rfl) ?_
  refine Great.wpList_allocTo rfl (some 4) rfl _ _ (alloc20b w _ _ rfl) ?_
  refine wpList_store_rowTo rfl 160 _ _ rfl rfl (w.heap.size + 1) tabC rfl rfl 160 zero20 (tab_heap w) info20 rfl one20 ?_
  apply wpList_nil
  refine hK0 _ _ ?_
  have HF : Hid (TabF w _) := tabF_is w
  obtain ⟨W, hW⟩ : ∃ W, W = ((w.alloc (.cells #[.nilFunc, .nilFunc, .nilFunc, .nilFunc] 142)).alloc (.cells zero20 160)).setRow (w.heap.size + 1) tabC := ⟨_, rfl⟩
  rw [← hW] at HF ⊢
  clear hW hK0 K0
  obtain ⟨TT, hTT⟩ : ∃ TT, TT = tabC := ⟨_, rfl⟩
  rw [← hTT]
  clear hTT
  have sz := HF.out.size
  have c0 : W.cell? ⟨w.heap.size + 1, 8, none⟩ = some (.func (Fn.func 122) #[] #[]) := HF.out.cell 8
  have c1 : W.cell? ⟨w.heap.size + 1, 9, none⟩ = some (.func (Fn.func 126) #[] #[]) := HF.out.cell 9
  have c2 : W.cell? ⟨w.heap.size + 1, 10, none⟩ = some (.func (Fn.func 127) #[] #[]) := HF.out.cell 10
  have c3 : W.cell? ⟨w.heap.size + 1, 11, none⟩ = some (.func (Fn.func 128) #[] #[]) := HF.out.cell 11
  have fz0 : W.frozen? ⟨w.heap.size, 0, none⟩ = false := frozen_of_row W w.heap.size 0 _ 142 HF.out.res
  have fz1 : W.frozen? ⟨w.heap.size, 1, none⟩ = false := frozen_of_row W w.heap.size 1 _ 142 HF.out.res
  have fz2 : W.frozen? ⟨w.heap.size, 2, none⟩ = false := frozen_of_row W w.heap.size 2 _ 142 HF.out.res
  have fz3 : W.frozen? ⟨w.heap.size, 3, none⟩ = false := frozen_of_row W w.heap.size 3 _ 142 HF.out.res
  have r0 : W.cell? ⟨w.heap.size, 0, none⟩ = some .nilFunc := (cell_of_row _ w.heap.size 0 _ 142 (0, 0) HF.out.res).trans rfl
  have r1 : W.cell? ⟨w.heap.size, 1, none⟩ = some .nilFunc := (cell_of_row _ w.heap.size 1 _ 142 (0, 0) HF.out.res).trans rfl
  have r2 : W.cell? ⟨w.heap.size, 2, none⟩ = some .nilFunc := (cell_of_row _ w.heap.size 2 _ 142 (0, 0) HF.out.res).trans rfl
  have r3 : W.cell? ⟨w.heap.size, 3, none⟩ = some .nilFunc := (cell_of_row _ w.heap.size 3 _ 142 (0, 0) HF.out.res).trans rfl
  go_wp2_with fail
  refine (inBounds_says 2 1 4 _).mono ?_
  rintro e w1 ⟨b, rfl, HV, hw⟩
  obtain rfl : b = true := HV.out.2 ⟨by decide, by decide⟩
  subst hw
  clear HV
  go_wp2
  have q0 := HF.out.res
  have q1 := heap_setCell_same _ w.heap.size 0 _ 142 (.func (Fn.func 122) #[] #[]) q0
  have q2 := heap_setCell_same _ w.heap.size 1 _ 142 (.func (Fn.func 126) #[] #[]) q1
  have q3 := heap_setCell_same _ w.heap.size 2 _ 142 (.func (Fn.func 127) #[] #[]) q2
  have q4 := heap_setCell_same _ w.heap.size 3 _ 142 (.func (Fn.func 128) #[] #[]) q3
  try simp only [Exit.inBlock, Exit.then]
  refine bodyPost_ret (results_gr rfl _ w.heap.size true rfl rfl _ _ _ _ _ q4) rfl ⟨rfl, ?_⟩
  exact (((HF.out.below.setCell (by simp) _).setCell (by simp) _).setCell (by simp) _).setCell (by simp) _

set_option maxRecDepth 10000 in
set_option maxHeartbeats 1000000 in
theorem genRulesOf_3 (w : World) : Calls Tryz.prog 100 #[.int .i64 3] w fun e w' => e = .returned (.tuple #[.agg #[.func (Fn.func 129) #[] #[], .func (Fn.func 130) #[] #[], .func (Fn.func 131) #[] #[], .func (Fn.func 132) #[] #[]], .bool true]) ∧ Below w.heap.size w w' := by
  go_enter Tryz.func100, Tryz.ntmps100
  go_upto_region 1 with fail
  rename_i K0 hK0
  apply wp_region_lit
  refine wpList_buildTo rfl 142 _ rfl (some 5) rfl #[.func (Fn.func 122) #[] #[], .func (Fn.func 123) #[] #[], .func (Fn.func 124) #[] #[], .func (Fn.func 125) #[] #[]] (by as_aux_lemma => kernel_rfl) ?_
  refine wpList_buildTo rfl 142 _ rfl (some 6) rfl #[.func (Fn.func 122) #[] #[], .func (Fn.func 126) #[] #[], .func (Fn.func 127) #[] #[], .func (Fn.func 128) #[] #[]] (by as_aux_lemma => kernel_rfl) ?_
  refine wpList_buildTo rfl 142 _ rfl (some 7) rfl #[.func (Fn.func 129) #[] #[], .func (Fn.func 130) #[] #[], .func (Fn.func 131) #[] #[], .func (Fn.func 132) #[] #[]] (by as_aux_lemma => kernel_rfl) ?_
  refine wpList_buildTo rfl 142 _ rfl (some 8) rfl #[.func (Fn.func 133) #[] #[], .func (Fn.func 134) #[] #[], .func (Fn.func 135) #[] #[], .func (Fn.func 136) #[] #[]] (by as_aux_lemma => kernel_rfl) ?_
  refine wpList_buildTo rfl 160 _ rfl (some 9) rfl tabC (by as_aux_lemma => kernel_rfl) ?_
  refine Great.wpList_allocTo rfl (some 4) rfl _ _ (alloc20b w _ _ rfl) ?_
  refine wpList_store_rowTo rfl 160 _ _ rfl rfl (w.heap.size + 1) tabC rfl rfl 160 zero20 (tab_heap w) info20 rfl one20 ?_
  apply wpList_nil
  refine hK0 _ _ ?_
  have HF : Hid (TabF w _) := tabF_is w
  obtain ⟨W, hW⟩ : ∃ W, W = ((w.alloc (.cells #[.nilFunc, .nilFunc, .nilFunc, .nilFunc] 142)).alloc (.cells zero20 160)).setRow (w.heap.size + 1) tabC := ⟨_, rfl⟩
  rw [← hW] at HF ⊢
  clear hW hK0 K0
  obtain ⟨TT, hTT⟩ : ∃ TT, TT = tabC := ⟨_, rfl⟩
  rw [← hTT]
  clear hTT
  have sz := HF.out.size
  have c0 : W.cell? ⟨w.heap.size + 1, 12, none⟩ = some (.func (Fn.func 129) #[] #[]) := HF.out.cell 12
  have c1 : W.cell? ⟨w.heap.size + 1, 13, none⟩ = some (.func (Fn.func 130) #[] #[]) := HF.out.cell 13
  have c2 : W.cell? ⟨w.heap.size + 1, 14, none⟩ = some (.func (Fn.func 131) #[] #[]) := HF.out.cell 14
  have c3 : W.cell? ⟨w.heap.size + 1, 15, none⟩ = some (.func (Fn.func 132) #[] #[]) := HF.out.cell 15
  have fz0 : W.frozen? ⟨w.heap.size, 0, none⟩ = false := frozen_of_row W w.heap.size 0 _ 142 HF.out.res
  have fz1 : W.frozen? ⟨w.heap.size, 1, none⟩ = false := frozen_of_row W w.heap.size 1 _ 142 HF.out.res
  have fz2 : W.frozen? ⟨w.heap.size, 2, none⟩ = false := frozen_of_row W w.heap.size 2 _ 142 HF.out.res
  have fz3 : W.frozen? ⟨w.heap.size, 3, none⟩ = false := frozen_of_row W w.heap.size 3 _ 142 HF.out.res
  have r0 : W.cell? ⟨w.heap.size, 0, none⟩ = some .nilFunc := (cell_of_row _ w.heap.size 0 _ 142 (0, 0) HF.out.res).trans rfl
  have r1 : W.cell? ⟨w.heap.size, 1, none⟩ = some .nilFunc := (cell_of_row _ w.heap.size 1 _ 142 (0, 0) HF.out.res).trans rfl
  have r2 : W.cell? ⟨w.heap.size, 2, none⟩ = some .nilFunc := (cell_of_row _ w.heap.size 2 _ 142 (0, 0) HF.out.res).trans rfl
  have r3 : W.cell? ⟨w.heap.size, 3, none⟩ = some .nilFunc := (cell_of_row _ w.heap.size 3 _ 142 (0, 0) HF.out.res).trans rfl
  go_wp2_with fail
  refine (inBounds_says 3 1 4 _).mono ?_
  rintro e w1 ⟨b, rfl, HV, hw⟩
  obtain rfl : b = true := HV.out.2 ⟨by decide, by decide⟩
  subst hw
  clear HV
  go_wp2
  have q0 := HF.out.res
  have q1 := heap_setCell_same _ w.heap.size 0 _ 142 (.func (Fn.func 129) #[] #[]) q0
  have q2 := heap_setCell_same _ w.heap.size 1 _ 142 (.func (Fn.func 130) #[] #[]) q1
  have q3 := heap_setCell_same _ w.heap.size 2 _ 142 (.func (Fn.func 131) #[] #[]) q2
  have q4 := heap_setCell_same _ w.heap.size 3 _ 142 (.func (Fn.func 132) #[] #[]) q3
  try simp only [Exit.inBlock, Exit.then]
  refine bodyPost_ret (results_gr rfl _ w.heap.size true rfl rfl _ _ _ _ _ q4) rfl ⟨rfl, ?_⟩
  exact (((HF.out.below.setCell (by simp) _).setCell (by simp) _).setCell (by simp) _).setCell (by simp) _

set_option maxRecDepth 10000 in
set_option maxHeartbeats 1000000 in
theorem genRulesOf_4 (w : World) : Calls Tryz.prog 100 #[.int .i64 4] w fun e w' => e = .returned (.tuple #[.agg #[.func (Fn.func 133) #[] #[], .func (Fn.func 134) #[] #[], .func (Fn.func 135) #[] #[], .func (Fn.func 136) #[] #[]], .bool true]) ∧ Below w.heap.size w w' := by
  go_enter Tryz.func100, Tryz.ntmps100
  go_upto_region 1 with fail
  rename_i K0 hK0
  apply wp_region_lit
  refine wpList_buildTo rfl 142 _ rfl (some 5) rfl #[.func (Fn.func 122) #[] #[], .func (Fn.func 123) #[] #[], .func (Fn.func 124) #[] #[], .func (Fn.func 125) #[] #[]] (by as_aux_lemma => kernel_rfl) ?_
  refine wpList_buildTo rfl 142 _ rfl (some 6) rfl #[.func (Fn.func 122) #[] #[], .func (Fn.func 126) #[] #[], .func (Fn.func 127) #[] #[], .func (Fn.func 128) #[] #[]] (by as_aux_lemma => kernel_rfl) ?_
  refine wpList_buildTo rfl 142 _ rfl (some 7) rfl #[.func (Fn.func 129) #[] #[], .func (Fn.func 130) #[] #[], .func (Fn.func 131) #[] #[], .func (Fn.func 132) #[] #[]] (by as_aux_lemma => kernel_rfl) ?_
  refine wpList_buildTo rfl 142 _ rfl (some 8) rfl #[.func (Fn.func 133) #[] #[], .func (Fn.func 134) #[] #[], .func (Fn.func 135) #[] #[], .func (Fn.func 136) #[] #[]] (by as_aux_lemma => kernel_rfl) ?_
  refine wpList_buildTo rfl 160 _ rfl (some 9) rfl tabC (by as_aux_lemma => kernel_rfl) ?_
  refine Great.wpList_allocTo rfl (some 4) rfl _ _ (alloc20b w _ _ rfl) ?_
  refine wpList_store_rowTo rfl 160 _ _ rfl rfl (w.heap.size + 1) tabC rfl rfl 160 zero20 (tab_heap w) info20 rfl one20 ?_
  apply wpList_nil
  refine hK0 _ _ ?_
  have HF : Hid (TabF w _) := tabF_is w
  obtain ⟨W, hW⟩ : ∃ W, W = ((w.alloc (.cells #[.nilFunc, .nilFunc, .nilFunc, .nilFunc] 142)).alloc (.cells zero20 160)).setRow (w.heap.size + 1) tabC := ⟨_, rfl⟩
  rw [← hW] at HF ⊢
  clear hW hK0 K0
  obtain ⟨TT, hTT⟩ : ∃ TT, TT = tabC := ⟨_, rfl⟩
  rw [← hTT]
  clear hTT
  have sz := HF.out.size
  have c0 : W.cell? ⟨w.heap.size + 1, 16, none⟩ = some (.func (Fn.func 133) #[] #[]) := HF.out.cell 16
  have c1 : W.cell? ⟨w.heap.size + 1, 17, none⟩ = some (.func (Fn.func 134) #[] #[]) := HF.out.cell 17
  have c2 : W.cell? ⟨w.heap.size + 1, 18, none⟩ = some (.func (Fn.func 135) #[] #[]) := HF.out.cell 18
  have c3 : W.cell? ⟨w.heap.size + 1, 19, none⟩ = some (.func (Fn.func 136) #[] #[]) := HF.out.cell 19
  have fz0 : W.frozen? ⟨w.heap.size, 0, none⟩ = false := frozen_of_row W w.heap.size 0 _ 142 HF.out.res
  have fz1 : W.frozen? ⟨w.heap.size, 1, none⟩ = false := frozen_of_row W w.heap.size 1 _ 142 HF.out.res
  have fz2 : W.frozen? ⟨w.heap.size, 2, none⟩ = false := frozen_of_row W w.heap.size 2 _ 142 HF.out.res
  have fz3 : W.frozen? ⟨w.heap.size, 3, none⟩ = false := frozen_of_row W w.heap.size 3 _ 142 HF.out.res
  have r0 : W.cell? ⟨w.heap.size, 0, none⟩ = some .nilFunc := (cell_of_row _ w.heap.size 0 _ 142 (0, 0) HF.out.res).trans rfl
  have r1 : W.cell? ⟨w.heap.size, 1, none⟩ = some .nilFunc := (cell_of_row _ w.heap.size 1 _ 142 (0, 0) HF.out.res).trans rfl
  have r2 : W.cell? ⟨w.heap.size, 2, none⟩ = some .nilFunc := (cell_of_row _ w.heap.size 2 _ 142 (0, 0) HF.out.res).trans rfl
  have r3 : W.cell? ⟨w.heap.size, 3, none⟩ = some .nilFunc := (cell_of_row _ w.heap.size 3 _ 142 (0, 0) HF.out.res).trans rfl
  go_wp2_with fail
  refine (inBounds_says 4 1 4 _).mono ?_
  rintro e w1 ⟨b, rfl, HV, hw⟩
  obtain rfl : b = true := HV.out.2 ⟨by decide, by decide⟩
  subst hw
  clear HV
  go_wp2
  have q0 := HF.out.res
  have q1 := heap_setCell_same _ w.heap.size 0 _ 142 (.func (Fn.func 133) #[] #[]) q0
  have q2 := heap_setCell_same _ w.heap.size 1 _ 142 (.func (Fn.func 134) #[] #[]) q1
  have q3 := heap_setCell_same _ w.heap.size 2 _ 142 (.func (Fn.func 135) #[] #[]) q2
  have q4 := heap_setCell_same _ w.heap.size 3 _ 142 (.func (Fn.func 136) #[] #[]) q3
  try simp only [Exit.inBlock, Exit.then]
  refine bodyPost_ret (results_gr rfl _ w.heap.size true rfl rfl _ _ _ _ _ q4) rfl ⟨rfl, ?_⟩
  exact (((HF.out.below.setCell (by simp) _).setCell (by simp) _).setCell (by simp) _).setCell (by simp) _

set_option maxRecDepth 10000 in
set_option maxHeartbeats 1000000 in
theorem genRulesOf_none (k : Int) (w : World) (hk : ¬ (1 ≤ k ∧ k ≤ 4)) : Calls Tryz.prog 100 #[.int .i64 k] w fun e w' => e = .returned (.tuple #[.agg #[.nilFunc, .nilFunc, .nilFunc, .nilFunc], .bool false]) ∧ Below w.heap.size w w' := by
  have HKK : Hid (¬ (1 ≤ k ∧ k ≤ 4)) := hk
  clear hk
  go_enter Tryz.func100, Tryz.ntmps100
  go_upto_region 1 with fail
  rename_i K0 hK0
  apply wp_region_lit
  refine wpList_buildTo rfl 142 _ rfl (some 5) rfl #[.func (Fn.func 122) #[] #[], .func (Fn.func 123) #[] #[], .func (Fn.func 124) #[] #[], .func (Fn.func 125) #[] #[]] (by as_aux_lemma => kernel_rfl) ?_
  refine wpList_buildTo rfl 142 _ rfl (some 6) rfl #[.func (Fn.func 122) #[] #[], .func (Fn.func 126) #[] #[], .func (Fn.func 127) #[] #[], .func (Fn.func 128) #[] #[]] (by as_aux_lemma => kernel_rfl) ?_
  refine wpList_buildTo rfl 142 _ rfl (some 7) rfl #[.func (Fn.func 129) #[] #[], .func (Fn.func 130) #[] #[], .func (Fn.func 131) #[] #[], .func (Fn.func 132) #[] #[]] (by as_aux_lemma => kernel_rfl) ?_
  refine wpList_buildTo rfl 142 _ rfl (some 8) rfl #[.func (Fn.func 133) #[] #[], .func (Fn.func 134) #[] #[], .func (Fn.func 135) #[] #[], .func (Fn.func 136) #[] #[]] (by as_aux_lemma => kernel_rfl) ?_
  refine wpList_buildTo rfl 160 _ rfl (some 9) rfl tabC (by as_aux_lemma => kernel_rfl) ?_
  refine Great.wpList_allocTo rfl (some 4) rfl _ _ (alloc20b w _ _ rfl) ?_
  refine wpList_store_rowTo rfl 160 _ _ rfl rfl (w.heap.size + 1) tabC rfl rfl 160 zero20 (tab_heap w) info20 rfl one20 ?_
  apply wpList_nil
  refine hK0 _ _ ?_
  have HF : Hid (TabF w _) := tabF_is w
  obtain ⟨W, hW⟩ : ∃ W, W = ((w.alloc (.cells #[.nilFunc, .nilFunc, .nilFunc, .nilFunc] 142)).alloc (.cells zero20 160)).setRow (w.heap.size + 1) tabC := ⟨_, rfl⟩
  rw [← hW] at HF ⊢
  clear hW hK0 K0
  obtain ⟨TT, hTT⟩ : ∃ TT, TT = tabC := ⟨_, rfl⟩
  rw [← hTT]
  clear hTT
  have sz := HF.out.size
  have fz0 : W.frozen? ⟨w.heap.size, 0, none⟩ = false := frozen_of_row W w.heap.size 0 _ 142 HF.out.res
  have fz1 : W.frozen? ⟨w.heap.size, 1, none⟩ = false := frozen_of_row W w.heap.size 1 _ 142 HF.out.res
  have fz2 : W.frozen? ⟨w.heap.size, 2, none⟩ = false := frozen_of_row W w.heap.size 2 _ 142 HF.out.res
  have fz3 : W.frozen? ⟨w.heap.size, 3, none⟩ = false := frozen_of_row W w.heap.size 3 _ 142 HF.out.res
  have r0 : W.cell? ⟨w.heap.size, 0, none⟩ = some .nilFunc := (cell_of_row _ w.heap.size 0 _ 142 (0, 0) HF.out.res).trans rfl
  have r1 : W.cell? ⟨w.heap.size, 1, none⟩ = some .nilFunc := (cell_of_row _ w.heap.size 1 _ 142 (0, 0) HF.out.res).trans rfl
  have r2 : W.cell? ⟨w.heap.size, 2, none⟩ = some .nilFunc := (cell_of_row _ w.heap.size 2 _ 142 (0, 0) HF.out.res).trans rfl
  have r3 : W.cell? ⟨w.heap.size, 3, none⟩ = some .nilFunc := (cell_of_row _ w.heap.size 3 _ 142 (0, 0) HF.out.res).trans rfl
  go_wp2_with fail
  refine (inBounds_says k 1 4 _).mono ?_
  rintro e w1 ⟨b, rfl, HV, hw⟩
  obtain rfl : b = false := by
    cases b with
    | false => rfl
    | true => exact absurd (HV.out.1 rfl) HKK.out
  subst hw
  clear HV
  go_wp2
  have q0 := HF.out.res
  have q1 := heap_setCell_same _ w.heap.size 0 _ 142 .nilFunc q0
  have q2 := heap_setCell_same _ w.heap.size 1 _ 142 .nilFunc q1
  have q3 := heap_setCell_same _ w.heap.size 2 _ 142 .nilFunc q2
  have q4 := heap_setCell_same _ w.heap.size 3 _ 142 .nilFunc q3
  try simp only [Exit.inBlock, Exit.then]
  refine bodyPost_ret (results_gr rfl _ w.heap.size false rfl rfl _ _ _ _ _ q4) rfl ⟨rfl, ?_⟩
  exact (((HF.out.below.setCell (by simp) _).setCell (by simp) _).setCell (by simp) _).setCell (by simp) _

end Go.Proofs.YtkpabanjlhlmfaaGreatDoor

namespace Go.Proofs.YtkpabanjlhlmfaaGreatDoor
open Go.RowKit

theorem below_box (t : Nat) (w : World) (g : GT) (a : Option Addr) (n c : Nat) : Below w.heap.size w (w.alloc (.cells #[.int .i64 g.kind, .string g.text, .int .i64 g.addr, .int .i64 g.bits, .slice a n c] t)) := (Below.refl _ _).alloc (Nat.le_refl _) _

set_option maxRecDepth 10000 in
set_option maxHeartbeats 1000000 in
theorem onlyText_any (g : GT) (a : Option Addr) (n c : Nat) (w : World) : Calls Tryz.prog 122 #[gnv g a n c] w fun e w' => e = .returned (.bool (g.addr == 0 && g.bits == 0 && (n : Int) == 0)) ∧ Below w.heap.size w w' := by
  have hbl := below_box 96 w g a n c
  unfold gnv
  cases h1 : (g.addr == 0) <;> cases h2 : (g.bits == 0) <;> cases h3 : ((n : Int) == 0)
  all_goals
    go_enter Tryz.func122, Tryz.ntmps122
    go_wp2
    go_ret
    exact ⟨rfl, hbl⟩

set_option maxRecDepth 10000 in
set_option maxHeartbeats 1000000 in
theorem onlyAddr_any (g : GT) (a : Option Addr) (n c : Nat) (w : World) : Calls Tryz.prog 129 #[gnv g a n c] w fun e w' => e = .returned (.bool (g.text.toList.isEmpty && (n : Int) == 0)) ∧ Below w.heap.size w w' := by
  have hbl := below_box 96 w g a n c
  unfold gnv
  cases h1 : g.text.toList.isEmpty <;> cases h3 : ((n : Int) == 0)
  all_goals
    go_enter Tryz.func129, Tryz.ntmps129
    go_wp2
    go_ret
    exact ⟨rfl, hbl⟩

set_option maxRecDepth 10000 in
set_option maxHeartbeats 1000000 in
theorem onlyName_any (g : GT) (a : Option Addr) (n c : Nat) (w : World) : Calls Tryz.prog 133 #[gnv g a n c] w fun e w' => e = .returned (.bool (g.text.toList.isEmpty && g.addr == 0 && g.bits == 0)) ∧ Below w.heap.size w w' := by
  have hbl := below_box 96 w g a n c
  unfold gnv
  cases h1 : g.text.toList.isEmpty <;> cases h2 : (g.addr == 0) <;> cases h3 : (g.bits == 0)
  all_goals
    go_enter Tryz.func133, Tryz.ntmps133
    go_wp2
    go_ret
    exact ⟨rfl, hbl⟩

set_option maxRecDepth 10000 in
set_option maxHeartbeats 1000000 in
theorem hostName_any (g : GT) (a : Option Addr) (n c : Nat) (w : World) (hm : MaxW w) : Calls Tryz.prog 123 #[gnv g a n c] w (SaysB (hostP g.text true) w) := by
  have hbl := below_box 96 w g a n c
  have HM : Hid (MaxW w) := hm
  clear hm
  unfold gnv
  go_enter Tryz.func123, Tryz.ntmps123
  go_wp2_with fail
  refine (implHostOk_any g.text true _ (HM.out.kept hbl)).mono ?_
  rintro e w2 ⟨b, rfl, HV, hb2⟩
  go_wp2
  go_ret
  exact ⟨b, rfl, HV, hbl.trans (hb2.mono hbl.size)⟩

set_option maxRecDepth 10000 in
set_option maxHeartbeats 1000000 in
theorem hostBase_any (g : GT) (a : Option Addr) (n c : Nat) (w : World) (hm : MaxW w) : Calls Tryz.prog 124 #[gnv g a n c] w (SaysB (hostP g.text false) w) := by
  have hbl := below_box 96 w g a n c
  have HM : Hid (MaxW w) := hm
  clear hm
  unfold gnv
  go_enter Tryz.func124, Tryz.ntmps124
  go_wp2_with fail
  refine (implHostOk_any g.text false _ (HM.out.kept hbl)).mono ?_
  rintro e w2 ⟨b, rfl, HV, hb2⟩
  go_wp2
  go_ret
  exact ⟨b, rfl, HV, hbl.trans (hb2.mono hbl.size)⟩

/-- What strings.Cut gives at a sign. -/
theorem cut_says (s : ByteArray) (cb : UInt8) (w : World) (hs : s.size ≤ 1048576) (hm : MaxW w) : Calls Tryz.prog 146 #[.string s, .string ⟨#[cb]⟩] w fun e w' => ∃ x y ok, e = .returned (.tuple #[.string x, .string y, .bool ok]) ∧
    Hid ((ok = true ∧ ∃ t, t < s.size ∧ cAt s t = (cb.toNat : Int) ∧ (∀ j, j < t → cAt s j ≠ (cb.toNat : Int)) ∧ x = s.extract 0 t ∧ y = s.extract (t + 1) s.size) ∨ (ok = false ∧ (∀ j, j < s.size → cAt s j ≠ (cb.toNat : Int)) ∧ x = s ∧ y = ByteArray.empty)) ∧ Below w.heap.size w w' := by
  obtain ⟨m, hm⟩ := hm
  refine (Tryz.strings_Cut s ⟨#[cb]⟩ m w (by omega) hm).mono ?_
  rintro e w1 ⟨rfl, nn, rfl⟩
  refine ⟨_, _, _, rfl, ?_, below_drewM (Below.refl _ _) nn⟩
  rcases index_one s cb s.size 0 (by omega) (fun j h => absurd h (Nat.not_lt_zero _)) with ⟨h1, _, h3⟩ | ⟨t, h1, h2, h3, h4, _⟩
  · obtain ⟨e1, e2, e3⟩ := Lib.cutB_miss s ⟨#[cb]⟩ h1
    exact .inr ⟨e3, h3, e1, e2⟩
  · obtain ⟨e1, e2, e3⟩ := Lib.cutB_hit s ⟨#[cb]⟩ t h1
    exact .inl ⟨e3, t, h2, h3, h4, e1, e2⟩

set_option maxRecDepth 10000 in
set_option maxHeartbeats 1000000 in
theorem mailName_any (g : GT) (a : Option Addr) (n c : Nat) (w : World) (hm : MaxW w) (hs : g.text.size ≤ 1048576) : Calls Tryz.prog 126 #[gnv g a n c] w (SaysB (mailP g.text) w) := by
  have hbl := below_box 96 w g a n c
  have HM : Hid (MaxW w) := hm
  clear hm
  unfold gnv
  go_enter Tryz.func126, Tryz.ntmps126
  go_wp2_with fail
  refine (cut_says g.text 64 _ hs (HM.out.kept hbl)).mono ?_
  rintro e w1 ⟨x, y, ok, rfl, HR, hb1⟩
  have B1 := hbl.trans (hb1.mono hbl.size)
  cases ok with
  | false =>
    have HN : Hid (¬ mailP g.text) := by
      show ¬ _
      rcases HR.out with ⟨h, _⟩ | ⟨_, h, _⟩
      · cases h
      · exact mailP_none h
    clear HR
    go_wp2
    go_ret
    exact saysB_f HN.out B1
  | true =>
    have HI : Hid (mailP g.text ↔ localP x ∧ hostP y false) := by
      show _ ↔ _
      rcases HR.out with ⟨_, t, h1, h2, h3, rfl, rfl⟩ | ⟨h, _⟩
      · exact mailP_iff h1 h2 h3
      · cases h
    have hxs : x.size ≤ g.text.size := by
      rcases HR.out with ⟨_, t, _, _, _, rfl, _⟩ | ⟨h, _⟩
      · exact ext_le _ _ _
      · cases h
    clear HR
    go_wp2_with fail
    refine (wordMail_any x _ (by omega)).mono ?_
    rintro e w2 ⟨b1, rfl, HV1, hw2⟩
    subst hw2
    cases b1 with
    | false =>
      have HN : Hid (¬ mailP g.text) := fun h => Bool.false_ne_true (HV1.out.2 (HI.out.1 h).1)
      clear HV1 HI
      go_wp2
      go_ret
      exact saysB_f HN.out B1
    | true =>
      have HI2 : Hid (mailP g.text ↔ hostP y false) := ⟨fun h => (HI.out.1 h).2, fun h => HI.out.2 ⟨HV1.out.1 rfl, h⟩⟩
      clear HV1 HI
      go_wp2_with fail
      refine (implHostOk_any y false _ (HM.out.kept B1)).mono ?_
      rintro e w3 ⟨b2, rfl, HV2, hb2⟩
      have B3 := B1.trans (hb2.mono B1.size)
      cases b2 with
      | false =>
        have HN : Hid (¬ mailP g.text) := fun h => Bool.false_ne_true (HV2.out.2 (HI2.out.1 h))
        clear HV2 HI2
        go_wp2
        go_ret
        exact saysB_f HN.out B3
      | true =>
        have HN : Hid (mailP g.text) := HI2.out.2 (HV2.out.1 rfl)
        clear HV2 HI2
        go_wp2
        go_ret
        exact saysB_t HN.out B3

set_option maxRecDepth 10000 in
set_option maxHeartbeats 1000000 in
theorem addrName_any (g : GT) (a : Option Addr) (n c : Nat) (w : World) : Calls Tryz.prog 130 #[gnv g a n c] w (SaysB ((0 ≤ g.addr ∧ g.addr ≤ 4294967295) ∧ g.bits = 0) w) := by
  have hbl := below_box 96 w g a n c
  unfold gnv
  go_enter Tryz.func130, Tryz.ntmps130
  go_wp2_with fail
  refine (inBounds_says g.addr 0 4294967295 _).mono ?_
  rintro e w2 ⟨b, rfl, HV, hw2⟩
  subst hw2
  cases b with
  | false =>
    have HN : Hid (¬ ((0 ≤ g.addr ∧ g.addr ≤ 4294967295) ∧ g.bits = 0)) := fun h => Bool.false_ne_true (HV.out.2 h.1)
    clear HV
    go_wp2
    go_ret
    exact saysB_f HN.out hbl
  | true =>
    by_cases h0 : g.bits = 0
    · have HN : Hid ((0 ≤ g.addr ∧ g.addr ≤ 4294967295) ∧ g.bits = 0) := ⟨HV.out.1 rfl, h0⟩
      have z : (g.bits == 0) = true := beq_iff_eq.2 h0
      clear HV h0
      go_wp2
      go_ret
      exact saysB_t HN.out hbl
    · have HN : Hid (¬ ((0 ≤ g.addr ∧ g.addr ≤ 4294967295) ∧ g.bits = 0)) := fun h => h0 h.2
      have z : (g.bits == 0) = false := beq_false_of_ne h0
      clear HV h0
      go_wp2
      go_ret
      exact saysB_f HN.out hbl

set_option maxRecDepth 10000 in
set_option maxHeartbeats 1000000 in
theorem partsName_any (g : GT) (a : Option Addr) (n c : Nat) (xs : List PT) (w : World) (h : Pts w a n xs) (hz : ∀ k, k < n → (xs.getD k default).val.size ≤ 1048576) : Calls Tryz.prog 134 #[gnv g a n c] w (SaysB (nameP xs ∧ 0 < xs.length) w) := by
  have hbl := below_box 96 w g a n c
  have hbx := boxG_new 96 w g a n c
  have IN := implNameOk_any a n c xs _ (h.kept hbl) hz
  have hl := h.len
  clear h hz
  unfold gnv
  unfold nmv at IN
  go_enter Tryz.func134, Tryz.ntmps134
  go_wp2_with fail
  refine IN.mono ?_
  rintro e w2 ⟨b, rfl, HV, hb2⟩
  obtain ⟨_, _, _, _, p4⟩ := (hbx.kept hb2).cells
  have B2 := hbl.trans (hb2.mono hbl.size)
  clear IN hbx
  cases b with
  | false =>
    have HN : Hid (¬ (nameP xs ∧ 0 < xs.length)) := fun q => Bool.false_ne_true (HV.out.2 q.1)
    clear HV
    go_wp2
    go_ret
    exact saysB_f HN.out B2
  | true =>
    by_cases hn0 : 0 < n
    · have HN : Hid (nameP xs ∧ 0 < xs.length) := ⟨HV.out.1 rfl, by rw [hl]; exact hn0⟩
      have zn : decide ((0 : Int) < (n : Int)) = true := decide_eq_true (by omega)
      clear HV
      go_wp2
      go_ret
      exact saysB_t HN.out B2
    · have HN : Hid (¬ (nameP xs ∧ 0 < xs.length)) := fun q => hn0 (by rw [← hl]; exact q.2)
      have zn : decide ((0 : Int) < (n : Int)) = false := decide_eq_false (by omega)
      clear HV
      go_wp2
      go_ret
      exact saysB_f HN.out B2

set_option maxRecDepth 10000 in
set_option maxHeartbeats 1000000 in
theorem partsBase_any (g : GT) (a : Option Addr) (n c : Nat) (xs : List PT) (w : World) (h : Pts w a n xs) (hz : ∀ k, k < n → (xs.getD k default).val.size ≤ 1048576) : Calls Tryz.prog 135 #[gnv g a n c] w (SaysB (nameP xs) w) := by
  have hbl := below_box 96 w g a n c
  have IN := implNameOk_any a n c xs _ (h.kept hbl) hz
  clear h hz
  unfold gnv
  unfold nmv at IN
  go_enter Tryz.func135, Tryz.ntmps135
  go_wp2_with fail
  refine IN.mono ?_
  rintro e w2 ⟨b, rfl, HV, hb2⟩
  have B2 := hbl.trans (hb2.mono hbl.size)
  clear IN
  go_wp2
  go_ret
  exact ⟨b, rfl, HV, B2⟩

end Go.Proofs.YtkpabanjlhlmfaaGreatDoor
