import Derived.Test.YtoncodoimnideaaGreatDoorGN4
import Derived.Test.YtoncodoimnideaaGreatDoorL1In
import Derived.Laws.EntriesVeiled
import Derived.Laws.Tables
import Derived.Great.BuildSlice
import Derived.Great.Walk
import Derived.Deep.Cut
import Derived.Laws.BitsLemmas
import Derived.Test.YtoncodoimnideaaGreatDoorN9
namespace Go.Proofs.YtoncodoimnideaaGreatDoor
open Go.RowKit

theorem genP_1 {g : GT} {xs : List PT} (hk : g.kind = 1) (hb : bareB g xs.length = true) (h0 : g.bits = 0) : genP g xs ↔ hostP g.text true := by
  obtain ⟨q1, q2⟩ := bare_12 hb (.inl hk)
  unfold genP
  constructor
  · rintro (⟨_, _, h⟩ | ⟨h, _⟩ | ⟨h, _⟩ | ⟨h, _⟩)
    · exact h
    all_goals omega
  · exact fun h => .inl ⟨hk, ⟨q1, h0, q2⟩, h⟩
theorem genP_2 {g : GT} {xs : List PT} (hk : g.kind = 2) (hb : bareB g xs.length = true) (h0 : g.bits = 0) : genP g xs ↔ mailP g.text := by
  obtain ⟨q1, q2⟩ := bare_12 hb (.inr hk)
  unfold genP
  constructor
  · rintro (⟨h, _⟩ | ⟨_, _, h⟩ | ⟨h, _⟩ | ⟨h, _⟩)
    · omega
    · exact h
    all_goals omega
  · exact fun h => .inr (.inl ⟨hk, ⟨q1, h0, q2⟩, h⟩)
theorem genP_3 {g : GT} {xs : List PT} (hk : g.kind = 3) (hb : bareB g xs.length = true) (h0 : g.bits = 0) : genP g xs ↔ (0 ≤ g.addr ∧ g.addr ≤ 4294967295) := by
  obtain ⟨q1, q2⟩ := bare_3 hb hk
  unfold genP
  constructor
  · rintro (⟨h, _⟩ | ⟨h, _⟩ | ⟨_, _, h, _⟩ | ⟨h, _⟩)
    · omega
    · omega
    · exact h
    · omega
  · exact fun h => .inr (.inr (.inl ⟨hk, ⟨q1, q2⟩, h, h0⟩))
theorem genP_4 {g : GT} {xs : List PT} (hk : g.kind = 4) (hb : bareB g xs.length = true) (h0 : g.bits = 0) : genP g xs ↔ (nameP xs ∧ 0 < xs.length) := by
  obtain ⟨q1, q2⟩ := bare_4 hb hk
  unfold genP
  constructor
  · rintro (⟨h, _⟩ | ⟨h, _⟩ | ⟨h, _⟩ | ⟨_, _, h⟩)
    · omega
    · omega
    · omega
    · exact h
  · exact fun h => .inr (.inr (.inr ⟨hk, ⟨q1, q2, h0⟩, h⟩))
theorem genP_bits {g : GT} {xs : List PT} (h : genP g xs) : g.bits = 0 := by
  rcases h with ⟨_, ⟨_, h, _⟩, _⟩ | ⟨_, ⟨_, h, _⟩, _⟩ | ⟨_, _, _, h⟩ | ⟨_, ⟨_, _, h⟩, _⟩ <;> exact h
theorem genP_kind {g : GT} {xs : List PT} (h : genP g xs) : g.kind = 1 ∨ g.kind = 2 ∨ g.kind = 3 ∨ g.kind = 4 := by
  rcases h with ⟨h, _⟩ | ⟨h, _⟩ | ⟨h, _⟩ | ⟨h, _⟩ <;> omega
theorem baseP_kind {g : GT} {xs : List PT} (h : baseP g xs) : g.kind = 1 ∨ g.kind = 2 ∨ g.kind = 3 ∨ g.kind = 4 := by
  rcases h with ⟨h, _⟩ | ⟨h, _⟩ | ⟨h, _⟩ | ⟨h, _⟩ <;> omega

set_option maxRecDepth 10000 in
set_option maxHeartbeats 4000000 in
theorem specGenOk_any (g : GT) (a : Option Addr) (n c : Nat) (xs : List PT) (w : World) (h : Pts w a n xs) (hz : ∀ k, k < n → (xs.getD k default).val.size ≤ 1048576) (hs : g.text.size ≤ 1048576) :
    Calls Tryz.prog 33 #[gnv g a n c] w (SaysB (genP g xs) w) := by
  obtain ⟨P, hP⟩ : ∃ P, P = genP g xs := ⟨_, rfl⟩
  rw [← hP]
  have HP : Hid (P = genP g xs) := hP
  have HK : Hid (Pts w a n xs) := h
  have HZ : Hid (_) := hz
  have hl := h.len
  have hmx := h.max
  clear hP h hz
  have hbl : Below w.heap.size w (w.alloc (.cells #[.int .i64 g.kind, .string g.text, .int .i64 g.addr, .int .i64 g.bits, .slice a n c] 30)) := (Below.refl _ _).alloc (Nat.le_refl _) _
  have hbx := boxG_new 30 w g a n c
  have LB := l6Bare_any g a n c
  unfold gnv at LB ⊢
  go_enter Tryz.func33, Tryz.ntmps33
  go_wp2_with fail
  refine (LB _).mono ?_
  rintro e w1 ⟨rfl, hb1⟩
  have B1 : Below w.heap.size w w1 := hbl.trans (hb1.mono hbl.size)
  obtain ⟨p0, p1, p2, p3, p4⟩ := (hbx.kept hb1).cells
  have hlt : w.heap.size < w1.heap.size := Nat.lt_of_lt_of_le (by simp) hb1.size
  obtain ⟨B, hB⟩ : ∃ B, B = bareB g n := ⟨_, rfl⟩
  rw [← hB]
  clear LB hbx hbl hb1
  cases B with
  | false =>
    have HN : Hid (¬ P) := by show ¬ P; rw [HP.out]; exact (bare_f (by rw [hl]; exact hB.symm)).1
    clear hB HP HK HZ
    go_wp2
    go_ret
    exact saysB_f HN.out B1
  | true =>
    have HBB : Hid (bareB g xs.length = true) := by show _ = true; rw [hl]; exact hB.symm
    clear hB
    by_cases hb0 : g.bits = 0
    · have zb : (g.bits != 0) = false := by simp [hb0]
      by_cases k1 : g.kind = 1
      · have HI : Hid (P ↔ hostP g.text true) := by show P ↔ _; rw [HP.out]; exact genP_1 k1 HBB.out hb0
        have e1 : (g.kind == 1) = true := beq_iff_eq.2 k1
        clear HP HK HZ HBB hb0 k1
        go_wp2_with fail
        refine (specHostOk_any g.text true _).mono ?_
        rintro e w2 ⟨b, rfl, HV, hb2⟩
        have B2 : Below w.heap.size w w2 := B1.trans (hb2.mono B1.size)
        go_wp2
        go_ret
        exact ⟨b, rfl, HV.out.trans HI.out.symm, B2⟩
      have e1 : (g.kind == 1) = false := beq_false_of_ne k1
      by_cases k2 : g.kind = 2
      · have HI : Hid (P ↔ mailP g.text) := by show P ↔ _; rw [HP.out]; exact genP_2 k2 HBB.out hb0
        have e2 : (g.kind == 2) = true := beq_iff_eq.2 k2
        clear HP HK HZ HBB hb0 k1 k2
        go_wp2_with fail
        refine (l6MailOk_any g.text _ hs).mono ?_
        rintro e w2 ⟨b, rfl, HV, hb2⟩
        have B2 : Below w.heap.size w w2 := B1.trans (hb2.mono B1.size)
        go_wp2
        go_ret
        exact ⟨b, rfl, HV.out.trans HI.out.symm, B2⟩
      have e2 : (g.kind == 2) = false := beq_false_of_ne k2
      by_cases k3 : g.kind = 3
      · have HI : Hid (P ↔ (0 ≤ g.addr ∧ g.addr ≤ 4294967295)) := by show P ↔ _; rw [HP.out]; exact genP_3 k3 HBB.out hb0
        have e3 : (g.kind == 3) = true := beq_iff_eq.2 k3
        clear HP HK HZ HBB hb0 k1 k2 k3
        go_wp2_with fail
        refine (l1In_says g.addr 0 4294967295 _).mono ?_
        rintro e w2 ⟨b, rfl, HV, hw2⟩
        subst hw2
        go_wp2
        go_ret
        exact ⟨b, rfl, HV.out.trans HI.out.symm, B1⟩
      have e3 : (g.kind == 3) = false := beq_false_of_ne k3
      by_cases k4 : g.kind = 4
      · have HI : Hid (P ↔ (nameP xs ∧ 0 < xs.length)) := by show P ↔ _; rw [HP.out]; exact genP_4 k4 HBB.out hb0
        have e4 : (g.kind == 4) = true := beq_iff_eq.2 k4
        clear HP HBB hb0 k1 k2 k3 k4
        have SN := specNameOk_any a n c xs w1 (HK.out.kept B1) HZ.out
        unfold nmv at SN
        go_wp2_with fail
        refine SN.mono ?_
        rintro e w2 ⟨b, rfl, HV, hb2⟩
        have B2 : Below w.heap.size w w2 := B1.trans (hb2.mono B1.size)
        have y4 : w2.cell? ⟨w.heap.size, 4, none⟩ = some (.slice a n c) := (hb2.cell (p := ⟨w.heap.size, 4, none⟩) hlt).trans p4
        clear SN HK HZ
        cases b with
        | false =>
          have HN : Hid (¬ P) := fun q => Bool.false_ne_true (HV.out.2 (HI.out.1 q).1)
          clear HV HI
          go_wp2
          go_ret
          exact saysB_f HN.out B2
        | true =>
          by_cases hn0 : 0 < n
          · have HN : Hid P := HI.out.2 ⟨HV.out.1 rfl, by rw [hl]; exact hn0⟩
            have zn : decide ((0 : Int) < (n : Int)) = true := decide_eq_true (by omega)
            clear HV HI
            go_wp2
            go_ret
            exact saysB_t HN.out B2
          · have HN : Hid (¬ P) := fun q => hn0 (by rw [← hl]; exact (HI.out.1 q).2)
            have zn : decide ((0 : Int) < (n : Int)) = false := decide_eq_false (by omega)
            clear HV HI
            go_wp2
            go_ret
            exact saysB_f HN.out B2
      · have e4 : (g.kind == 4) = false := beq_false_of_ne k4
        have HN : Hid (¬ P) := by show ¬ P; rw [HP.out]; intro q; rcases genP_kind q with q | q | q | q <;> omega
        clear HP HK HZ HBB hb0 k1 k2 k3 k4
        go_wp2
        go_ret
        exact saysB_f HN.out B1
    · have zb : (g.bits != 0) = true := bne_iff_ne.2 hb0
      have HN : Hid (¬ P) := by show ¬ P; rw [HP.out]; exact fun q => hb0 (genP_bits q)
      clear HP HK HZ HBB hb0
      go_wp2
      go_ret
      exact saysB_f HN.out B1

end Go.Proofs.YtoncodoimnideaaGreatDoor

namespace Go.Proofs.YtoncodoimnideaaGreatDoor
open Go.RowKit

theorem results_gr {fn : Func} {t u : Tmp} (h : fn.results = #[.cell t 58, .tmp u]) (tmps : Array Value) (g : Nat) (b : Bool) (ht : tmps.getD t undef = .pointer (some ⟨g, 0, none⟩)) (hu : tmps.getD u undef = .bool b) (w : World) (c0 c1 c2 c3 : Value)
    (hb : w.heap[g]? = some (.cells #[c0, c1, c2, c3] 58 (0, 0))) : (results fn tmps).run Tryz.prog w = .ok (.tuple #[.agg #[c0, c1, c2, c3], .bool b]) w := by
  have d0 : w.cell? ⟨g, 0, none⟩ = some c0 := (cell_of_row _ g 0 _ 58 (0, 0) hb).trans rfl
  have d1 : w.cell? ⟨g, 1, none⟩ = some c1 := (cell_of_row _ g 1 _ 58 (0, 0) hb).trans rfl
  have d2 : w.cell? ⟨g, 2, none⟩ = some c2 := (cell_of_row _ g 2 _ 58 (0, 0) hb).trans rfl
  have d3 : w.cell? ⟨g, 3, none⟩ = some c3 := (cell_of_row _ g 3 _ 58 (0, 0) hb).trans rfl
  clear hb
  have ht' : tmps[t]?.getD undef = .pointer (some ⟨g, 0, none⟩) := by rw [← ht]; simp
  have hu' : tmps[u]?.getD undef = .bool b := by rw [← hu]; simp
  simp [results, h, go_sem, ht', hu', d0, d1, d2, d3]

theorem below_setRow {B : Nat} {w w' : World} (h : Below B w w') {g : Nat} (hg : B ≤ g) (cs : Array Value) : Below B w (w'.setRow g cs) :=
  h.trans ⟨rfl, rfl, rfl, by simp, fun k hk => setRow_other _ _ _ _ (by omega)⟩

def tabC : Array Value := #[.nilFunc, .nilFunc, .nilFunc, .nilFunc, .func (Fn.func 53) #[] #[], .func (Fn.func 54) #[] #[], .func (Fn.func 55) #[] #[], .func (Fn.func 56) #[] #[], .func (Fn.func 53) #[] #[], .func (Fn.func 57) #[] #[], .func (Fn.func 58) #[] #[], .func (Fn.func 59) #[] #[], .func (Fn.func 60) #[] #[], .func (Fn.func 61) #[] #[], .func (Fn.func 62) #[] #[], .func (Fn.func 63) #[] #[], .func (Fn.func 64) #[] #[], .func (Fn.func 65) #[] #[], .func (Fn.func 66) #[] #[], .func (Fn.func 67) #[] #[]]
def zero20 : Array Value := #[.nilFunc, .nilFunc, .nilFunc, .nilFunc, .nilFunc, .nilFunc, .nilFunc, .nilFunc, .nilFunc, .nilFunc, .nilFunc, .nilFunc, .nilFunc, .nilFunc, .nilFunc, .nilFunc, .nilFunc, .nilFunc, .nilFunc, .nilFunc]
/-- The table that is laid: what of it is read. -/
structure TabF (w W : World) : Prop where
  cell : ∀ j, W.cell? ⟨w.heap.size + 1, j, none⟩ = tabC[j]?
  res : W.heap[w.heap.size]? = some (.cells #[.nilFunc, .nilFunc, .nilFunc, .nilFunc] 58 (0, 0))
  size : W.heap.size = w.heap.size + 2
  below : Below w.heap.size w W
theorem tab_heap (w : World) : ((w.alloc (.cells #[.nilFunc, .nilFunc, .nilFunc, .nilFunc] 58)).alloc (.cells zero20 78)).heap[w.heap.size + 1]? = some (.cells zero20 78 (0, 0)) := by
  have := heap_alloc_new (w.alloc (.cells #[.nilFunc, .nilFunc, .nilFunc, .nilFunc] 58)) (.cells zero20 78 (0, 0))
  simpa using this
theorem tabF_is (w : World) : TabF w (((w.alloc (.cells #[.nilFunc, .nilFunc, .nilFunc, .nilFunc] 58)).alloc (.cells zero20 78)).setRow (w.heap.size + 1) tabC) := by
  have h0 : ((w.alloc (.cells #[.nilFunc, .nilFunc, .nilFunc, .nilFunc] 58)).alloc (.cells zero20 78)).heap[w.heap.size]? = some (.cells #[.nilFunc, .nilFunc, .nilFunc, .nilFunc] 58 (0, 0)) := by
    have hb := ((Below.refl (w.alloc (.cells #[.nilFunc, .nilFunc, .nilFunc, .nilFunc] 58)).heap.size (w.alloc (.cells #[.nilFunc, .nilFunc, .nilFunc, .nilFunc] 58))).alloc (Nat.le_refl _) (.cells zero20 78 (0, 0))).block w.heap.size (by simp)
    exact hb.trans (heap_alloc_new w _)
  have hb : Below w.heap.size w ((w.alloc (.cells #[.nilFunc, .nilFunc, .nilFunc, .nilFunc] 58)).alloc (.cells zero20 78)) := ((Below.refl _ _).alloc (Nat.le_refl _) _).alloc (by simp) _
  exact ⟨fun j => cell_setRow_same _ _ j zero20 tabC 78 (0, 0) (tab_heap w), (setRow_other _ _ _ _ (by omega)).trans h0, by simp, below_setRow hb (by omega) tabC⟩
theorem info20 : (Tryz.prog.info? 78).map (·.size) = some tabC.size := by kernel_rfl
theorem one20 : (tabC.all fun x => x.oneCell') = true := by kernel_rfl
theorem alloc20 (w : World) (a : Act) (o : Oper) (ho : o.op = .alloc 78) : (execOp a.eval o).run Tryz.prog w = .ok (.value (.pointer (some ⟨w.heap.size, 0, none⟩))) (w.alloc (.cells zero20 78)) := by
  simp [execOp, ho, go_sem, zero20]
theorem alloc20b (w : World) (a : Act) (o : Oper) (ho : o.op = .alloc 78) : (execOp a.eval o).run Tryz.prog (w.alloc (.cells #[.nilFunc, .nilFunc, .nilFunc, .nilFunc] 58)) = .ok (.value (.pointer (some ⟨w.heap.size + 1, 0, none⟩))) ((w.alloc (.cells #[.nilFunc, .nilFunc, .nilFunc, .nilFunc] 58)).alloc (.cells zero20 78)) := by
  have h := alloc20 (w.alloc (.cells #[.nilFunc, .nilFunc, .nilFunc, .nilFunc] 58)) a o ho
  rw [show (w.alloc (.cells #[.nilFunc, .nilFunc, .nilFunc, .nilFunc] 58)).heap.size = w.heap.size + 1 by simp] at h
  exact h

set_option maxRecDepth 10000 in
set_option maxHeartbeats 1000000 in
theorem genRulesOf_1 (w : World) : Calls Tryz.prog 32 #[.int .i64 1] w fun e w' => e = .returned (.tuple #[.agg #[.func (Fn.func 53) #[] #[], .func (Fn.func 54) #[] #[], .func (Fn.func 55) #[] #[], .func (Fn.func 56) #[] #[]], .bool true]) ∧ Below w.heap.size w w' := by
  go_enter Tryz.func32, Tryz.ntmps32
  go_upto_region 1 with fail
  rename_i K0 hK0
  apply wp_region_lit
  refine wpList_buildTo rfl 58 _ rfl (some 5) rfl #[.func (Fn.func 53) #[] #[], .func (Fn.func 54) #[] #[], .func (Fn.func 55) #[] #[], .func (Fn.func 56) #[] #[]] (by as_aux_lemma => kernel_rfl) ?_
  refine wpList_buildTo rfl 58 _ rfl (some 6) rfl #[.func (Fn.func 53) #[] #[], .func (Fn.func 57) #[] #[], .func (Fn.func 58) #[] #[], .func (Fn.func 59) #[] #[]] (by as_aux_lemma => kernel_rfl) ?_
  refine wpList_buildTo rfl 58 _ rfl (some 7) rfl #[.func (Fn.func 60) #[] #[], .func (Fn.func 61) #[] #[], .func (Fn.func 62) #[] #[], .func (Fn.func 63) #[] #[]] (by as_aux_lemma => kernel_rfl) ?_
  refine wpList_buildTo rfl 58 _ rfl (some 8) rfl #[.func (Fn.func 64) #[] #[], .func (Fn.func 65) #[] #[], .func (Fn.func 66) #[] #[], .func (Fn.func 67) #[] #[]] (by as_aux_lemma => kernel_rfl) ?_
  refine wpList_buildTo rfl 78 _ rfl (some 9) rfl tabC (by as_aux_lemma => kernel_rfl) ?_
  refine Great.wpList_allocTo rfl (some 4) rfl _ _ (alloc20b w _ _ rfl) ?_
  refine wpList_store_rowTo rfl 78 _ _ rfl rfl (w.heap.size + 1) tabC rfl rfl 78 zero20 (tab_heap w) info20 rfl one20 ?_
  apply wpList_nil
  refine hK0 _ _ ?_
  have HF : Hid (TabF w _) := tabF_is w
  obtain ⟨W, hW⟩ : ∃ W, W = ((w.alloc (.cells #[.nilFunc, .nilFunc, .nilFunc, .nilFunc] 58)).alloc (.cells zero20 78)).setRow (w.heap.size + 1) tabC := ⟨_, rfl⟩
  rw [← hW] at HF ⊢
  clear hW hK0 K0
  obtain ⟨TT, hTT⟩ : ∃ TT, TT = tabC := ⟨_, rfl⟩
  rw [← hTT]
  clear hTT
  have sz := HF.out.size
  have c0 : W.cell? ⟨w.heap.size + 1, 4, none⟩ = some (.func (Fn.func 53) #[] #[]) := HF.out.cell 4
  have c1 : W.cell? ⟨w.heap.size + 1, 5, none⟩ = some (.func (Fn.func 54) #[] #[]) := HF.out.cell 5
  have c2 : W.cell? ⟨w.heap.size + 1, 6, none⟩ = some (.func (Fn.func 55) #[] #[]) := HF.out.cell 6
  have c3 : W.cell? ⟨w.heap.size + 1, 7, none⟩ = some (.func (Fn.func 56) #[] #[]) := HF.out.cell 7
  have fz0 : W.frozen? ⟨w.heap.size, 0, none⟩ = false := frozen_of_row W w.heap.size 0 _ 58 HF.out.res
  have fz1 : W.frozen? ⟨w.heap.size, 1, none⟩ = false := frozen_of_row W w.heap.size 1 _ 58 HF.out.res
  have fz2 : W.frozen? ⟨w.heap.size, 2, none⟩ = false := frozen_of_row W w.heap.size 2 _ 58 HF.out.res
  have fz3 : W.frozen? ⟨w.heap.size, 3, none⟩ = false := frozen_of_row W w.heap.size 3 _ 58 HF.out.res
  have r0 : W.cell? ⟨w.heap.size, 0, none⟩ = some .nilFunc := (cell_of_row _ w.heap.size 0 _ 58 (0, 0) HF.out.res).trans rfl
  have r1 : W.cell? ⟨w.heap.size, 1, none⟩ = some .nilFunc := (cell_of_row _ w.heap.size 1 _ 58 (0, 0) HF.out.res).trans rfl
  have r2 : W.cell? ⟨w.heap.size, 2, none⟩ = some .nilFunc := (cell_of_row _ w.heap.size 2 _ 58 (0, 0) HF.out.res).trans rfl
  have r3 : W.cell? ⟨w.heap.size, 3, none⟩ = some .nilFunc := (cell_of_row _ w.heap.size 3 _ 58 (0, 0) HF.out.res).trans rfl
  go_wp2_with fail
  refine (inBounds_says 1 1 4 _).mono ?_
  rintro e w1 ⟨b, rfl, HV, hw⟩
  obtain rfl : b = true := HV.out.2 ⟨by decide, by decide⟩
  subst hw
  clear HV
  go_wp2
  have q0 := HF.out.res
  have q1 := heap_setCell_same _ w.heap.size 0 _ 58 (.func (Fn.func 53) #[] #[]) q0
  have q2 := heap_setCell_same _ w.heap.size 1 _ 58 (.func (Fn.func 54) #[] #[]) q1
  have q3 := heap_setCell_same _ w.heap.size 2 _ 58 (.func (Fn.func 55) #[] #[]) q2
  have q4 := heap_setCell_same _ w.heap.size 3 _ 58 (.func (Fn.func 56) #[] #[]) q3
  try simp only [Exit.inBlock, Exit.then]
  refine bodyPost_ret (results_gr rfl _ w.heap.size true rfl rfl _ _ _ _ _ q4) rfl ⟨rfl, ?_⟩
  exact (((HF.out.below.setCell (by simp) _).setCell (by simp) _).setCell (by simp) _).setCell (by simp) _

set_option maxRecDepth 10000 in
set_option maxHeartbeats 1000000 in
theorem genRulesOf_2 (w : World) : Calls Tryz.prog 32 #[.int .i64 2] w fun e w' => e = .returned (.tuple #[.agg #[.func (Fn.func 53) #[] #[], .func (Fn.func 57) #[] #[], .func (Fn.func 58) #[] #[], .func (Fn.func 59) #[] #[]], .bool true]) ∧ Below w.heap.size w w' := by
  go_enter Tryz.func32, Tryz.ntmps32
  go_upto_region 1 with fail
  rename_i K0 hK0
  apply wp_region_lit
  refine wpList_buildTo rfl 58 _ rfl (some 5) rfl #[.func (Fn.func 53) #[] #[], .func (Fn.func 54) #[] #[], .func (Fn.func 55) #[] #[], .func (Fn.func 56) #[] #[]] (by as_aux_lemma => kernel_rfl) ?_
  refine wpList_buildTo rfl 58 _ rfl (some 6) rfl #[.func (Fn.func 53) #[] #[], .func (Fn.func 57) #[] #[], .func (Fn.func 58) #[] #[], .func (Fn.func 59) #[] #[]] (by as_aux_lemma => kernel_rfl) ?_
  refine wpList_buildTo rfl 58 _ rfl (some 7) rfl #[.func (Fn.func 60) #[] #[], .func (Fn.func 61) #[] #[], .func (Fn.func 62) #[] #[], .func (Fn.func 63) #[] #[]] (by as_aux_lemma => kernel_rfl) ?_
  refine wpList_buildTo rfl 58 _ rfl (some 8) rfl #[.func (Fn.func 64) #[] #[], .func (Fn.func 65) #[] #[], .func (Fn.func 66) #[] #[], .func (Fn.func 67) #[] #[]] (by as_aux_lemma => kernel_rfl) ?_
  refine wpList_buildTo rfl 78 _ rfl (some 9) rfl tabC (by as_aux_lemma => kernel_rfl) ?_
  refine Great.wpList_allocTo rfl (some 4) rfl _ _ (alloc20b w _ _ rfl) ?_
  refine wpList_store_rowTo rfl 78 _ _ rfl rfl (w.heap.size + 1) tabC rfl rfl 78 zero20 (tab_heap w) info20 rfl one20 ?_
  apply wpList_nil
  refine hK0 _ _ ?_
  have HF : Hid (TabF w _) := tabF_is w
  obtain ⟨W, hW⟩ : ∃ W, W = ((w.alloc (.cells #[.nilFunc, .nilFunc, .nilFunc, .nilFunc] 58)).alloc (.cells zero20 78)).setRow (w.heap.size + 1) tabC := ⟨_, rfl⟩
  rw [← hW] at HF ⊢
  clear hW hK0 K0
  obtain ⟨TT, hTT⟩ : ∃ TT, TT = tabC := ⟨_, rfl⟩
  rw [← hTT]
  clear hTT
  have sz := HF.out.size
  have c0 : W.cell? ⟨w.heap.size + 1, 8, none⟩ = some (.func (Fn.func 53) #[] #[]) := HF.out.cell 8
  have c1 : W.cell? ⟨w.heap.size + 1, 9, none⟩ = some (.func (Fn.func 57) #[] #[]) := HF.out.cell 9
  have c2 : W.cell? ⟨w.heap.size + 1, 10, none⟩ = some (.func (Fn.func 58) #[] #[]) := HF.out.cell 10
  have c3 : W.cell? ⟨w.heap.size + 1, 11, none⟩ = some (.func (Fn.func 59) #[] #[]) := HF.out.cell 11
  have fz0 : W.frozen? ⟨w.heap.size, 0, none⟩ = false := frozen_of_row W w.heap.size 0 _ 58 HF.out.res
  have fz1 : W.frozen? ⟨w.heap.size, 1, none⟩ = false := frozen_of_row W w.heap.size 1 _ 58 HF.out.res
  have fz2 : W.frozen? ⟨w.heap.size, 2, none⟩ = false := frozen_of_row W w.heap.size 2 _ 58 HF.out.res
  have fz3 : W.frozen? ⟨w.heap.size, 3, none⟩ = false := frozen_of_row W w.heap.size 3 _ 58 HF.out.res
  have r0 : W.cell? ⟨w.heap.size, 0, none⟩ = some .nilFunc := (cell_of_row _ w.heap.size 0 _ 58 (0, 0) HF.out.res).trans rfl
  have r1 : W.cell? ⟨w.heap.size, 1, none⟩ = some .nilFunc := (cell_of_row _ w.heap.size 1 _ 58 (0, 0) HF.out.res).trans rfl
  have r2 : W.cell? ⟨w.heap.size, 2, none⟩ = some .nilFunc := (cell_of_row _ w.heap.size 2 _ 58 (0, 0) HF.out.res).trans rfl
  have r3 : W.cell? ⟨w.heap.size, 3, none⟩ = some .nilFunc := (cell_of_row _ w.heap.size 3 _ 58 (0, 0) HF.out.res).trans rfl
  go_wp2_with fail
  refine (inBounds_says 2 1 4 _).mono ?_
  rintro e w1 ⟨b, rfl, HV, hw⟩
  obtain rfl : b = true := HV.out.2 ⟨by decide, by decide⟩
  subst hw
  clear HV
  go_wp2
  have q0 := HF.out.res
  have q1 := heap_setCell_same _ w.heap.size 0 _ 58 (.func (Fn.func 53) #[] #[]) q0
  have q2 := heap_setCell_same _ w.heap.size 1 _ 58 (.func (Fn.func 57) #[] #[]) q1
  have q3 := heap_setCell_same _ w.heap.size 2 _ 58 (.func (Fn.func 58) #[] #[]) q2
  have q4 := heap_setCell_same _ w.heap.size 3 _ 58 (.func (Fn.func 59) #[] #[]) q3
  try simp only [Exit.inBlock, Exit.then]
  refine bodyPost_ret (results_gr rfl _ w.heap.size true rfl rfl _ _ _ _ _ q4) rfl ⟨rfl, ?_⟩
  exact (((HF.out.below.setCell (by simp) _).setCell (by simp) _).setCell (by simp) _).setCell (by simp) _

set_option maxRecDepth 10000 in
set_option maxHeartbeats 1000000 in
theorem genRulesOf_3 (w : World) : Calls Tryz.prog 32 #[.int .i64 3] w fun e w' => e = .returned (.tuple #[.agg #[.func (Fn.func 60) #[] #[], .func (Fn.func 61) #[] #[], .func (Fn.func 62) #[] #[], .func (Fn.func 63) #[] #[]], .bool true]) ∧ Below w.heap.size w w' := by
  go_enter Tryz.func32, Tryz.ntmps32
  go_upto_region 1 with fail
  rename_i K0 hK0
  apply wp_region_lit
  refine wpList_buildTo rfl 58 _ rfl (some 5) rfl #[.func (Fn.func 53) #[] #[], .func (Fn.func 54) #[] #[], .func (Fn.func 55) #[] #[], .func (Fn.func 56) #[] #[]] (by as_aux_lemma => kernel_rfl) ?_
  refine wpList_buildTo rfl 58 _ rfl (some 6) rfl #[.func (Fn.func 53) #[] #[], .func (Fn.func 57) #[] #[], .func (Fn.func 58) #[] #[], .func (Fn.func 59) #[] #[]] (by as_aux_lemma => kernel_rfl) ?_
  refine wpList_buildTo rfl 58 _ rfl (some 7) rfl #[.func (Fn.func 60) #[] #[], .func (Fn.func 61) #[] #[], .func (Fn.func 62) #[] #[], .func (Fn.func 63) #[] #[]] (by as_aux_lemma => kernel_rfl) ?_
  refine wpList_buildTo rfl 58 _ rfl (some 8) rfl #[.func (Fn.func 64) #[] #[], .func (Fn.func 65) #[] #[], .func (Fn.func 66) #[] #[], .func (Fn.func 67) #[] #[]] (by as_aux_lemma => kernel_rfl) ?_
  refine wpList_buildTo rfl 78 _ rfl (some 9) rfl tabC (by as_aux_lemma => kernel_rfl) ?_
  refine Great.wpList_allocTo rfl (some 4) rfl _ _ (alloc20b w _ _ rfl) ?_
  refine wpList_store_rowTo rfl 78 _ _ rfl rfl (w.heap.size + 1) tabC rfl rfl 78 zero20 (tab_heap w) info20 rfl one20 ?_
  apply wpList_nil
  refine hK0 _ _ ?_
  have HF : Hid (TabF w _) := tabF_is w
  obtain ⟨W, hW⟩ : ∃ W, W = ((w.alloc (.cells #[.nilFunc, .nilFunc, .nilFunc, .nilFunc] 58)).alloc (.cells zero20 78)).setRow (w.heap.size + 1) tabC := ⟨_, rfl⟩
  rw [← hW] at HF ⊢
  clear hW hK0 K0
  obtain ⟨TT, hTT⟩ : ∃ TT, TT = tabC := ⟨_, rfl⟩
  rw [← hTT]
  clear hTT
  have sz := HF.out.size
  have c0 : W.cell? ⟨w.heap.size + 1, 12, none⟩ = some (.func (Fn.func 60) #[] #[]) := HF.out.cell 12
  have c1 : W.cell? ⟨w.heap.size + 1, 13, none⟩ = some (.func (Fn.func 61) #[] #[]) := HF.out.cell 13
  have c2 : W.cell? ⟨w.heap.size + 1, 14, none⟩ = some (.func (Fn.func 62) #[] #[]) := HF.out.cell 14
  have c3 : W.cell? ⟨w.heap.size + 1, 15, none⟩ = some (.func (Fn.func 63) #[] #[]) := HF.out.cell 15
  have fz0 : W.frozen? ⟨w.heap.size, 0, none⟩ = false := frozen_of_row W w.heap.size 0 _ 58 HF.out.res
  have fz1 : W.frozen? ⟨w.heap.size, 1, none⟩ = false := frozen_of_row W w.heap.size 1 _ 58 HF.out.res
  have fz2 : W.frozen? ⟨w.heap.size, 2, none⟩ = false := frozen_of_row W w.heap.size 2 _ 58 HF.out.res
  have fz3 : W.frozen? ⟨w.heap.size, 3, none⟩ = false := frozen_of_row W w.heap.size 3 _ 58 HF.out.res
  have r0 : W.cell? ⟨w.heap.size, 0, none⟩ = some .nilFunc := (cell_of_row _ w.heap.size 0 _ 58 (0, 0) HF.out.res).trans rfl
  have r1 : W.cell? ⟨w.heap.size, 1, none⟩ = some .nilFunc := (cell_of_row _ w.heap.size 1 _ 58 (0, 0) HF.out.res).trans rfl
  have r2 : W.cell? ⟨w.heap.size, 2, none⟩ = some .nilFunc := (cell_of_row _ w.heap.size 2 _ 58 (0, 0) HF.out.res).trans rfl
  have r3 : W.cell? ⟨w.heap.size, 3, none⟩ = some .nilFunc := (cell_of_row _ w.heap.size 3 _ 58 (0, 0) HF.out.res).trans rfl
  go_wp2_with fail
  refine (inBounds_says 3 1 4 _).mono ?_
  rintro e w1 ⟨b, rfl, HV, hw⟩
  obtain rfl : b = true := HV.out.2 ⟨by decide, by decide⟩
  subst hw
  clear HV
  go_wp2
  have q0 := HF.out.res
  have q1 := heap_setCell_same _ w.heap.size 0 _ 58 (.func (Fn.func 60) #[] #[]) q0
  have q2 := heap_setCell_same _ w.heap.size 1 _ 58 (.func (Fn.func 61) #[] #[]) q1
  have q3 := heap_setCell_same _ w.heap.size 2 _ 58 (.func (Fn.func 62) #[] #[]) q2
  have q4 := heap_setCell_same _ w.heap.size 3 _ 58 (.func (Fn.func 63) #[] #[]) q3
  try simp only [Exit.inBlock, Exit.then]
  refine bodyPost_ret (results_gr rfl _ w.heap.size true rfl rfl _ _ _ _ _ q4) rfl ⟨rfl, ?_⟩
  exact (((HF.out.below.setCell (by simp) _).setCell (by simp) _).setCell (by simp) _).setCell (by simp) _

set_option maxRecDepth 10000 in
set_option maxHeartbeats 1000000 in
theorem genRulesOf_4 (w : World) : Calls Tryz.prog 32 #[.int .i64 4] w fun e w' => e = .returned (.tuple #[.agg #[.func (Fn.func 64) #[] #[], .func (Fn.func 65) #[] #[], .func (Fn.func 66) #[] #[], .func (Fn.func 67) #[] #[]], .bool true]) ∧ Below w.heap.size w w' := by
  go_enter Tryz.func32, Tryz.ntmps32
  go_upto_region 1 with fail
  rename_i K0 hK0
  apply wp_region_lit
  refine wpList_buildTo rfl 58 _ rfl (some 5) rfl #[.func (Fn.func 53) #[] #[], .func (Fn.func 54) #[] #[], .func (Fn.func 55) #[] #[], .func (Fn.func 56) #[] #[]] (by as_aux_lemma => kernel_rfl) ?_
  refine wpList_buildTo rfl 58 _ rfl (some 6) rfl #[.func (Fn.func 53) #[] #[], .func (Fn.func 57) #[] #[], .func (Fn.func 58) #[] #[], .func (Fn.func 59) #[] #[]] (by as_aux_lemma => kernel_rfl) ?_
  refine wpList_buildTo rfl 58 _ rfl (some 7) rfl #[.func (Fn.func 60) #[] #[], .func (Fn.func 61) #[] #[], .func (Fn.func 62) #[] #[], .func (Fn.func 63) #[] #[]] (by as_aux_lemma => kernel_rfl) ?_
  refine wpList_buildTo rfl 58 _ rfl (some 8) rfl #[.func (Fn.func 64) #[] #[], .func (Fn.func 65) #[] #[], .func (Fn.func 66) #[] #[], .func (Fn.func 67) #[] #[]] (by as_aux_lemma => kernel_rfl) ?_
  refine wpList_buildTo rfl 78 _ rfl (some 9) rfl tabC (by as_aux_lemma => kernel_rfl) ?_
  refine Great.wpList_allocTo rfl (some 4) rfl _ _ (alloc20b w _ _ rfl) ?_
  refine wpList_store_rowTo rfl 78 _ _ rfl rfl (w.heap.size + 1) tabC rfl rfl 78 zero20 (tab_heap w) info20 rfl one20 ?_
  apply wpList_nil
  refine hK0 _ _ ?_
  have HF : Hid (TabF w _) := tabF_is w
  obtain ⟨W, hW⟩ : ∃ W, W = ((w.alloc (.cells #[.nilFunc, .nilFunc, .nilFunc, .nilFunc] 58)).alloc (.cells zero20 78)).setRow (w.heap.size + 1) tabC := ⟨_, rfl⟩
  rw [← hW] at HF ⊢
  clear hW hK0 K0
  obtain ⟨TT, hTT⟩ : ∃ TT, TT = tabC := ⟨_, rfl⟩
  rw [← hTT]
  clear hTT
  have sz := HF.out.size
  have c0 : W.cell? ⟨w.heap.size + 1, 16, none⟩ = some (.func (Fn.func 64) #[] #[]) := HF.out.cell 16
  have c1 : W.cell? ⟨w.heap.size + 1, 17, none⟩ = some (.func (Fn.func 65) #[] #[]) := HF.out.cell 17
  have c2 : W.cell? ⟨w.heap.size + 1, 18, none⟩ = some (.func (Fn.func 66) #[] #[]) := HF.out.cell 18
  have c3 : W.cell? ⟨w.heap.size + 1, 19, none⟩ = some (.func (Fn.func 67) #[] #[]) := HF.out.cell 19
  have fz0 : W.frozen? ⟨w.heap.size, 0, none⟩ = false := frozen_of_row W w.heap.size 0 _ 58 HF.out.res
  have fz1 : W.frozen? ⟨w.heap.size, 1, none⟩ = false := frozen_of_row W w.heap.size 1 _ 58 HF.out.res
  have fz2 : W.frozen? ⟨w.heap.size, 2, none⟩ = false := frozen_of_row W w.heap.size 2 _ 58 HF.out.res
  have fz3 : W.frozen? ⟨w.heap.size, 3, none⟩ = false := frozen_of_row W w.heap.size 3 _ 58 HF.out.res
  have r0 : W.cell? ⟨w.heap.size, 0, none⟩ = some .nilFunc := (cell_of_row _ w.heap.size 0 _ 58 (0, 0) HF.out.res).trans rfl
  have r1 : W.cell? ⟨w.heap.size, 1, none⟩ = some .nilFunc := (cell_of_row _ w.heap.size 1 _ 58 (0, 0) HF.out.res).trans rfl
  have r2 : W.cell? ⟨w.heap.size, 2, none⟩ = some .nilFunc := (cell_of_row _ w.heap.size 2 _ 58 (0, 0) HF.out.res).trans rfl
  have r3 : W.cell? ⟨w.heap.size, 3, none⟩ = some .nilFunc := (cell_of_row _ w.heap.size 3 _ 58 (0, 0) HF.out.res).trans rfl
  go_wp2_with fail
  refine (inBounds_says 4 1 4 _).mono ?_
  rintro e w1 ⟨b, rfl, HV, hw⟩
  obtain rfl : b = true := HV.out.2 ⟨by decide, by decide⟩
  subst hw
  clear HV
  go_wp2
  have q0 := HF.out.res
  have q1 := heap_setCell_same _ w.heap.size 0 _ 58 (.func (Fn.func 64) #[] #[]) q0
  have q2 := heap_setCell_same _ w.heap.size 1 _ 58 (.func (Fn.func 65) #[] #[]) q1
  have q3 := heap_setCell_same _ w.heap.size 2 _ 58 (.func (Fn.func 66) #[] #[]) q2
  have q4 := heap_setCell_same _ w.heap.size 3 _ 58 (.func (Fn.func 67) #[] #[]) q3
  try simp only [Exit.inBlock, Exit.then]
  refine bodyPost_ret (results_gr rfl _ w.heap.size true rfl rfl _ _ _ _ _ q4) rfl ⟨rfl, ?_⟩
  exact (((HF.out.below.setCell (by simp) _).setCell (by simp) _).setCell (by simp) _).setCell (by simp) _

set_option maxRecDepth 10000 in
set_option maxHeartbeats 1000000 in
theorem genRulesOf_none (k : Int) (w : World) (hk : ¬ (1 ≤ k ∧ k ≤ 4)) : Calls Tryz.prog 32 #[.int .i64 k] w fun e w' => e = .returned (.tuple #[.agg #[.nilFunc, .nilFunc, .nilFunc, .nilFunc], .bool false]) ∧ Below w.heap.size w w' := by
  have HKK : Hid (¬ (1 ≤ k ∧ k ≤ 4)) := hk
  clear hk
  go_enter Tryz.func32, Tryz.ntmps32
  go_upto_region 1 with fail
  rename_i K0 hK0
  apply wp_region_lit
  refine wpList_buildTo rfl 58 _ rfl (some 5) rfl #[.func (Fn.func 53) #[] #[], .func (Fn.func 54) #[] #[], .func (Fn.func 55) #[] #[], .func (Fn.func 56) #[] #[]] (by as_aux_lemma => kernel_rfl) ?_
  refine wpList_buildTo rfl 58 _ rfl (some 6) rfl #[.func (Fn.func 53) #[] #[], .func (Fn.func 57) #[] #[], .func (Fn.func 58) #[] #[], .func (Fn.func 59) #[] #[]] (by as_aux_lemma => kernel_rfl) ?_
  refine wpList_buildTo rfl 58 _ rfl (some 7) rfl #[.func (Fn.func 60) #[] #[], .func (Fn.func 61) #[] #[], .func (Fn.func 62) #[] #[], .func (Fn.func 63) #[] #[]] (by as_aux_lemma => kernel_rfl) ?_
  refine wpList_buildTo rfl 58 _ rfl (some 8) rfl #[.func (Fn.func 64) #[] #[], .func (Fn.func 65) #[] #[], .func (Fn.func 66) #[] #[], .func (Fn.func 67) #[] #[]] (by as_aux_lemma => kernel_rfl) ?_
  refine wpList_buildTo rfl 78 _ rfl (some 9) rfl tabC (by as_aux_lemma => kernel_rfl) ?_
  refine Great.wpList_allocTo rfl (some 4) rfl _ _ (alloc20b w _ _ rfl) ?_
  refine wpList_store_rowTo rfl 78 _ _ rfl rfl (w.heap.size + 1) tabC rfl rfl 78 zero20 (tab_heap w) info20 rfl one20 ?_
  apply wpList_nil
  refine hK0 _ _ ?_
  have HF : Hid (TabF w _) := tabF_is w
  obtain ⟨W, hW⟩ : ∃ W, W = ((w.alloc (.cells #[.nilFunc, .nilFunc, .nilFunc, .nilFunc] 58)).alloc (.cells zero20 78)).setRow (w.heap.size + 1) tabC := ⟨_, rfl⟩
  rw [← hW] at HF ⊢
  clear hW hK0 K0
  obtain ⟨TT, hTT⟩ : ∃ TT, TT = tabC := ⟨_, rfl⟩
  rw [← hTT]
  clear hTT
  have sz := HF.out.size
  have fz0 : W.frozen? ⟨w.heap.size, 0, none⟩ = false := frozen_of_row W w.heap.size 0 _ 58 HF.out.res
  have fz1 : W.frozen? ⟨w.heap.size, 1, none⟩ = false := frozen_of_row W w.heap.size 1 _ 58 HF.out.res
  have fz2 : W.frozen? ⟨w.heap.size, 2, none⟩ = false := frozen_of_row W w.heap.size 2 _ 58 HF.out.res
  have fz3 : W.frozen? ⟨w.heap.size, 3, none⟩ = false := frozen_of_row W w.heap.size 3 _ 58 HF.out.res
  have r0 : W.cell? ⟨w.heap.size, 0, none⟩ = some .nilFunc := (cell_of_row _ w.heap.size 0 _ 58 (0, 0) HF.out.res).trans rfl
  have r1 : W.cell? ⟨w.heap.size, 1, none⟩ = some .nilFunc := (cell_of_row _ w.heap.size 1 _ 58 (0, 0) HF.out.res).trans rfl
  have r2 : W.cell? ⟨w.heap.size, 2, none⟩ = some .nilFunc := (cell_of_row _ w.heap.size 2 _ 58 (0, 0) HF.out.res).trans rfl
  have r3 : W.cell? ⟨w.heap.size, 3, none⟩ = some .nilFunc := (cell_of_row _ w.heap.size 3 _ 58 (0, 0) HF.out.res).trans rfl
  go_wp2_with fail
  refine (inBounds_says k 1 4 _).mono ?_
  rintro e w1 ⟨b, rfl, HV, hw⟩
  obtain rfl : b = false := by
    cases b with
    | false => rfl
    | true => exact absurd (HV.out.1 rfl) HKK.out
  subst hw
  clear HV
  go_wp2
  have q0 := HF.out.res
  have q1 := heap_setCell_same _ w.heap.size 0 _ 58 .nilFunc q0
  have q2 := heap_setCell_same _ w.heap.size 1 _ 58 .nilFunc q1
  have q3 := heap_setCell_same _ w.heap.size 2 _ 58 .nilFunc q2
  have q4 := heap_setCell_same _ w.heap.size 3 _ 58 .nilFunc q3
  try simp only [Exit.inBlock, Exit.then]
  refine bodyPost_ret (results_gr rfl _ w.heap.size false rfl rfl _ _ _ _ _ q4) rfl ⟨rfl, ?_⟩
  exact (((HF.out.below.setCell (by simp) _).setCell (by simp) _).setCell (by simp) _).setCell (by simp) _

end Go.Proofs.YtoncodoimnideaaGreatDoor

namespace Go.Proofs.YtoncodoimnideaaGreatDoor
open Go.RowKit

theorem below_box (t : Nat) (w : World) (g : GT) (a : Option Addr) (n c : Nat) : Below w.heap.size w (w.alloc (.cells #[.int .i64 g.kind, .string g.text, .int .i64 g.addr, .int .i64 g.bits, .slice a n c] t)) := (Below.refl _ _).alloc (Nat.le_refl _) _

set_option maxRecDepth 10000 in
set_option maxHeartbeats 1000000 in
theorem onlyText_any (g : GT) (a : Option Addr) (n c : Nat) (w : World) : Calls Tryz.prog 53 #[gnv g a n c] w fun e w' => e = .returned (.bool (g.addr == 0 && g.bits == 0 && (n : Int) == 0)) ∧ Below w.heap.size w w' := by
  have hbl := below_box 30 w g a n c
  unfold gnv
  cases h1 : (g.addr == 0) <;> cases h2 : (g.bits == 0) <;> cases h3 : ((n : Int) == 0)
  all_goals
    go_enter Tryz.func53, Tryz.ntmps53
    go_wp2
    go_ret
    exact ⟨rfl, hbl⟩

set_option maxRecDepth 10000 in
set_option maxHeartbeats 1000000 in
theorem onlyAddr_any (g : GT) (a : Option Addr) (n c : Nat) (w : World) : Calls Tryz.prog 60 #[gnv g a n c] w fun e w' => e = .returned (.bool (g.text.toList.isEmpty && (n : Int) == 0)) ∧ Below w.heap.size w w' := by
  have hbl := below_box 30 w g a n c
  unfold gnv
  cases h1 : g.text.toList.isEmpty <;> cases h3 : ((n : Int) == 0)
  all_goals
    go_enter Tryz.func60, Tryz.ntmps60
    go_wp2
    go_ret
    exact ⟨rfl, hbl⟩

set_option maxRecDepth 10000 in
set_option maxHeartbeats 1000000 in
theorem onlyName_any (g : GT) (a : Option Addr) (n c : Nat) (w : World) : Calls Tryz.prog 64 #[gnv g a n c] w fun e w' => e = .returned (.bool (g.text.toList.isEmpty && g.addr == 0 && g.bits == 0)) ∧ Below w.heap.size w w' := by
  have hbl := below_box 30 w g a n c
  unfold gnv
  cases h1 : g.text.toList.isEmpty <;> cases h2 : (g.addr == 0) <;> cases h3 : (g.bits == 0)
  all_goals
    go_enter Tryz.func64, Tryz.ntmps64
    go_wp2
    go_ret
    exact ⟨rfl, hbl⟩

set_option maxRecDepth 10000 in
set_option maxHeartbeats 1000000 in
theorem hostName_any (g : GT) (a : Option Addr) (n c : Nat) (w : World) (hm : MaxW w) : Calls Tryz.prog 54 #[gnv g a n c] w (SaysB (hostP g.text true) w) := by
  have hbl := below_box 30 w g a n c
  have HM : Hid (MaxW w) := hm
  clear hm
  unfold gnv
  go_enter Tryz.func54, Tryz.ntmps54
  go_wp2_with fail
  refine (implHostOk_any g.text true _ (HM.out.kept hbl)).mono ?_
  rintro e w2 ⟨b, rfl, HV, hb2⟩
  go_wp2
  go_ret
  exact ⟨b, rfl, HV, hbl.trans (hb2.mono hbl.size)⟩

set_option maxRecDepth 10000 in
set_option maxHeartbeats 1000000 in
theorem hostBase_any (g : GT) (a : Option Addr) (n c : Nat) (w : World) (hm : MaxW w) : Calls Tryz.prog 55 #[gnv g a n c] w (SaysB (hostP g.text false) w) := by
  have hbl := below_box 30 w g a n c
  have HM : Hid (MaxW w) := hm
  clear hm
  unfold gnv
  go_enter Tryz.func55, Tryz.ntmps55
  go_wp2_with fail
  refine (implHostOk_any g.text false _ (HM.out.kept hbl)).mono ?_
  rintro e w2 ⟨b, rfl, HV, hb2⟩
  go_wp2
  go_ret
  exact ⟨b, rfl, HV, hbl.trans (hb2.mono hbl.size)⟩

/-- What strings.Cut gives at a sign. -/
theorem cut_says (s : ByteArray) (cb : UInt8) (w : World) (hs : s.size ≤ 1048576) (hm : MaxW w) : Calls Tryz.prog 29 #[.string s, .string ⟨#[cb]⟩] w fun e w' => ∃ x y ok, e = .returned (.tuple #[.string x, .string y, .bool ok]) ∧
    Hid ((ok = true ∧ ∃ t, t < s.size ∧ cAt s t = (cb.toNat : Int) ∧ (∀ j, j < t → cAt s j ≠ (cb.toNat : Int)) ∧ x = s.extract 0 t ∧ y = s.extract (t + 1) s.size) ∨ (ok = false ∧ (∀ j, j < s.size → cAt s j ≠ (cb.toNat : Int)) ∧ x = s ∧ y = ByteArray.empty)) ∧ Below w.heap.size w w' := by
  obtain ⟨m, hm⟩ := hm
  refine (Tryz.strings_Cut s ⟨#[cb]⟩ m w (by omega) hm).mono ?_
  rintro e w1 ⟨rfl, nn, rfl⟩
  refine ⟨_, _, _, rfl, ?_, below_drewM (Below.refl _ _) nn⟩
  rcases index_one s cb s.size 0 (by omega) (fun j h => absurd h (Nat.not_lt_zero _)) with ⟨h1, _, h3⟩ | ⟨t, h1, h2, h3, h4, _⟩
  · obtain ⟨e1, e2, e3⟩ := Lib.cutB_miss s ⟨#[cb]⟩ h1
    exact .inr ⟨e3, h3, e1, e2⟩
  · obtain ⟨e1, e2, e3⟩ := Lib.cutB_hit s ⟨#[cb]⟩ t h1
    exact .inl ⟨e3, t, h2, h3, h4, e1, e2⟩

set_option maxRecDepth 10000 in
set_option maxHeartbeats 1000000 in
theorem mailName_any (g : GT) (a : Option Addr) (n c : Nat) (w : World) (hm : MaxW w) (hs : g.text.size ≤ 1048576) : Calls Tryz.prog 57 #[gnv g a n c] w (SaysB (mailP g.text) w) := by
  have hbl := below_box 30 w g a n c
  have HM : Hid (MaxW w) := hm
  clear hm
  unfold gnv
  go_enter Tryz.func57, Tryz.ntmps57
  go_wp2_with fail
  refine (cut_says g.text 64 _ hs (HM.out.kept hbl)).mono ?_
  rintro e w1 ⟨x, y, ok, rfl, HR, hb1⟩
  have B1 := hbl.trans (hb1.mono hbl.size)
  cases ok with
  | false =>
    have HN : Hid (¬ mailP g.text) := by
      show ¬ _
      rcases HR.out with ⟨h, _⟩ | ⟨_, h, _⟩
      · cases h
      · exact mailP_none h
    clear HR
    go_wp2
    go_ret
    exact saysB_f HN.out B1
  | true =>
    have HI : Hid (mailP g.text ↔ localP x ∧ hostP y false) := by
      show _ ↔ _
      rcases HR.out with ⟨_, t, h1, h2, h3, rfl, rfl⟩ | ⟨h, _⟩
      · exact mailP_iff h1 h2 h3
      · cases h
    have hxs : x.size ≤ g.text.size := by
      rcases HR.out with ⟨_, t, _, _, _, rfl, _⟩ | ⟨h, _⟩
      · exact ext_le _ _ _
      · cases h
    clear HR
    go_wp2_with fail
    refine (wordMail_any x _ (by omega)).mono ?_
    rintro e w2 ⟨b1, rfl, HV1, hw2⟩
    subst hw2
    cases b1 with
    | false =>
      have HN : Hid (¬ mailP g.text) := fun h => Bool.false_ne_true (HV1.out.2 (HI.out.1 h).1)
      clear HV1 HI
      go_wp2
      go_ret
      exact saysB_f HN.out B1
    | true =>
      have HI2 : Hid (mailP g.text ↔ hostP y false) := ⟨fun h => (HI.out.1 h).2, fun h => HI.out.2 ⟨HV1.out.1 rfl, h⟩⟩
      clear HV1 HI
      go_wp2_with fail
      refine (implHostOk_any y false _ (HM.out.kept B1)).mono ?_
      rintro e w3 ⟨b2, rfl, HV2, hb2⟩
      have B3 := B1.trans (hb2.mono B1.size)
      cases b2 with
      | false =>
        have HN : Hid (¬ mailP g.text) := fun h => Bool.false_ne_true (HV2.out.2 (HI2.out.1 h))
        clear HV2 HI2
        go_wp2
        go_ret
        exact saysB_f HN.out B3
      | true =>
        have HN : Hid (mailP g.text) := HI2.out.2 (HV2.out.1 rfl)
        clear HV2 HI2
        go_wp2
        go_ret
        exact saysB_t HN.out B3

set_option maxRecDepth 10000 in
set_option maxHeartbeats 1000000 in
theorem addrName_any (g : GT) (a : Option Addr) (n c : Nat) (w : World) : Calls Tryz.prog 61 #[gnv g a n c] w (SaysB ((0 ≤ g.addr ∧ g.addr ≤ 4294967295) ∧ g.bits = 0) w) := by
  have hbl := below_box 30 w g a n c
  unfold gnv
  go_enter Tryz.func61, Tryz.ntmps61
  go_wp2_with fail
  refine (inBounds_says g.addr 0 4294967295 _).mono ?_
  rintro e w2 ⟨b, rfl, HV, hw2⟩
  subst hw2
  cases b with
  | false =>
    have HN : Hid (¬ ((0 ≤ g.addr ∧ g.addr ≤ 4294967295) ∧ g.bits = 0)) := fun h => Bool.false_ne_true (HV.out.2 h.1)
    clear HV
    go_wp2
    go_ret
    exact saysB_f HN.out hbl
  | true =>
    by_cases h0 : g.bits = 0
    · have HN : Hid ((0 ≤ g.addr ∧ g.addr ≤ 4294967295) ∧ g.bits = 0) := ⟨HV.out.1 rfl, h0⟩
      have z : (g.bits == 0) = true := beq_iff_eq.2 h0
      clear HV h0
      go_wp2
      go_ret
      exact saysB_t HN.out hbl
    · have HN : Hid (¬ ((0 ≤ g.addr ∧ g.addr ≤ 4294967295) ∧ g.bits = 0)) := fun h => h0 h.2
      have z : (g.bits == 0) = false := beq_false_of_ne h0
      clear HV h0
      go_wp2
      go_ret
      exact saysB_f HN.out hbl

set_option maxRecDepth 10000 in
set_option maxHeartbeats 1000000 in
theorem partsName_any (g : GT) (a : Option Addr) (n c : Nat) (xs : List PT) (w : World) (h : Pts w a n xs) (hz : ∀ k, k < n → (xs.getD k default).val.size ≤ 1048576) : Calls Tryz.prog 65 #[gnv g a n c] w (SaysB (nameP xs ∧ 0 < xs.length) w) := by
  have hbl := below_box 30 w g a n c
  have hbx := boxG_new 30 w g a n c
  have IN := implNameOk_any a n c xs _ (h.kept hbl) hz
  have hl := h.len
  clear h hz
  unfold gnv
  unfold nmv at IN
  go_enter Tryz.func65, Tryz.ntmps65
  go_wp2_with fail
  refine IN.mono ?_
  rintro e w2 ⟨b, rfl, HV, hb2⟩
  obtain ⟨_, _, _, _, p4⟩ := (hbx.kept hb2).cells
  have B2 := hbl.trans (hb2.mono hbl.size)
  clear IN hbx
  cases b with
  | false =>
    have HN : Hid (¬ (nameP xs ∧ 0 < xs.length)) := fun q => Bool.false_ne_true (HV.out.2 q.1)
    clear HV
    go_wp2
    go_ret
    exact saysB_f HN.out B2
  | true =>
    by_cases hn0 : 0 < n
    · have HN : Hid (nameP xs ∧ 0 < xs.length) := ⟨HV.out.1 rfl, by rw [hl]; exact hn0⟩
      have zn : decide ((0 : Int) < (n : Int)) = true := decide_eq_true (by omega)
      clear HV
      go_wp2
      go_ret
      exact saysB_t HN.out B2
    · have HN : Hid (¬ (nameP xs ∧ 0 < xs.length)) := fun q => hn0 (by rw [← hl]; exact q.2)
      have zn : decide ((0 : Int) < (n : Int)) = false := decide_eq_false (by omega)
      clear HV
      go_wp2
      go_ret
      exact saysB_f HN.out B2

set_option maxRecDepth 10000 in
set_option maxHeartbeats 1000000 in
theorem partsBase_any (g : GT) (a : Option Addr) (n c : Nat) (xs : List PT) (w : World) (h : Pts w a n xs) (hz : ∀ k, k < n → (xs.getD k default).val.size ≤ 1048576) : Calls Tryz.prog 66 #[gnv g a n c] w (SaysB (nameP xs) w) := by
  have hbl := below_box 30 w g a n c
  have IN := implNameOk_any a n c xs _ (h.kept hbl) hz
  clear h hz
  unfold gnv
  unfold nmv at IN
  go_enter Tryz.func66, Tryz.ntmps66
  go_wp2_with fail
  refine IN.mono ?_
  rintro e w2 ⟨b, rfl, HV, hb2⟩
  have B2 := hbl.trans (hb2.mono hbl.size)
  clear IN
  go_wp2
  go_ret
  exact ⟨b, rfl, HV, B2⟩

end Go.Proofs.YtoncodoimnideaaGreatDoor

namespace Go.Proofs.YtoncodoimnideaaGreatDoor
open Go.RowKit

set_option maxRecDepth 10000 in
set_option maxHeartbeats 1000000 in
theorem highestBits_any (x b : Int) (w : World) (h2 : 0 ≤ b) (h3 : b ≤ 32) : Calls Tryz.prog 87 #[.int .i64 x, .int .i64 b] w fun e w' => e = .returned (.int .i64 (x / (2 : Int) ^ (32 - b).toNat)) ∧ w' = w := by
  go_enter Tryz.func87, Tryz.ntmps87
  go_wp2
  go_ret
  exact ⟨rfl, rfl⟩

set_option maxRecDepth 10000 in
set_option maxHeartbeats 200000 in
theorem inB_t (x lo hi : Int) (w : World) (h : lo ≤ x ∧ x ≤ hi) : Calls Tryz.prog 68 #[.int .i64 x, .int .i64 lo, .int .i64 hi] w fun e w' => e = .returned (.bool true) ∧ w' = w :=
  (inBounds_says x lo hi w).mono fun e w' ⟨b, h1, h2, h3⟩ => by
    obtain rfl : b = true := h2.out.2 h
    exact ⟨h1, h3.symm⟩
theorem inB_f (x lo hi : Int) (w : World) (h : ¬ (lo ≤ x ∧ x ≤ hi)) : Calls Tryz.prog 68 #[.int .i64 x, .int .i64 lo, .int .i64 hi] w fun e w' => e = .returned (.bool false) ∧ w' = w :=
  (inBounds_says x lo hi w).mono fun e w' ⟨b, h1, h2, h3⟩ => by
    cases b with
    | false => exact ⟨h1, h3.symm⟩
    | true => exact absurd (h2.out.1 rfl) h

theorem back_iff (x : Int) (k : Nat) (h0 : 0 ≤ x) (h1 : x ≤ 4294967295) : (wrap64 (x / (2 : Int) ^ k * (2 : Int) ^ k) == x) = true ↔ x % (2 : Int) ^ k = 0 := by
  obtain ⟨m, hm⟩ : ∃ m : Int, m = (2 : Int) ^ k := ⟨_, rfl⟩
  have hp : 0 < m := by rw [hm]; exact Int.pow_pos (by decide)
  rw [← hm]
  have e := Int.mul_ediv_add_emod x m
  have e1 := Int.emod_nonneg x (Int.ne_of_gt hp)
  have e2 : 0 ≤ m * (x / m) := Int.mul_nonneg (Int.le_of_lt hp) (Int.ediv_nonneg h0 (Int.le_of_lt hp))
  rw [Int.mul_comm m] at e e2
  obtain ⟨y, hy⟩ : ∃ y, y = x / m * m := ⟨_, rfl⟩
  rw [← hy] at e e2 ⊢
  have hw : wrap64 y = y := by unfold wrap64; omega
  rw [hw, beq_iff_eq]
  omega

set_option maxRecDepth 10000 in
set_option maxHeartbeats 2000000 in
theorem addrBase_any (g : GT) (a : Option Addr) (n c : Nat) (w : World) : Calls Tryz.prog 62 #[gnv g a n c] w (SaysB ((0 ≤ g.addr ∧ g.addr ≤ 4294967295) ∧ (0 ≤ g.bits ∧ g.bits ≤ 32) ∧ g.addr % (2 : Int) ^ (32 - g.bits).toNat = 0) w) := by
  have hbl := below_box 30 w g a n c
  unfold gnv
  obtain ⟨P, hP⟩ : ∃ P, P = ((0 ≤ g.addr ∧ g.addr ≤ 4294967295) ∧ (0 ≤ g.bits ∧ g.bits ≤ 32) ∧ g.addr % (2 : Int) ^ (32 - g.bits).toNat = 0) := ⟨_, rfl⟩
  rw [← hP]
  have HP : Hid (P ↔ ((0 ≤ g.addr ∧ g.addr ≤ 4294967295) ∧ (0 ≤ g.bits ∧ g.bits ≤ 32) ∧ g.addr % (2 : Int) ^ (32 - g.bits).toNat = 0)) := by show P ↔ _; rw [hP]
  clear hP
  by_cases h1 : 0 ≤ g.addr ∧ g.addr ≤ 4294967295
  · have C1 := fun w => inB_t g.addr 0 4294967295 w h1
    by_cases h2 : 0 ≤ g.bits ∧ g.bits ≤ 32
    · have C2 := fun w => inB_t g.bits 0 32 w h2
      have C3 := fun w => highestBits_any g.addr g.bits w h2.1 h2.2
      have HI : Hid ((wrap64 (g.addr / (2 : Int) ^ (32 - g.bits).toNat * (2 : Int) ^ (32 - g.bits).toNat) == g.addr) = true ↔ P) := by
        show _ ↔ P
        rw [back_iff g.addr _ h1.1 h1.2, HP.out]
        exact ⟨fun q => ⟨h1, h2, q⟩, fun q => q.2.2⟩
      obtain ⟨h10, h11⟩ := h1
      obtain ⟨h20, h21⟩ := h2
      clear HP
      go_enter Tryz.func62, Tryz.ntmps62
      go_wp2_with fail
      go_quiet (first
        | (go_at_call_of 68 g.addr; refine Calls.quiet_of_same (C1 _))
        | (go_at_call_of 68 g.bits; refine Calls.quiet_of_same (C2 _))
        | (go_at_call 87; refine Calls.quiet_of_same (C3 _)))
      clear C1 C2 C3
      go_wp2
      go_ret
      exact ⟨_, rfl, HI, below_drewM hbl _⟩
    · have C2 := fun w => inB_f g.bits 0 32 w h2
      have HN : Hid (¬ P) := by show ¬ P; rw [HP.out]; exact fun q => h2 q.2.1
      clear HP h2 h1
      go_enter Tryz.func62, Tryz.ntmps62
      go_wp2_with fail
      go_quiet (first
        | (go_at_call_of 68 g.addr; refine Calls.quiet_of_same (C1 _))
        | (go_at_call_of 68 g.bits; refine Calls.quiet_of_same (C2 _)))
      clear C1 C2
      go_wp2
      go_ret
      exact saysB_f HN.out (below_drewM hbl _)
  · have C1 := fun w => inB_f g.addr 0 4294967295 w h1
    have HN : Hid (¬ P) := by show ¬ P; rw [HP.out]; exact fun q => h1 q.1
    clear HP h1
    go_enter Tryz.func62, Tryz.ntmps62
    go_wp2_with fail
    go_quiet ((go_at_call_of 68 g.addr; refine Calls.quiet_of_same (C1 _)))
    clear C1
    go_wp2
    go_ret
    exact saysB_f HN.out (below_drewM hbl _)

theorem host_nodot {s : ByteArray} {wild : Bool} (h : hostP s wild) : cAt s 0 ≠ 46 := by
  intro h0
  have hp := hostP_pos h
  obtain ⟨j, r, e, hj, hno, hr⟩ := cut_head s 46
  have hj0 : j = 0 := by
    rcases Nat.eq_zero_or_pos j with hz | hz
    · exact hz
    · exact absurd h0 (hno 0 hz)
  subst hj0
  have hsz : (s.extract 0 0).size = 0 := ext_sz s 0 0 (Nat.zero_le _)
  have h2 := h.2.2 0 (cutAt_len s 46).1
  rw [e] at h2
  have hg : (s.extract 0 0 :: r).getD 0 ByteArray.empty = s.extract 0 0 := rfl
  rcases h2 with ⟨_, _, h3, _⟩ | ⟨⟨h3, _⟩, _⟩
  · rw [hg] at h3
    have h4 : (s.extract 0 0).size = 1 := by rw [h3]; rfl
    omega
  · rw [hg] at h3
    omega
theorem pre_dot (s : ByteArray) : Lib.hasPrefix s.data.toList [46] = true ↔ 0 < s.size ∧ cAt s 0 = 46 := by
  unfold Lib.hasPrefix cAt
  rw [Lib.size_eq]
  rcases h : s.data.toList with _ | ⟨a, l⟩
  · simp
  · simp only [List.isPrefixOf, Bool.and_true, beq_iff_eq, List.length_cons, List.getD_cons_zero]
    constructor
    · intro h1
      subst h1
      exact ⟨by omega, rfl⟩
    · rintro ⟨_, h1⟩
      exact UInt8.toNat_inj.1 (by have : (46 : UInt8).toNat = 46 := rfl; omega)
theorem trim_dot (s : ByteArray) : (⟨(Lib.trimPrefix s.data.toList [46]).toArray⟩ : ByteArray) = if 0 < s.size ∧ cAt s 0 = 46 then s.extract 1 s.size else s := by
  unfold Lib.trimPrefix
  by_cases h : Lib.hasPrefix s.data.toList [46] = true
  · rw [if_pos h, if_pos ((pre_dot s).1 h), Lib.extract_eq, Lib.size_eq]
    congr 2
    rw [List.take_of_length_le (by rw [List.length_drop]; omega)]
    rfl
  · rw [if_neg h, if_neg (fun q => h ((pre_dot s).2 q)), Lib.mk_data]
theorem mbase_iff (s : ByteArray) : mbaseP s ↔ mailP s ∨ hostP ⟨(Lib.trimPrefix s.data.toList [46]).toArray⟩ false := by
  unfold mbaseP
  rw [trim_dot]
  by_cases h : 0 < s.size ∧ cAt s 0 = 46
  · rw [if_pos h]
    constructor
    · rintro (q | q | q)
      · exact .inl q
      · exact absurd h.2 (host_nodot q)
      · exact .inr q.2.2
    · rintro (q | q)
      · exact .inl q
      · exact .inr (.inr ⟨h.1, h.2, q⟩)
  · rw [if_neg h]
    constructor
    · rintro (q | q | q)
      · exact .inl q
      · exact .inr q
      · exact absurd ⟨q.1, q.2.1⟩ h
    · rintro (q | q)
      · exact .inl q
      · exact .inr (.inl q)

set_option maxRecDepth 10000 in
set_option maxHeartbeats 1000000 in
theorem mailBase_any (g : GT) (a : Option Addr) (n c : Nat) (w : World) (hm : MaxW w) (hs : g.text.size ≤ 1048576) : Calls Tryz.prog 58 #[gnv g a n c] w (SaysB (mbaseP g.text) w) := by
  have hbl := below_box 30 w g a n c
  have hbx := boxG_new 30 w g a n c
  have HM : Hid (MaxW w) := hm
  clear hm
  obtain ⟨P, hP⟩ : ∃ P, P = mbaseP g.text := ⟨_, rfl⟩
  rw [← hP]
  have HI : Hid (P ↔ mailP g.text ∨ hostP ⟨(Lib.trimPrefix g.text.data.toList [46]).toArray⟩ false) := by show P ↔ _; rw [hP]; exact mbase_iff _
  clear hP
  have MN := mailName_any g a n c _ (HM.out.kept hbl) hs
  unfold gnv at MN ⊢
  go_enter Tryz.func58, Tryz.ntmps58
  go_wp2_with fail
  refine MN.mono ?_
  rintro e w1 ⟨b, rfl, HV, hb1⟩
  have B1 := hbl.trans (hb1.mono hbl.size)
  clear MN
  cases b with
  | true =>
    have HN : Hid P := HI.out.2 (.inl (HV.out.1 rfl))
    clear HV HI
    go_wp2
    go_ret
    exact saysB_t HN.out B1
  | false =>
    obtain ⟨p0, p1, p2, p3, p4⟩ := (hbx.kept hb1).cells
    obtain ⟨y, hy⟩ : ∃ y : ByteArray, y = ⟨(Lib.trimPrefix g.text.data.toList [46]).toArray⟩ := ⟨_, rfl⟩
    rw [← hy] at HI
    have HI2 : Hid (P ↔ hostP y false) := ⟨fun q => (HI.out.1 q).resolve_left (fun h => Bool.false_ne_true (HV.out.2 h)), fun q => HI.out.2 (.inr q)⟩
    clear HI HV
    go_wp2_with fail
    refine (Tryz.strings_TrimPrefix g.text ⟨#[46]⟩ _).mono ?_
    rintro e w2 ⟨rfl, hw2⟩
    replace hw2 := hw2.symm
    subst hw2
    have hy2 : (⟨(Lib.trimPrefix g.text.data.toList (⟨#[46]⟩ : ByteArray).data.toList).toArray⟩ : ByteArray) = y := hy.symm
    rw [hy2]
    clear hy hy2
    go_wp2_with fail
    refine (implHostOk_any y false _ (HM.out.kept B1)).mono ?_
    rintro e w3 ⟨b2, rfl, HV2, hb3⟩
    have B3 := B1.trans (hb3.mono B1.size)
    go_wp2
    go_ret
    exact ⟨b2, rfl, HV2.out.trans HI2.out.symm, B3⟩

end Go.Proofs.YtoncodoimnideaaGreatDoor

namespace Go.Proofs.YtoncodoimnideaaGreatDoor
open Go.RowKit

theorem wrap_small (n : Int) (h0 : 0 ≤ n) (h1 : n < 2 ^ 63) : IntKind.i64.wrap n = n := by
  rw [IntKind.wrap_i64]
  omega
theorem mask_iff (x b : Int) (h0 : 0 ≤ x) (h1 : x ≤ 4294967295) (h2 : 0 ≤ b) (h3 : b ≤ 32) : (bits .and .i64 x ((2 : Int) ^ (32 - b).toNat - 1) == 0) = true ↔ x % (2 : Int) ^ (32 - b).toNat = 0 := by
  rw [bits_mask .i64 63 (by decide) wrap_small (32 - b).toNat (by omega) x h0 (by omega), beq_iff_eq]
theorem pow_bd (b : Int) (h2 : 0 ≤ b) (h3 : b ≤ 32) : 1 ≤ (2 : Int) ^ (32 - b).toNat ∧ (2 : Int) ^ (32 - b).toNat ≤ 4294967296 := by
  have h1 : (2 : Nat) ^ (32 - b).toNat ≤ 2 ^ 32 := Nat.pow_le_pow_right (by decide) (by omega)
  have h4 : 0 < (2 : Nat) ^ (32 - b).toNat := Nat.two_pow_pos _
  have e : ((2 ^ (32 - b).toNat : Nat) : Int) = (2 : Int) ^ (32 - b).toNat := by push_cast; rfl
  omega

theorem baseP_1 {g : GT} {xs : List PT} (hk : g.kind = 1) (hb : bareB g xs.length = true) (h0 : g.bits = 0) : baseP g xs ↔ hostP g.text false := by
  obtain ⟨q1, q2⟩ := bare_12 hb (.inl hk)
  unfold baseP
  constructor
  · rintro (⟨_, _, h⟩ | ⟨h, _⟩ | ⟨h, _⟩ | ⟨h, _⟩)
    · exact h
    all_goals omega
  · exact fun h => .inl ⟨hk, ⟨q1, h0, q2⟩, h⟩
theorem baseP_2 {g : GT} {xs : List PT} (hk : g.kind = 2) (hb : bareB g xs.length = true) (h0 : g.bits = 0) : baseP g xs ↔ mbaseP g.text := by
  obtain ⟨q1, q2⟩ := bare_12 hb (.inr hk)
  unfold baseP
  constructor
  · rintro (⟨h, _⟩ | ⟨_, _, h⟩ | ⟨h, _⟩ | ⟨h, _⟩)
    · omega
    · exact h
    all_goals omega
  · exact fun h => .inr (.inl ⟨hk, ⟨q1, h0, q2⟩, h⟩)
theorem baseP_3 {g : GT} {xs : List PT} (hk : g.kind = 3) (hb : bareB g xs.length = true) : baseP g xs ↔ ((0 ≤ g.addr ∧ g.addr ≤ 4294967295) ∧ (0 ≤ g.bits ∧ g.bits ≤ 32) ∧ g.addr % (2 : Int) ^ (32 - g.bits).toNat = 0) := by
  obtain ⟨q1, q2⟩ := bare_3 hb hk
  unfold baseP
  constructor
  · rintro (⟨h, _⟩ | ⟨h, _⟩ | ⟨_, _, h⟩ | ⟨h, _⟩)
    · omega
    · omega
    · exact h
    · omega
  · exact fun h => .inr (.inr (.inl ⟨hk, ⟨q1, q2⟩, h⟩))
theorem baseP_4 {g : GT} {xs : List PT} (hk : g.kind = 4) (hb : bareB g xs.length = true) (h0 : g.bits = 0) : baseP g xs ↔ nameP xs := by
  obtain ⟨q1, q2⟩ := bare_4 hb hk
  unfold baseP
  constructor
  · rintro (⟨h, _⟩ | ⟨h, _⟩ | ⟨h, _⟩ | ⟨_, _, h⟩)
    · omega
    · omega
    · omega
    · exact h
  · exact fun h => .inr (.inr (.inr ⟨hk, ⟨q1, q2, h0⟩, h⟩))
theorem baseP_bits {g : GT} {xs : List PT} (h : baseP g xs) (hk : g.kind ≠ 3) : g.bits = 0 := by
  rcases h with ⟨_, ⟨_, h, _⟩, _⟩ | ⟨_, ⟨_, h, _⟩, _⟩ | ⟨h, _⟩ | ⟨_, ⟨_, _, h⟩, _⟩
  · exact h
  · exact h
  · exact absurd h hk
  · exact h

set_option maxRecDepth 10000 in
set_option maxHeartbeats 8000000 in
theorem specBaseOk_any (g : GT) (a : Option Addr) (n c : Nat) (xs : List PT) (w : World) (h : Pts w a n xs) (hz : ∀ k, k < n → (xs.getD k default).val.size ≤ 1048576) (hs : g.text.size ≤ 1048576) :
    Calls Tryz.prog 15 #[gnv g a n c] w (SaysB (baseP g xs) w) := by
  obtain ⟨P, hP⟩ : ∃ P, P = baseP g xs := ⟨_, rfl⟩
  rw [← hP]
  have HP : Hid (P = baseP g xs) := hP
  have HK : Hid (Pts w a n xs) := h
  have HZ : Hid (_) := hz
  have hl := h.len
  have hmx := h.max
  clear hP h hz
  have hbl := below_box 30 w g a n c
  have hbx := boxG_new 30 w g a n c
  have LB := l6Bare_any g a n c
  unfold gnv at LB ⊢
  go_enter Tryz.func15, Tryz.ntmps15
  go_wp2_with fail
  refine (LB _).mono ?_
  rintro e w1 ⟨rfl, hb1⟩
  have B1 : Below w.heap.size w w1 := hbl.trans (hb1.mono hbl.size)
  obtain ⟨p0, p1, p2, p3, p4⟩ := (hbx.kept hb1).cells
  have hlt : w.heap.size < w1.heap.size := Nat.lt_of_lt_of_le (by simp) hb1.size
  have HBX : Hid (_) := hbx.kept hb1
  obtain ⟨B, hB⟩ : ∃ B, B = bareB g n := ⟨_, rfl⟩
  rw [← hB]
  clear LB hbx hbl hb1
  cases B with
  | false =>
    have HN : Hid (¬ P) := by show ¬ P; rw [HP.out]; exact (bare_f (by rw [hl]; exact hB.symm)).2
    clear hB HP HK HZ
    go_wp2
    go_ret
    exact saysB_f HN.out B1
  | true =>
    have HBB : Hid (bareB g xs.length = true) := by show _ = true; rw [hl]; exact hB.symm
    clear hB
    by_cases k3 : g.kind = 3
    · have HI : Hid (P ↔ ((0 ≤ g.addr ∧ g.addr ≤ 4294967295) ∧ (0 ≤ g.bits ∧ g.bits ≤ 32) ∧ g.addr % (2 : Int) ^ (32 - g.bits).toNat = 0)) := by show P ↔ _; rw [HP.out]; exact baseP_3 k3 HBB.out
      have z3 : (g.kind != 3) = false := by simp [k3]
      have e1 : (g.kind == 1) = false := beq_false_of_ne (by omega)
      have e2 : (g.kind == 2) = false := beq_false_of_ne (by omega)
      have e3 : (g.kind == 3) = true := beq_iff_eq.2 k3
      clear HP HK HZ HBB k3
      cases hbz : (g.bits != 0)
      all_goals
        go_wp2_with fail
        refine (l1In_says g.addr 0 4294967295 _).mono ?_
        rintro e w2 ⟨b1, rfl, HV1, hw2⟩
        subst hw2
        cases b1 with
        | false =>
          have HN : Hid (¬ P) := fun q => Bool.false_ne_true (HV1.out.2 (HI.out.1 q).1)
          clear HV1 HI
          go_wp2
          go_ret
          exact saysB_f HN.out B1
        | true =>
          have h1 := HV1.out.1 rfl
          clear HV1
          go_wp2_with fail
          refine (l1In_says g.bits 0 32 _).mono ?_
          rintro e w2 ⟨b2, rfl, HV2, hw2⟩
          subst hw2
          cases b2 with
          | false =>
            have HN : Hid (¬ P) := fun q => Bool.false_ne_true (HV2.out.2 (HI.out.1 q).2.1)
            clear HV2 HI h1
            go_wp2
            go_ret
            exact saysB_f HN.out B1
          | true =>
            have h2 := HV2.out.1 rfl
            have hpb := pow_bd g.bits h2.1 h2.2
            have HI2 : Hid ((bits .and .i64 g.addr ((2 : Int) ^ (32 - g.bits).toNat - 1) == 0) = true ↔ P) := by
              show _ ↔ P
              rw [mask_iff g.addr g.bits h1.1 h1.2 h2.1 h2.2, HI.out]
              exact ⟨fun q => ⟨h1, h2, q⟩, fun q => q.2.2⟩
            obtain ⟨h10, h11⟩ := h1
            obtain ⟨h20, h21⟩ := h2
            obtain ⟨hp0, hp1⟩ := hpb
            clear HV2 HI
            go_wp2
            go_ret
            exact ⟨_, rfl, HI2, B1⟩
    have z3 : (g.kind != 3) = true := bne_iff_ne.2 k3
    have e3 : (g.kind == 3) = false := beq_false_of_ne k3
    by_cases hb0 : g.bits = 0
    · have zb : (g.bits != 0) = false := by simp [hb0]
      by_cases k1 : g.kind = 1
      · have HI : Hid (P ↔ hostP g.text false) := by show P ↔ _; rw [HP.out]; exact baseP_1 k1 HBB.out hb0
        have e1 : (g.kind == 1) = true := beq_iff_eq.2 k1
        clear HP HK HZ HBB hb0 k1 k3
        go_wp2_with fail
        refine (specHostOk_any g.text false _).mono ?_
        rintro e w2 ⟨b, rfl, HV, hb2⟩
        have B2 : Below w.heap.size w w2 := B1.trans (hb2.mono B1.size)
        go_wp2
        go_ret
        exact ⟨b, rfl, HV.out.trans HI.out.symm, B2⟩
      have e1 : (g.kind == 1) = false := beq_false_of_ne k1
      by_cases k2 : g.kind = 2
      · have HI : Hid (P ↔ mbaseP g.text) := by show P ↔ _; rw [HP.out]; exact baseP_2 k2 HBB.out hb0
        have e2 : (g.kind == 2) = true := beq_iff_eq.2 k2
        clear HP HK HZ HBB hb0 k1 k2 k3
        go_wp2_with fail
        refine (l6MailOk_any g.text _ hs).mono ?_
        rintro e w2 ⟨b, rfl, HV, hb2⟩
        have B2 : Below w.heap.size w w2 := B1.trans (hb2.mono B1.size)
        have HBX2 : Hid (_) := HBX.out.kept hb2
        clear HBX p0 p1 p2 p3 p4 hb2
        cases b with
        | true =>
          have HN : Hid P := HI.out.2 (.inl (HV.out.1 rfl))
          clear HV HI
          go_wp2
          go_ret
          exact saysB_t HN.out B2
        | false =>
          obtain ⟨p0, p1, p2, p3, p4⟩ := HBX2.out.cells
          go_wp2_with fail
          refine (specHostOk_any g.text false _).mono ?_
          rintro e w3 ⟨b3, rfl, HV3, hb3⟩
          have B3 : Below w.heap.size w w3 := B2.trans (hb3.mono B2.size)
          have HBX3 : Hid (_) := HBX2.out.kept hb3
          clear p0 p1 p2 p3 p4 hb3 HBX2
          cases b3 with
          | true =>
            have HN : Hid P := HI.out.2 (.inr (.inl (HV3.out.1 rfl)))
            clear HV HI HV3
            go_wp2
            go_ret
            exact saysB_t HN.out B3
          | false =>
            obtain ⟨p0, p1, p2, p3, p4⟩ := HBX3.out.cells
            have HI3 : Hid (P ↔ (0 < g.text.size ∧ cAt g.text 0 = 46 ∧ hostP (g.text.extract 1 g.text.size) false)) := by
              show P ↔ _
              rw [HI.out]
              constructor
              · rintro (q | q | q)
                · exact absurd (HV.out.2 q) Bool.false_ne_true
                · exact absurd (HV3.out.2 q) Bool.false_ne_true
                · exact q
              · exact fun q => .inr (.inr q)
            clear HV HV3 HI
            by_cases hp : 0 < g.text.size
            · have zp : decide ((0 : Int) < (g.text.size : Int)) = true := decide_eq_true (by omega)
              have hx := cAt_get g.text 0 hp
              by_cases hd : (g.text[0].toNat : Int) = 46
              · have zd : ((g.text[0].toNat : Int) == 46) = true := beq_iff_eq.2 hd
                have HI4 : Hid (P ↔ hostP (g.text.extract 1 g.text.size) false) := ⟨fun q => (HI3.out.1 q).2.2, fun q => HI3.out.2 ⟨hp, hx.trans hd, q⟩⟩
                clear HI3 hx hd
                go_wp2_with fail
                refine (specHostOk_any (g.text.extract 1 g.text.size) false _).mono ?_
                rintro e w4 ⟨b4, rfl, HV4, hb4⟩
                have B4 : Below w.heap.size w w4 := B3.trans (hb4.mono B3.size)
                cases b4 with
                | true =>
                  have HN : Hid P := HI4.out.2 (HV4.out.1 rfl)
                  clear HV4 HI4
                  go_wp2
                  go_ret
                  exact saysB_t HN.out B4
                | false =>
                  have HN : Hid (¬ P) := fun q => Bool.false_ne_true (HV4.out.2 (HI4.out.1 q))
                  clear HV4 HI4
                  go_wp2
                  go_ret
                  exact saysB_f HN.out B4
              · have zd : ((g.text[0].toNat : Int) == 46) = false := beq_false_of_ne hd
                have HN : Hid (¬ P) := fun q => hd (hx.symm.trans (HI3.out.1 q).2.1)
                clear HI3 hx hd
                go_wp2
                go_ret
                exact saysB_f HN.out B3
            · have zp : decide ((0 : Int) < (g.text.size : Int)) = false := decide_eq_false (by omega)
              have HN : Hid (¬ P) := fun q => hp (HI3.out.1 q).1
              clear HI3
              go_wp2
              go_ret
              exact saysB_f HN.out B3
      have e2 : (g.kind == 2) = false := beq_false_of_ne k2
      by_cases k4 : g.kind = 4
      · have HI : Hid (P ↔ nameP xs) := by show P ↔ _; rw [HP.out]; exact baseP_4 k4 HBB.out hb0
        have e4 : (g.kind == 4) = true := beq_iff_eq.2 k4
        clear HP HBB hb0 k1 k2 k3 k4
        have SN := specNameOk_any a n c xs w1 (HK.out.kept B1) HZ.out
        unfold nmv at SN
        go_wp2_with fail
        refine SN.mono ?_
        rintro e w2 ⟨b, rfl, HV, hb2⟩
        have B2 : Below w.heap.size w w2 := B1.trans (hb2.mono B1.size)
        clear SN HK HZ
        go_wp2
        go_ret
        exact ⟨b, rfl, HV.out.trans HI.out.symm, B2⟩
      · have e4 : (g.kind == 4) = false := beq_false_of_ne k4
        have HN : Hid (¬ P) := by show ¬ P; rw [HP.out]; intro q; rcases baseP_kind q with q | q | q | q <;> omega
        clear HP HK HZ HBB hb0 k1 k2 k3 k4
        go_wp2
        go_ret
        exact saysB_f HN.out B1
    · have zb : (g.bits != 0) = true := bne_iff_ne.2 hb0
      have HN : Hid (¬ P) := by show ¬ P; rw [HP.out]; exact fun q => hb0 (baseP_bits q k3)
      clear HP HK HZ HBB hb0 k3
      go_wp2
      go_ret
      exact saysB_f HN.out B1

end Go.Proofs.YtoncodoimnideaaGreatDoor

namespace Go.Proofs.YtoncodoimnideaaGreatDoor
open Go.RowKit

def endsP (s e : ByteArray) : Prop := e.size ≤ s.size ∧ s.extract (s.size - e.size) s.size = e
theorem suffix_iff (s e : ByteArray) : Lib.hasSuffix s.data.toList e.data.toList = true ↔ endsP s e := by
  rw [← Lib.hasSuffix_raw]
  unfold endsP
  rw [Bool.and_eq_true, decide_eq_true_eq, toList_same]
def unstar (s : ByteArray) : ByteArray := if cAt s 0 = 42 then s.extract 2 s.size else s
def relH (t b : ByteArray) : Prop := unstar t = b ∨ endsP (unstar t) (⟨#[46]⟩ ++ b)
def relM (t b : ByteArray) : Prop := (cAt b 0 = 46 ∧ endsP (bh t 64) b) ∨ (cAt b 0 ≠ 46 ∧ (t = b ∨ bh t 64 = b))
def relA (x y k : Int) : Prop := x / (2 : Int) ^ (32 - k).toNat = y / (2 : Int) ^ (32 - k).toNat
def withinP (g : GT) (xs : List PT) (b : GT) (ys : List PT) : Prop := genP g xs ∧ baseP b ys ∧ g.kind = b.kind ∧
  ((g.kind = 1 ∧ relH g.text b.text) ∨ (g.kind = 2 ∧ relM g.text b.text) ∨ (g.kind = 3 ∧ relA g.addr b.addr b.bits) ∨ (g.kind = 4 ∧ underP xs ys))

theorem mail_bh {s x y : ByteArray} (h : cutAt s 64 = [x, y]) : y = bh s 64 ∧ ∃ t, t < s.size ∧ cAt s t = 64 ∧ x = s.extract 0 t := by
  rcases index_one s 64 s.size 0 (by omega) (fun j h => absurd h (Nat.not_lt_zero _)) with ⟨_, _, h3⟩ | ⟨t, _, h2, h3, h4, h5⟩
  · have h3' : ∀ j, j < s.size → cAt s j ≠ 64 := h3
    rw [cut_none h3'] at h
    cases h
  · have h3' : cAt s t = 64 := h3
    rw [cut_hit h2 h3' h4] at h
    have e1 := (List.cons.inj h).1
    have e2 := (List.cons.inj h).2
    obtain ⟨j, r, e3, _, _, _, h7⟩ := pcs_head s 64 (s.size - (t + 1)) (t + 1) (t + 1) (by omega) (Nat.le_refl _)
    rw [e3] at e2
    have e4 := (List.cons.inj e2).1
    have e5 := (List.cons.inj e2).2
    rcases h7 with ⟨_, h8⟩ | ⟨h8, _⟩
    · refine ⟨?_, t, h2, h3', e1.symm⟩
      rw [h8] at e4
      exact e4.symm.trans (h5.symm)
    · exact absurd e5 h8
theorem mail_host {s : ByteArray} (h : mailP s) : hostP (bh s 64) false := by
  obtain ⟨a, b, e, _, h2⟩ := h
  rw [← (mail_bh e).1]
  exact h2
theorem mail_has {s : ByteArray} (h : mailP s) : ∃ t, t < s.size ∧ cAt s t = 64 := by
  obtain ⟨a, b, e, _, _⟩ := h
  obtain ⟨_, t, h1, h2, _⟩ := mail_bh e
  exact ⟨t, h1, h2⟩
theorem mail_first {s : ByteArray} (h : mailP s) : 0 < s.size ∧ cAt s 0 ≠ 46 := by
  obtain ⟨a, b, e, h1, _⟩ := h
  obtain ⟨_, t, h2, h3, h4⟩ := mail_bh e
  have hs := h1.1.1
  rw [h4, ext_sz s 0 t (by omega)] at hs
  refine ⟨by omega, ?_⟩
  have h5 := h1.2 0 (Nat.lt_of_lt_of_le (Nat.zero_lt_one) h1.1.1)
  rw [h4, ext_cAt s 0 t 0 (by omega)] at h5
  intro q
  rw [show (0 : Nat) + 0 = 0 from rfl, q] at h5
  rcases h5 with h5 | h5 <;> omega
theorem mbase_pos {s : ByteArray} (h : mbaseP s) : 0 < s.size := by
  rcases h with h | h | h
  · exact (mail_first h).1
  · exact hostP_pos h
  · exact h.1
theorem mbase_at {s : ByteArray} (h : mbaseP s) {j : Nat} (hj : j < s.size) (hc : cAt s j = 64) : mailP s := by
  rcases h with h | h | ⟨h0, h1, h2⟩
  · exact h
  · exact absurd hc (host_no64 h j hj)
  · rcases Nat.eq_zero_or_pos j with e | e
    · subst e; rw [h1] at hc; omega
    · have h3 := host_no64 h2 (j - 1) (by rw [ext_sz s 1 s.size (Nat.le_refl _)]; omega)
      rw [ext_cAt s 1 s.size (j - 1) (by omega), show 1 + (j - 1) = j by omega] at h3
      exact absurd hc h3
/-- What the program asks of a mail address and a base. -/
theorem relM_at {t b : ByteArray} (ht : mailP t) (hb : mbaseP b) {j : Nat} (hj : j < b.size) (hc : cAt b j = 64) : relM t b ↔ t = b := by
  have hm := mbase_at hb hj hc
  have h0 := (mail_first hm).2
  unfold relM
  constructor
  · rintro (⟨h, _⟩ | ⟨_, h | h⟩)
    · exact absurd h h0
    · exact h
    · have h3 := host_no64 (mail_host ht) j (by rw [h]; exact hj)
      rw [h] at h3
      exact absurd hc h3
  · exact fun h => .inr ⟨h0, .inl h⟩
theorem relM_no {t b : ByteArray} (ht : mailP t) (hb : ∀ j, j < b.size → cAt b j ≠ 64) : relM t b ↔ (cAt b 0 = 46 ∧ endsP (bh t 64) b) ∨ (cAt b 0 ≠ 46 ∧ bh t 64 = b) := by
  unfold relM
  constructor
  · rintro (h | ⟨h0, h | h⟩)
    · exact .inl h
    · obtain ⟨j, h1, h2⟩ := mail_has ht
      rw [h] at h1 h2
      exact absurd h2 (hb j h1)
    · exact .inr ⟨h0, h⟩
  · rintro (h | ⟨h0, h⟩)
    · exact .inl h
    · exact .inr ⟨h0, .inr h⟩
theorem unstar_trim {s : ByteArray} (h : hostP s true) : (⟨(Lib.trimPrefix s.data.toList [42, 46]).toArray⟩ : ByteArray) = unstar s := by
  unfold unstar
  by_cases h0 : cAt s 0 = 42
  · obtain ⟨h1, h2⟩ := hostP_star h h0
    rw [if_pos h0]
    exact trim_star ((pre_star s).2 ⟨h1, h0, h2⟩)
  · rw [if_neg h0]
    unfold Lib.trimPrefix
    rw [if_neg (fun q => h0 ((pre_star s).1 q).2.1), Lib.mk_data]
theorem unstar_le (s : ByteArray) : (unstar s).size ≤ s.size := by
  unfold unstar
  split
  · exact ext_le _ _ _
  · exact Nat.le_refl _

set_option maxRecDepth 10000 in
set_option maxHeartbeats 1000000 in
theorem l6Ends_any (s e : ByteArray) (w : World) (hs : s.size ≤ 1048578) (he : e.size ≤ 1048578) : Calls Tryz.prog 34 #[.string s, .string e] w (SaysW (endsP s e) w) := by
  obtain ⟨P, hP⟩ : ∃ P, P = endsP s e := ⟨_, rfl⟩
  rw [← hP]
  have HP : Hid (P ↔ e.size ≤ s.size ∧ s.extract (s.size - e.size) s.size = e) := by show P ↔ _; rw [hP]; exact Iff.rfl
  clear hP
  by_cases h1 : e.size ≤ s.size
  · have z1 : decide ((e.size : Int) ≤ (s.size : Int)) = true := decide_eq_true (by omega)
    obtain ⟨d, hd⟩ : ∃ d : Nat, d = s.size - e.size := ⟨_, rfl⟩
    rw [← hd] at HP
    have hdd : (s.size : Int) - (e.size : Int) = (d : Int) := by omega
    have hdl : d ≤ s.size := by omega
    by_cases h2 : s.extract d s.size = e
    · have HN : Hid P := HP.out.2 ⟨h1, h2⟩
      have z2 : ((s.extract d s.size).toList == e.toList) = true := (toList_same _ _).2 h2
      clear HP h2 hd
      go_enter Tryz.func34, Tryz.ntmps34
      go_wp2
      go_ret
      exact saysW_t HN.out
    · have HN : Hid (¬ P) := fun q => h2 (HP.out.1 q).2
      have z2 : ((s.extract d s.size).toList == e.toList) = false := by rw [Bool.eq_false_iff]; exact fun q => h2 ((toList_same _ _).1 q)
      clear HP h2 hd
      go_enter Tryz.func34, Tryz.ntmps34
      go_wp2
      go_ret
      exact saysW_f HN.out
  · have z1 : decide ((e.size : Int) ≤ (s.size : Int)) = false := decide_eq_false (by omega)
    have HN : Hid (¬ P) := fun q => h1 (HP.out.1 q).1
    clear HP
    go_enter Tryz.func34, Tryz.ntmps34
    go_wp2
    go_ret
    exact saysW_f HN.out

end Go.Proofs.YtoncodoimnideaaGreatDoor

namespace Go.Proofs.YtoncodoimnideaaGreatDoor
open Go.RowKit

/-- Two general names, boxed one behind the other. -/
theorem two_boxes (t : Nat) (w : World) (g : GT) (a : Option Addr) (n c : Nat) (g2 : GT) (a2 : Option Addr) (n2 c2 : Nat) : ∃ W, W = ((w.alloc (.cells #[.int .i64 g.kind, .string g.text, .int .i64 g.addr, .int .i64 g.bits, .slice a n c] t)).alloc (.cells #[.int .i64 g2.kind, .string g2.text, .int .i64 g2.addr, .int .i64 g2.bits, .slice a2 n2 c2] t)) ∧ BoxG t w.heap.size W g a n c ∧ BoxG t (w.heap.size + 1) W g2 a2 n2 c2 ∧ Below w.heap.size w W ∧ W.heap.size = w.heap.size + 2 := by
  refine ⟨_, rfl, ?_, ?_, ((Below.refl _ _).alloc (Nat.le_refl _) _).alloc (by simp) _, by simp⟩
  · exact (boxG_new t w g a n c).kept ((Below.refl _ _).alloc (Nat.le_refl _) _)
  · have := boxG_new t (w.alloc (.cells #[.int .i64 g.kind, .string g.text, .int .i64 g.addr, .int .i64 g.bits, .slice a n c] t)) g2 a2 n2 c2
    simpa using this

theorem withinP_1 {g b : GT} {xs ys : List PT} (h1 : genP g xs) (h2 : baseP b ys) (h3 : g.kind = b.kind) (hk : g.kind = 1) : withinP g xs b ys ↔ relH g.text b.text := by
  unfold withinP
  constructor
  · rintro ⟨_, _, _, (⟨_, h⟩ | ⟨h, _⟩ | ⟨h, _⟩ | ⟨h, _⟩)⟩
    · exact h
    all_goals omega
  · exact fun h => ⟨h1, h2, h3, .inl ⟨hk, h⟩⟩
theorem withinP_2 {g b : GT} {xs ys : List PT} (h1 : genP g xs) (h2 : baseP b ys) (h3 : g.kind = b.kind) (hk : g.kind = 2) : withinP g xs b ys ↔ relM g.text b.text := by
  unfold withinP
  constructor
  · rintro ⟨_, _, _, (⟨h, _⟩ | ⟨_, h⟩ | ⟨h, _⟩ | ⟨h, _⟩)⟩
    · omega
    · exact h
    all_goals omega
  · exact fun h => ⟨h1, h2, h3, .inr (.inl ⟨hk, h⟩)⟩
theorem withinP_3 {g b : GT} {xs ys : List PT} (h1 : genP g xs) (h2 : baseP b ys) (h3 : g.kind = b.kind) (hk : g.kind = 3) : withinP g xs b ys ↔ relA g.addr b.addr b.bits := by
  unfold withinP
  constructor
  · rintro ⟨_, _, _, (⟨h, _⟩ | ⟨h, _⟩ | ⟨_, h⟩ | ⟨h, _⟩)⟩
    · omega
    · omega
    · exact h
    · omega
  · exact fun h => ⟨h1, h2, h3, .inr (.inr (.inl ⟨hk, h⟩))⟩
theorem withinP_4 {g b : GT} {xs ys : List PT} (h1 : genP g xs) (h2 : baseP b ys) (h3 : g.kind = b.kind) (hk : g.kind = 4) : withinP g xs b ys ↔ underP xs ys := by
  unfold withinP
  constructor
  · rintro ⟨_, _, _, (⟨h, _⟩ | ⟨h, _⟩ | ⟨h, _⟩ | ⟨_, h⟩)⟩
    · omega
    · omega
    · omega
    · exact h
  · exact fun h => ⟨h1, h2, h3, .inr (.inr (.inr ⟨hk, h⟩))⟩
theorem gen_host {g : GT} {xs : List PT} (h : genP g xs) (hk : g.kind = 1) : hostP g.text true := by
  rcases h with ⟨_, _, h⟩ | ⟨h, _⟩ | ⟨h, _⟩ | ⟨h, _⟩
  · exact h
  all_goals omega
theorem gen_mail {g : GT} {xs : List PT} (h : genP g xs) (hk : g.kind = 2) : mailP g.text := by
  rcases h with ⟨h, _⟩ | ⟨_, _, h⟩ | ⟨h, _⟩ | ⟨h, _⟩
  · omega
  · exact h
  all_goals omega
theorem base_mail {g : GT} {xs : List PT} (h : baseP g xs) (hk : g.kind = 2) : mbaseP g.text := by
  rcases h with ⟨h, _⟩ | ⟨_, _, h⟩ | ⟨h, _⟩ | ⟨h, _⟩
  · omega
  · exact h
  all_goals omega
theorem base_bits {g : GT} {xs : List PT} (h : baseP g xs) (hk : g.kind = 3) : 0 ≤ g.bits ∧ g.bits ≤ 32 := by
  rcases h with ⟨h, _⟩ | ⟨h, _⟩ | ⟨_, _, _, h, _⟩ | ⟨h, _⟩
  · omega
  · omega
  · exact h
  · omega

set_option maxRecDepth 10000 in
set_option maxHeartbeats 8000000 in
theorem specWithin_any (g : GT) (a : Option Addr) (n c : Nat) (xs : List PT) (b : GT) (a2 : Option Addr) (n2 c2 : Nat) (ys : List PT) (w : World) (h : Pts w a n xs) (hz : ∀ k, k < n → (xs.getD k default).val.size ≤ 1048576) (hs : g.text.size ≤ 1048576) (h2 : Pts w a2 n2 ys) (hz2 : ∀ k, k < n2 → (ys.getD k default).val.size ≤ 1048576) (hs2 : b.text.size ≤ 1048576) :
    Calls Tryz.prog 13 #[gnv g a n c, gnv b a2 n2 c2] w (SaysB (withinP g xs b ys) w) := by
  obtain ⟨P, hP⟩ : ∃ P, P = withinP g xs b ys := ⟨_, rfl⟩
  rw [← hP]
  have HP : Hid (P = withinP g xs b ys) := hP
  have HK : Hid (Pts w a n xs) := h
  have HZ : Hid (_) := hz
  have HK2 : Hid (Pts w a2 n2 ys) := h2
  have HZ2 : Hid (_) := hz2
  clear hP h hz h2 hz2
  obtain ⟨W, hW, x1, x2, bW, sW⟩ := two_boxes 30 w g a n c b a2 n2 c2
  have SG := specGenOk_any g a n c xs W (HK.out.kept bW) HZ.out hs
  have SB := fun (w1 : World) (hb : Below w.heap.size w w1) => specBaseOk_any b a2 n2 c2 ys w1 (HK2.out.kept hb) HZ2.out hs2
  unfold gnv at SG SB ⊢
  go_enter Tryz.func13, Tryz.ntmps13
  go_wp2_with fail
  rw [← hW]
  clear hW
  refine SG.mono ?_
  rintro e w1 ⟨r1, rfl, HV1, hb1⟩
  have B1 : Below w.heap.size w w1 := bW.trans (hb1.mono bW.size)
  have X1 : Hid (_) := x1.kept hb1
  have X2 : Hid (_) := x2.kept hb1
  clear SG x1 x2 bW
  cases r1 with
  | false =>
    have HN : Hid (¬ P) := by show ¬ P; rw [HP.out]; exact fun q => Bool.false_ne_true (HV1.out.2 q.1)
    clear HP HV1 SB HK HZ HK2 HZ2 X1 X2
    go_wp2
    go_ret
    exact saysB_f HN.out B1
  | true =>
    have HG : Hid (genP g xs) := HV1.out.1 rfl
    clear HV1
    obtain ⟨q0, q1, q2, q3, q4⟩ := X2.out.cells
    go_wp2_with fail
    refine (SB _ B1).mono ?_
    rintro e w2 ⟨r2, rfl, HV2, hb2⟩
    have B2 : Below w.heap.size w w2 := B1.trans (hb2.mono B1.size)
    have Y1 : Hid (_) := X1.out.kept hb2
    have Y2 : Hid (_) := X2.out.kept hb2
    clear SB X1 X2 B1 q0 q1 q2 q3 q4
    cases r2 with
    | false =>
      have HN : Hid (¬ P) := by show ¬ P; rw [HP.out]; exact fun q => Bool.false_ne_true (HV2.out.2 q.2.1)
      clear HP HV2 HK HZ HK2 HZ2 Y1 Y2
      go_wp2
      go_ret
      exact saysB_f HN.out B2
    | true =>
      have HB : Hid (baseP b ys) := HV2.out.1 rfl
      clear HV2
      obtain ⟨p0, p1, p2, p3, p4⟩ := Y1.out.cells
      obtain ⟨q0, q1, q2, q3, q4⟩ := Y2.out.cells
      have hlt : w.heap.size + 1 < w2.heap.size := Nat.lt_of_lt_of_le (by omega) (Nat.le_trans hb1.size hb2.size)
      by_cases hkk : g.kind = b.kind
      · have zk : (g.kind != b.kind) = false := by simp [hkk]
        by_cases k1 : g.kind = 1
        · have HI : Hid (P ↔ relH g.text b.text) := by show P ↔ _; rw [HP.out]; exact withinP_1 HG.out HB.out hkk k1
          have hh := gen_host HG.out k1
          have hp := hostP_pos hh
          have HST : Hid (cAt g.text 0 = 42 → 2 ≤ g.text.size ∧ cAt g.text 1 = 46) := hostP_star hh
          have hx := cAt_get g.text 0 hp
          have e1 : (g.kind == 1) = true := beq_iff_eq.2 k1
          have hso : ¬ (9223372036854775807 < 1 + b.text.size) := by omega
          have hul := unstar_le g.text
          obtain ⟨u, hu⟩ : ∃ u, u = unstar g.text := ⟨_, rfl⟩
          obtain ⟨d, hd⟩ : ∃ d : ByteArray, d = (⟨#[46]⟩ ++ b.text : ByteArray) := ⟨_, rfl⟩
          have HI2 : Hid (P ↔ u = b.text ∨ endsP u d) := by show P ↔ _; rw [HI.out, hu, hd]; exact Iff.rfl
          rw [← hu] at hul
          have hsz : d.size = 1 + b.text.size := by rw [hd, ByteArray.size_append]; rfl
          have hd1 : d.size ≤ 1048578 := by omega
          have hu1 : u.size ≤ 1048578 := by omega
          have FIN : ∀ (w2' : World), Calls Tryz.prog 34 #[.string u, .string d] w2' (SaysW (endsP u d) w2') := fun w2' => l6Ends_any u d w2' hu1 hd1
          have HD : Hid (d = (⟨#[46]⟩ ++ b.text : ByteArray)) := hd
          clear hd hd1 hu1
          clear HP HK HZ HK2 HZ2 Y1 Y2 HG HB hkk k1 hh HI hsz
          by_cases hc : (g.text[0].toNat : Int) = 42
          · have zc : ((g.text[0].toNat : Int) == 42) = true := beq_iff_eq.2 hc
            have h22 := (HST.out (hx.trans hc)).1
            have hu2 : g.text.extract 2 g.text.size = u := by rw [hu]; unfold unstar; rw [if_pos (hx.trans hc)]
            clear hu hc hx HST
            by_cases heq : u = b.text
            · have HN : Hid P := HI2.out.2 (.inl heq)
              have z5 : (u.toList == b.text.toList) = true := (toList_same _ _).2 heq
              clear HI2 heq FIN
              go_wp2
              go_ret
              exact saysB_t HN.out B2
            · have z5 : (u.toList == b.text.toList) = false := by rw [Bool.eq_false_iff]; exact fun q => heq ((toList_same _ _).1 q)
              have HI3 : Hid (P ↔ endsP u d) := ⟨fun q => (HI2.out.1 q).resolve_left heq, fun q => HI2.out.2 (.inr q)⟩
              clear HI2 heq
              go_wp2_with fail
              rw [← HD.out]
              refine (FIN _).mono ?_
              rintro e w3 ⟨r3, rfl, HV3, hw3⟩
              subst hw3
              clear FIN
              cases r3 with
              | true =>
                have HN : Hid P := HI3.out.2 (HV3.out.1 rfl)
                clear HV3 HI3
                go_wp2
                go_ret
                exact saysB_t HN.out B2
              | false =>
                have HN : Hid (¬ P) := fun q => Bool.false_ne_true (HV3.out.2 (HI3.out.1 q))
                clear HV3 HI3
                go_wp2
                go_ret
                exact saysB_f HN.out B2
          · have zc : ((g.text[0].toNat : Int) == 42) = false := beq_false_of_ne hc
            have hu2 : g.text = u := by rw [hu]; unfold unstar; rw [if_neg (fun q => hc (hx.symm.trans q))]
            clear hu hc hx HST
            by_cases heq : u = b.text
            · have HN : Hid P := HI2.out.2 (.inl heq)
              have z5 : (g.text.toList == b.text.toList) = true := by rw [hu2]; exact (toList_same _ _).2 heq
              clear HI2 heq FIN hu2
              go_wp2
              go_ret
              exact saysB_t HN.out B2
            · have z5 : (g.text.toList == b.text.toList) = false := by rw [hu2, Bool.eq_false_iff]; exact fun q => heq ((toList_same _ _).1 q)
              have HI3 : Hid (P ↔ endsP u d) := ⟨fun q => (HI2.out.1 q).resolve_left heq, fun q => HI2.out.2 (.inr q)⟩
              rw [← hu2] at FIN HI3
              clear HI2 heq hu2
              go_wp2_with fail
              rw [← HD.out]
              refine (FIN _).mono ?_
              rintro e w3 ⟨r3, rfl, HV3, hw3⟩
              subst hw3
              clear FIN
              cases r3 with
              | true =>
                have HN : Hid P := HI3.out.2 (HV3.out.1 rfl)
                clear HV3 HI3
                go_wp2
                go_ret
                exact saysB_t HN.out B2
              | false =>
                have HN : Hid (¬ P) := fun q => Bool.false_ne_true (HV3.out.2 (HI3.out.1 q))
                clear HV3 HI3
                go_wp2
                go_ret
                exact saysB_f HN.out B2
        have e1 : (g.kind == 1) = false := beq_false_of_ne k1
        by_cases k2 : g.kind = 2
        · have HI : Hid (P ↔ relM g.text b.text) := by show P ↔ _; rw [HP.out]; exact withinP_2 HG.out HB.out hkk k2
          have hm := gen_mail HG.out k2
          have hbm := base_mail HB.out (hkk.symm.trans k2)
          have hbp := mbase_pos hbm
          have hx := cAt_get b.text 0 hbp
          have e2 : (g.kind == 2) = true := beq_iff_eq.2 k2
          have HM : Hid (mailP g.text) := hm
          clear HP HK HZ HK2 HZ2 HG HB hkk k1 k2 hm hbm
          go_wp2_with fail
          refine (l6Mail_any g.text _ hs).mono ?_
          rintro e w3 ⟨x, y, ok, rfl, HR, hxs, hys, hb3⟩
          have B3 : Below w.heap.size w w3 := B2.trans (hb3.mono B2.size)
          obtain rfl : ok = true := by
            cases ok with
            | true => rfl
            | false => exact absurd HM.out (mailR_f HR.out)
          have HY : Hid (y = bh g.text 64) := by
            show y = _
            rcases HR.out with ⟨_, q⟩ | ⟨q, _⟩
            · exact (mail_bh q).1
            · cases q
          have HI2 : Hid (P ↔ (cAt b.text 0 = 46 ∧ endsP y b.text) ∨ (cAt b.text 0 ≠ 46 ∧ (g.text = b.text ∨ y = b.text))) := by show P ↔ _; rw [HI.out, HY.out]; exact Iff.rfl
          clear HR HI HM p0 p1 p2 p3 p4 q0 q1 q2 q3 q4 HY
          obtain ⟨p0, p1, p2, p3, p4⟩ := (Y1.out.kept hb3).cells
          obtain ⟨q0, q1, q2, q3, q4⟩ := (Y2.out.kept hb3).cells
          clear Y1 Y2
          by_cases hd : (b.text[0].toNat : Int) = 46
          · have zd : ((b.text[0].toNat : Int) == 46) = true := beq_iff_eq.2 hd
            have HI3 : Hid (P ↔ endsP y b.text) := by
              show P ↔ _
              rw [HI2.out]
              constructor
              · rintro (q | q)
                · exact q.2
                · exact absurd (hx.trans hd) q.1
              · exact fun q => .inl ⟨hx.trans hd, q⟩
            clear HI2 hx hd
            go_wp2_with fail
            refine (l6Ends_any y b.text _ (by omega) (by omega)).mono ?_
            rintro e w4 ⟨r4, rfl, HV4, hw4⟩
            subst hw4
            go_wp2
            go_ret
            exact ⟨r4, rfl, HV4.out.trans HI3.out.symm, B3⟩
          · have zd : ((b.text[0].toNat : Int) == 46) = false := beq_false_of_ne hd
            have HI3 : Hid (P ↔ (g.text = b.text ∨ y = b.text)) := by
              show P ↔ _
              rw [HI2.out]
              constructor
              · rintro (q | q)
                · exact absurd (hx.symm.trans q.1) hd
                · exact q.2
              · exact fun q => .inr ⟨fun r => hd (hx.symm.trans r), q⟩
            clear HI2 hx hd
            by_cases heq : g.text = b.text
            · have HN : Hid P := HI3.out.2 (.inl heq)
              have z5 : (g.text.toList == b.text.toList) = true := (toList_same _ _).2 heq
              clear HI3 heq
              go_wp2
              go_ret
              exact saysB_t HN.out B3
            · have z5 : (g.text.toList == b.text.toList) = false := by rw [Bool.eq_false_iff]; exact fun q => heq ((toList_same _ _).1 q)
              by_cases hyb : y = b.text
              · have HN : Hid P := HI3.out.2 (.inr hyb)
                have z6 : (y.toList == b.text.toList) = true := (toList_same _ _).2 hyb
                clear HI3 heq hyb
                go_wp2
                go_ret
                exact saysB_t HN.out B3
              · have HN : Hid (¬ P) := fun q => by rcases HI3.out.1 q with q | q; exact heq q; exact hyb q
                have z6 : (y.toList == b.text.toList) = false := by rw [Bool.eq_false_iff]; exact fun q => hyb ((toList_same _ _).1 q)
                clear HI3 heq hyb
                go_wp2
                go_ret
                exact saysB_f HN.out B3
        have e2 : (g.kind == 2) = false := beq_false_of_ne k2
        by_cases k3 : g.kind = 3
        · have HI : Hid (P ↔ relA g.addr b.addr b.bits) := by show P ↔ _; rw [HP.out]; exact withinP_3 HG.out HB.out hkk k3
          obtain ⟨hb0, hb1'⟩ := base_bits HB.out (hkk.symm.trans k3)
          have e3 : (g.kind == 3) = true := beq_iff_eq.2 k3
          clear HP HK HZ HK2 HZ2 HG HB hkk k1 k2 k3 Y1 Y2
          by_cases hr : g.addr / (2 : Int) ^ (32 - b.bits).toNat = b.addr / (2 : Int) ^ (32 - b.bits).toNat
          · have HN : Hid P := HI.out.2 hr
            have z6 : (g.addr / (2 : Int) ^ (32 - b.bits).toNat == b.addr / (2 : Int) ^ (32 - b.bits).toNat) = true := beq_iff_eq.2 hr
            clear HI hr
            go_wp2
            go_ret
            exact saysB_t HN.out B2
          · have HN : Hid (¬ P) := fun q => hr (HI.out.1 q)
            have z6 : (g.addr / (2 : Int) ^ (32 - b.bits).toNat == b.addr / (2 : Int) ^ (32 - b.bits).toNat) = false := beq_false_of_ne hr
            clear HI hr
            go_wp2
            go_ret
            exact saysB_f HN.out B2
        have e3 : (g.kind == 3) = false := beq_false_of_ne k3
        have k4 : g.kind = 4 := by rcases genP_kind HG.out with q | q | q | q <;> omega
        have HI : Hid (P ↔ underP xs ys) := by show P ↔ _; rw [HP.out]; exact withinP_4 HG.out HB.out hkk k4
        have SU := specUnder_any a n c xs a2 n2 c2 ys w2 (HK.out.kept B2) (HK2.out.kept B2) HZ.out HZ2.out
        unfold nmv at SU
        clear HP HK HZ HK2 HZ2 HG HB hkk k1 k2 k3 k4 Y1 Y2
        go_wp2_with fail
        refine SU.mono ?_
        rintro e w3 ⟨r3, rfl, HV3, hb3⟩
        have B3 : Below w.heap.size w w3 := B2.trans (hb3.mono B2.size)
        clear SU
        go_wp2
        go_ret
        exact ⟨r3, rfl, HV3.out.trans HI.out.symm, B3⟩
      · have zk : (g.kind != b.kind) = true := bne_iff_ne.2 hkk
        have HN : Hid (¬ P) := by show ¬ P; rw [HP.out]; exact fun q => hkk q.2.2.1
        clear HP HK HZ HK2 HZ2 Y1 Y2 HG HB hkk
        go_wp2
        go_ret
        exact saysB_f HN.out B2

end Go.Proofs.YtoncodoimnideaaGreatDoor

namespace Go.Proofs.YtoncodoimnideaaGreatDoor
open Go.RowKit

set_option maxRecDepth 10000 in
set_option maxHeartbeats 1000000 in
theorem cutWild_any (s : ByteArray) (w : World) : Calls Tryz.prog 28 #[.string s] w fun e w' => e = .returned (.tuple #[.string ⟨(Lib.trimPrefix s.data.toList [42, 46]).toArray⟩, .bool (Lib.hasPrefix s.data.toList [42, 46])]) ∧ w = w' := by
  go_enter Tryz.func28, Tryz.ntmps28
  go_wp2_with fail
  refine (Tryz.strings_CutPrefix s ⟨#[42, 46]⟩ _).mono ?_
  rintro e w1 ⟨rfl, hw⟩
  replace hw := hw.symm
  subst hw
  go_wp2
  go_ret2
  exact ⟨rfl, rfl⟩

set_option maxRecDepth 10000 in
set_option maxHeartbeats 2000000 in
theorem hostWithin_any (g : GT) (a : Option Addr) (n c : Nat) (b : GT) (a2 : Option Addr) (n2 c2 : Nat) (w : World) (hs : g.text.size ≤ 1048576) (hs2 : b.text.size ≤ 1048576) (hh : hostP g.text true) :
    Calls Tryz.prog 56 #[gnv g a n c, gnv b a2 n2 c2] w (SaysB (relH g.text b.text) w) := by
  obtain ⟨P, hP⟩ : ∃ P, P = relH g.text b.text := ⟨_, rfl⟩
  rw [← hP]
  obtain ⟨W, hW, x1, x2, bW, sW⟩ := two_boxes 30 w g a n c b a2 n2 c2
  obtain ⟨p0, p1, p2, p3, p4⟩ := x1.cells
  obtain ⟨q0, q1, q2, q3, q4⟩ := x2.cells
  have hso : ¬ (9223372036854775807 < 1 + b.text.size) := by omega
  have hul := unstar_le g.text
  obtain ⟨u, hu⟩ : ∃ u, u = unstar g.text := ⟨_, rfl⟩
  obtain ⟨d, hd⟩ : ∃ d : ByteArray, d = (⟨#[46]⟩ ++ b.text : ByteArray) := ⟨_, rfl⟩
  have HI2 : Hid (P ↔ u = b.text ∨ endsP u d) := by show P ↔ _; rw [hP, hu, hd]; exact Iff.rfl
  have HT : Hid ((⟨(Lib.trimPrefix g.text.data.toList [42, 46]).toArray⟩ : ByteArray) = u) := by show _ = u; rw [hu]; exact unstar_trim hh
  rw [← hu] at hul
  have HD : Hid (d = (⟨#[46]⟩ ++ b.text : ByteArray)) := hd
  have hu9 : u.size ≤ 9223372036854775807 := by omega
  clear hP hu hd hh
  unfold gnv
  go_enter Tryz.func56, Tryz.ntmps56
  go_wp2_with fail
  rw [← hW]
  clear hW
  refine (cutWild_any g.text _).mono ?_
  rintro e w1 ⟨rfl, hw1⟩
  subst hw1
  rw [HT.out]
  obtain ⟨wl, hwl⟩ : ∃ wl, wl = Lib.hasPrefix g.text.data.toList [42, 46] := ⟨_, rfl⟩
  rw [← hwl]
  clear hwl HT
  by_cases heq : u = b.text
  · have HN : Hid P := HI2.out.2 (.inl heq)
    have z5 : (u.toList == b.text.toList) = true := (toList_same _ _).2 heq
    clear HI2 heq
    go_wp2
    go_ret
    exact saysB_t HN.out bW
  · have z5 : (u.toList == b.text.toList) = false := by rw [Bool.eq_false_iff]; exact fun q => heq ((toList_same _ _).1 q)
    have HI3 : Hid (P ↔ endsP u d) := ⟨fun q => (HI2.out.1 q).resolve_left heq, fun q => HI2.out.2 (.inr q)⟩
    clear HI2 heq
    go_wp2_with fail
    rw [← HD.out]
    refine (Tryz.strings_HasSuffix u d _ hu9).mono ?_
    rintro e w3 ⟨rfl, hw3⟩
    replace hw3 := hw3.symm
    subst hw3
    have HI4 : Hid (Lib.hasSuffix u.data.toList d.data.toList = true ↔ P) := (suffix_iff u d).trans HI3.out.symm
    obtain ⟨r, hr⟩ : ∃ r, r = Lib.hasSuffix u.data.toList d.data.toList := ⟨_, rfl⟩
    rw [← hr] at HI4 ⊢
    clear hr HI3
    go_wp2
    go_ret
    exact ⟨r, rfl, HI4, bW⟩

set_option maxRecDepth 10000 in
set_option maxHeartbeats 2000000 in
theorem addrWithin_any (g : GT) (a : Option Addr) (n c : Nat) (b : GT) (a2 : Option Addr) (n2 c2 : Nat) (w : World) (hb : 0 ≤ b.bits ∧ b.bits ≤ 32) :
    Calls Tryz.prog 63 #[gnv g a n c, gnv b a2 n2 c2] w (SaysB (relA g.addr b.addr b.bits) w) := by
  obtain ⟨P, hP⟩ : ∃ P, P = relA g.addr b.addr b.bits := ⟨_, rfl⟩
  rw [← hP]
  have bW : Below w.heap.size w ((w.alloc (.cells #[.int .i64 g.kind, .string g.text, .int .i64 g.addr, .int .i64 g.bits, .slice a n c] 30)).alloc (.cells #[.int .i64 b.kind, .string b.text, .int .i64 b.addr, .int .i64 b.bits, .slice a2 n2 c2] 30)) := ((Below.refl _ _).alloc (Nat.le_refl _) _).alloc (by simp) _
  have HI : Hid ((g.addr / (2 : Int) ^ (32 - b.bits).toNat == b.addr / (2 : Int) ^ (32 - b.bits).toNat) = true ↔ P) := by show _ ↔ P; rw [hP, beq_iff_eq]; exact Iff.rfl
  have C1 := fun w => highestBits_any g.addr b.bits w hb.1 hb.2
  have C2 := fun w => highestBits_any b.addr b.bits w hb.1 hb.2
  clear hP hb
  unfold gnv
  go_enter Tryz.func63, Tryz.ntmps63
  go_wp2_with fail
  go_quiet (first
    | (go_at_call_of 87 g.addr; refine Calls.quiet_of_same (C1 _))
    | (go_at_call_of 87 b.addr; refine Calls.quiet_of_same (C2 _)))
  clear C1 C2
  go_wp2
  go_ret
  exact ⟨_, rfl, HI, below_drewM bW _⟩

set_option maxRecDepth 10000 in
set_option maxHeartbeats 2000000 in
theorem partsWithin_any (g : GT) (a : Option Addr) (n c : Nat) (xs : List PT) (b : GT) (a2 : Option Addr) (n2 c2 : Nat) (ys : List PT) (w : World) (h : Pts w a n xs) (hz : ∀ k, k < n → (xs.getD k default).val.size ≤ 1048576) (h2 : Pts w a2 n2 ys) (hz2 : ∀ k, k < n2 → (ys.getD k default).val.size ≤ 1048576) :
    Calls Tryz.prog 67 #[gnv g a n c, gnv b a2 n2 c2] w (SaysB (underP xs ys) w) := by
  obtain ⟨W, hW, x1, x2, bW, sW⟩ := two_boxes 30 w g a n c b a2 n2 c2
  have IU := implUnder_any a n c xs a2 n2 c2 ys W (h.kept bW) (h2.kept bW) hz hz2
  clear h hz h2 hz2 x1 x2
  unfold gnv
  unfold nmv at IU
  go_enter Tryz.func67, Tryz.ntmps67
  go_wp2_with fail
  rw [← hW]
  clear hW
  refine IU.mono ?_
  rintro e w3 ⟨r3, rfl, HV3, hb3⟩
  have B3 : Below w.heap.size w w3 := bW.trans (hb3.mono bW.size)
  clear IU
  go_wp2
  go_ret
  exact ⟨r3, rfl, HV3, B3⟩

theorem contains_iff (s : ByteArray) (cb : UInt8) : Lib.contains s.data.toList [cb] = true ↔ ∃ j, j < s.size ∧ cAt s j = (cb.toNat : Int) := by
  unfold Lib.contains
  rw [decide_eq_true_eq]
  rcases index_one s cb s.size 0 (by omega) (fun j h => absurd h (Nat.not_lt_zero _)) with ⟨h1, _, h3⟩ | ⟨t, h1, h2, h3, _, _⟩
  · rw [h1]
    constructor
    · intro h; omega
    · rintro ⟨j, q1, q2⟩; exact absurd q2 (h3 j q1)
  · rw [h1]
    exact ⟨fun _ => ⟨t, h2, h3⟩, fun _ => by omega⟩

set_option maxRecDepth 10000 in
set_option maxHeartbeats 2000000 in
theorem mailWithin_any (g : GT) (a : Option Addr) (n c : Nat) (b : GT) (a2 : Option Addr) (n2 c2 : Nat) (w : World) (hm : MaxW w) (hs : g.text.size ≤ 1048576) (hs2 : b.text.size ≤ 1048576) (hg : mailP g.text) (hb : mbaseP b.text) :
    Calls Tryz.prog 59 #[gnv g a n c, gnv b a2 n2 c2] w (SaysB (relM g.text b.text) w) := by
  obtain ⟨P, hP⟩ : ∃ P, P = relM g.text b.text := ⟨_, rfl⟩
  rw [← hP]
  have HP : Hid (P = relM g.text b.text) := hP
  have HM : Hid (MaxW w) := hm
  have HG : Hid (mailP g.text) := hg
  have HB : Hid (mbaseP b.text) := hb
  obtain ⟨W, hW, x1, x2, bW, sW⟩ := two_boxes 30 w g a n c b a2 n2 c2
  obtain ⟨m, hmm⟩ := HM.out.kept bW
  obtain ⟨p0, p1, p2, p3, p4⟩ := x1.cells
  obtain ⟨q0, q1, q2, q3, q4⟩ := x2.cells
  have HMM : Hid (_) := hmm
  clear hP hm hg hb hmm
  unfold gnv
  go_enter Tryz.func59, Tryz.ntmps59
  go_wp2_with fail
  rw [← hW]
  clear hW
  refine (Tryz.strings_Contains b.text ⟨#[64]⟩ m _ (by omega) HMM.out).mono ?_
  rintro e w1 ⟨rfl, hw1⟩
  replace hw1 := hw1.symm
  subst hw1
  have HC : Hid (Lib.contains b.text.data.toList (⟨#[64]⟩ : ByteArray).data.toList = true ↔ ∃ j, j < b.text.size ∧ cAt b.text j = 64) := contains_iff b.text 64
  obtain ⟨r, hr⟩ : ∃ r, r = Lib.contains b.text.data.toList (⟨#[64]⟩ : ByteArray).data.toList := ⟨_, rfl⟩
  rw [← hr] at HC ⊢
  clear hr HMM
  cases r with
  | true =>
    have HI : Hid (P ↔ g.text = b.text) := by
      show P ↔ _
      obtain ⟨j, h1, h2⟩ := HC.out.1 rfl
      rw [HP.out]
      exact relM_at HG.out HB.out h1 h2
    clear HC HP HG HB HM
    by_cases heq : g.text = b.text
    · have HN : Hid P := HI.out.2 heq
      have z5 : (g.text.toList == b.text.toList) = true := (toList_same _ _).2 heq
      clear HI heq
      go_wp2
      go_ret
      exact saysB_t HN.out bW
    · have HN : Hid (¬ P) := fun q => heq (HI.out.1 q)
      have z5 : (g.text.toList == b.text.toList) = false := by rw [Bool.eq_false_iff]; exact fun q => heq ((toList_same _ _).1 q)
      clear HI heq
      go_wp2
      go_ret
      exact saysB_f HN.out bW
  | false =>
    have HNO : Hid (∀ j, j < b.text.size → cAt b.text j ≠ 64) := fun j h1 h2 => Bool.false_ne_true (HC.out.2 ⟨j, h1, h2⟩)
    have HI : Hid (P ↔ (cAt b.text 0 = 46 ∧ endsP (bh g.text 64) b.text) ∨ (cAt b.text 0 ≠ 46 ∧ bh g.text 64 = b.text)) := by
      show P ↔ _
      rw [HP.out]
      exact relM_no HG.out HNO.out
    have hbp := mbase_pos HB.out
    clear HC HP HB HNO
    go_wp2_with fail
    refine (cut_says g.text 64 _ hs (HM.out.kept bW)).mono ?_
    rintro e w3 ⟨x, y, ok, rfl, HR, hb3⟩
    have B3 : Below w.heap.size w w3 := bW.trans (hb3.mono bW.size)
    have hys : y.size ≤ g.text.size := by
      rcases HR.out with ⟨_, t, _, _, _, _, rfl⟩ | ⟨_, _, _, rfl⟩
      · exact ext_le _ _ _
      · exact Nat.zero_le _
    have HY : Hid (y = bh g.text 64) := by
      show y = _
      rcases index_one g.text 64 g.text.size 0 (by omega) (fun j h => absurd h (Nat.not_lt_zero _)) with ⟨_, _, h3⟩ | ⟨t, _, h2, h3, h4, h5⟩
      · obtain ⟨j, q1, q2⟩ := mail_has HG.out
        exact absurd q2 (h3 j q1)
      · rcases HR.out with ⟨_, t', g2, g3, g4, _, rfl⟩ | ⟨_, g2, _⟩
        · have ett : t' = t := by
            rcases Nat.lt_trichotomy t' t with q | q | q
            · exact absurd g3 (h4 t' q)
            · exact q
            · exact absurd h3 (g4 t q)
          subst ett
          exact h5.symm
        · exact absurd h3 (g2 t h2)
    rw [← HY.out] at HI
    clear HR HY HG HM p0 p1 p2 p3 p4 q0 q1 q2 q3 q4
    obtain ⟨p0, p1, p2, p3, p4⟩ := (x1.kept hb3).cells
    obtain ⟨q0, q1, q2, q3, q4⟩ := (x2.kept hb3).cells
    clear x1 x2
    go_wp2_with fail
    refine (Tryz.strings_HasPrefix b.text ⟨#[46]⟩ _).mono ?_
    rintro e w4 ⟨rfl, hw4⟩
    replace hw4 := hw4.symm
    subst hw4
    have HD : Hid (Lib.hasPrefix b.text.data.toList (⟨#[46]⟩ : ByteArray).data.toList = true ↔ 0 < b.text.size ∧ cAt b.text 0 = 46) := pre_dot b.text
    obtain ⟨r, hr⟩ : ∃ r, r = Lib.hasPrefix b.text.data.toList (⟨#[46]⟩ : ByteArray).data.toList := ⟨_, rfl⟩
    rw [← hr] at HD ⊢
    clear hr
    cases r with
    | true =>
      have HI3 : Hid (P ↔ endsP y b.text) := by
        show P ↔ _
        have h0 := (HD.out.1 rfl).2
        rw [HI.out]
        constructor
        · rintro (q | q)
          · exact q.2
          · exact absurd h0 q.1
        · exact fun q => .inl ⟨h0, q⟩
      clear HI HD
      go_wp2_with fail
      refine (Tryz.strings_HasSuffix y b.text _ (by omega)).mono ?_
      rintro e w5 ⟨rfl, hw5⟩
      replace hw5 := hw5.symm
      subst hw5
      have HI4 : Hid (Lib.hasSuffix y.data.toList b.text.data.toList = true ↔ P) := (suffix_iff y b.text).trans HI3.out.symm
      obtain ⟨r, hr⟩ : ∃ r, r = Lib.hasSuffix y.data.toList b.text.data.toList := ⟨_, rfl⟩
      rw [← hr] at HI4 ⊢
      clear hr HI3
      go_wp2
      go_ret
      exact ⟨r, rfl, HI4, B3⟩
    | false =>
      have HI3 : Hid (P ↔ y = b.text) := by
        show P ↔ _
        have h0 : cAt b.text 0 ≠ 46 := fun q => Bool.false_ne_true (HD.out.2 ⟨hbp, q⟩)
        rw [HI.out]
        constructor
        · rintro (q | q)
          · exact absurd q.1 h0
          · exact q.2
        · exact fun q => .inr ⟨h0, q⟩
      clear HI HD
      by_cases hyb : y = b.text
      · have HN : Hid P := HI3.out.2 hyb
        have z6 : (y.toList == b.text.toList) = true := (toList_same _ _).2 hyb
        clear HI3 hyb
        go_wp2
        go_ret
        exact saysB_t HN.out B3
      · have HN : Hid (¬ P) := fun q => hyb (HI3.out.1 q)
        have z6 : (y.toList == b.text.toList) = false := by rw [Bool.eq_false_iff]; exact fun q => hyb ((toList_same _ _).1 q)
        clear HI3 hyb
        go_wp2
        go_ret
        exact saysB_f HN.out B3

end Go.Proofs.YtoncodoimnideaaGreatDoor

namespace Go.Proofs.YtoncodoimnideaaGreatDoor
open Go.RowKit

theorem genP_is1 {g : GT} {xs : List PT} {n : Nat} (hl : xs.length = n) (hk : g.kind = 1) : genP g xs ↔ (g.addr == 0 && g.bits == 0 && (n : Int) == 0) = true ∧ hostP g.text true := by
  unfold genP
  simp only [Bool.and_eq_true, beq_iff_eq]
  constructor
  · rintro (⟨h, q⟩ | ⟨h, q⟩ | ⟨h, q⟩ | ⟨h, q⟩)
    · exact ⟨⟨⟨q.1.1, q.1.2.1⟩, by omega⟩, q.2⟩
    · omega
    · omega
    · omega
  · rintro ⟨q, r⟩
    exact .inl ⟨hk, ⟨q.1.1, q.1.2, by omega⟩, r⟩

theorem genP_is2 {g : GT} {xs : List PT} {n : Nat} (hl : xs.length = n) (hk : g.kind = 2) : genP g xs ↔ (g.addr == 0 && g.bits == 0 && (n : Int) == 0) = true ∧ mailP g.text := by
  unfold genP
  simp only [Bool.and_eq_true, beq_iff_eq]
  constructor
  · rintro (⟨h, q⟩ | ⟨h, q⟩ | ⟨h, q⟩ | ⟨h, q⟩)
    · omega
    · exact ⟨⟨⟨q.1.1, q.1.2.1⟩, by omega⟩, q.2⟩
    · omega
    · omega
  · rintro ⟨q, r⟩
    exact .inr (.inl ⟨hk, ⟨q.1.1, q.1.2, by omega⟩, r⟩)

theorem genP_is3 {g : GT} {xs : List PT} {n : Nat} (hl : xs.length = n) (hk : g.kind = 3) : genP g xs ↔ (g.text.toList.isEmpty && (n : Int) == 0) = true ∧ ((0 ≤ g.addr ∧ g.addr ≤ 4294967295) ∧ g.bits = 0) := by
  unfold genP
  simp only [Bool.and_eq_true, beq_iff_eq, empty_iff]
  constructor
  · rintro (⟨h, q⟩ | ⟨h, q⟩ | ⟨h, q⟩ | ⟨h, q⟩)
    · omega
    · omega
    · exact ⟨⟨q.1.1, by omega⟩, q.2⟩
    · omega
  · rintro ⟨q, r⟩
    exact .inr (.inr (.inl ⟨hk, ⟨q.1, by omega⟩, r⟩))

theorem genP_is4 {g : GT} {xs : List PT} {n : Nat} (_hl : xs.length = n) (hk : g.kind = 4) : genP g xs ↔ (g.text.toList.isEmpty && g.addr == 0 && g.bits == 0) = true ∧ (nameP xs ∧ 0 < xs.length) := by
  unfold genP
  simp only [Bool.and_eq_true, beq_iff_eq, empty_iff]
  constructor
  · rintro (⟨h, q⟩ | ⟨h, q⟩ | ⟨h, q⟩ | ⟨h, q⟩)
    · omega
    · omega
    · omega
    · exact ⟨⟨⟨q.1.1, q.1.2.1⟩, q.1.2.2⟩, q.2⟩
  · rintro ⟨q, r⟩
    exact .inr (.inr (.inr ⟨hk, ⟨q.1.1, q.1.2, q.2⟩, r⟩))

set_option maxRecDepth 10000 in
set_option maxHeartbeats 4000000 in
theorem implGenOk_any (g : GT) (a : Option Addr) (n c : Nat) (xs : List PT) (w : World) (hm : MaxW w) (h : Pts w a n xs) (hz : ∀ k, k < n → (xs.getD k default).val.size ≤ 1048576) (hs : g.text.size ≤ 1048576) :
    Calls Tryz.prog 11 #[gnv g a n c] w (SaysB (genP g xs) w) := by
  obtain ⟨P, hP⟩ : ∃ P, P = genP g xs := ⟨_, rfl⟩
  rw [← hP]
  have HP : Hid (P = genP g xs) := hP
  have HK : Hid (Pts w a n xs) := h
  have HZ : Hid (_) := hz
  have HM : Hid (MaxW w) := hm
  have hl := h.len
  have hmx := h.max
  clear hP h hz hm
  have hbl := below_box 30 w g a n c
  have hbx := boxG_new 30 w g a n c
  by_cases k1 : g.kind = 1
  · have GR : ∀ w, Calls Tryz.prog 32 #[.int .i64 g.kind] w fun e w' => e = .returned (.tuple #[.agg #[.func (Fn.func 53) #[] #[], .func (Fn.func 54) #[] #[], .func (Fn.func 55) #[] #[], .func (Fn.func 56) #[] #[]], .bool true]) ∧ Below w.heap.size w w' := fun w => by rw [k1]; exact genRulesOf_1 w
    have HI : Hid (P ↔ (g.addr == 0 && g.bits == 0 && (n : Int) == 0) = true ∧ hostP g.text true) := by show P ↔ _; rw [HP.out]; exact genP_is1 hl k1
    clear k1 HP
    have HO := onlyText_any g a n c
    unfold gnv at HO ⊢
    go_enter Tryz.func11, Tryz.ntmps11
    go_wp2_with fail
    refine (GR _).mono ?_
    rintro e w1 ⟨rfl, hb1⟩
    have B1 := hbl.trans (hb1.mono hbl.size)
    obtain ⟨p0, p1, p2, p3, p4⟩ := (hbx.kept hb1).cells
    have hlt : w.heap.size < w1.heap.size := Nat.lt_of_lt_of_le (by simp) hb1.size
    have hbk := hbx.kept hb1
    obtain ⟨W1, hW1⟩ : ∃ W1, W1 = w1.alloc (.cells #[.func (Fn.func 53) #[] #[], .func (Fn.func 54) #[] #[], .func (Fn.func 55) #[] #[], .func (Fn.func 56) #[] #[]] 58) := ⟨_, rfl⟩
    have hb2 : Below w1.heap.size w1 W1 := by rw [hW1]; exact (Below.refl _ _).alloc (Nat.le_refl _) _
    have B2 := B1.trans (hb2.mono B1.size)
    have hru : W1.heap[w1.heap.size]? = some (.cells #[.func (Fn.func 53) #[] #[], .func (Fn.func 54) #[] #[], .func (Fn.func 55) #[] #[], .func (Fn.func 56) #[] #[]] 58 (0, 0)) := by rw [hW1]; exact heap_alloc_new w1 _
    have HRU : Hid (_) := hru
    have HBK : Hid (_) := hbk.kept hb2
    clear GR hbl hbx hbk hru
    obtain ⟨O, hO⟩ : ∃ O, O = (g.addr == 0 && g.bits == 0 && (n : Int) == 0) := ⟨_, rfl⟩
    go_wp2_with fail
    rw [← hW1]
    refine (HO _).mono ?_
    rintro e w3 ⟨rfl, hb3⟩
    rw [← hO] at HI ⊢
    have B3 := B2.trans (hb3.mono B2.size)
    clear HO hO hW1 p0 p1 p2 p3 p4
    cases O with
    | false =>
      have HN : Hid (¬ P) := fun q => Bool.false_ne_true (HI.out.1 q).1
      clear HI
      go_wp2
      go_ret
      exact saysB_f HN.out B3
    | true =>
      have HI2 : Hid (P ↔ hostP g.text true) := ⟨fun q => (HI.out.1 q).2, fun q => HI.out.2 ⟨rfl, q⟩⟩
      clear HI
      obtain ⟨p0, p1, p2, p3, p4⟩ := (HBK.out.kept hb3).cells
      have hr3 : w3.heap[w1.heap.size]? = some (.cells #[.func (Fn.func 53) #[] #[], .func (Fn.func 54) #[] #[], .func (Fn.func 55) #[] #[], .func (Fn.func 56) #[] #[]] 58 (0, 0)) := (hb3.block _ (Array.getElem?_eq_some_iff.1 HRU.out).1).trans HRU.out
      have f1 : w3.cell? ⟨w1.heap.size, 1, none⟩ = some (.func (Fn.func 54) #[] #[]) := (cell_of_row _ w1.heap.size 1 _ 58 (0, 0) hr3).trans rfl
      clear hr3 HRU HBK
      have NM := hostName_any g a n c w3 (HM.out.kept B3)
      unfold gnv at NM
      go_wp2_with fail
      refine NM.mono ?_
      rintro e w4 ⟨b, rfl, HV, hb4⟩
      have B4 := B3.trans (hb4.mono B3.size)
      clear NM
      cases b with
      | false =>
        have HN : Hid (¬ P) := fun q => Bool.false_ne_true (HV.out.2 (HI2.out.1 q))
        clear HV HI2
        go_wp2
        go_ret
        exact saysB_f HN.out B4
      | true =>
        have HN : Hid P := HI2.out.2 (HV.out.1 rfl)
        clear HV HI2
        go_wp2
        go_ret
        exact saysB_t HN.out B4
  by_cases k2 : g.kind = 2
  · have GR : ∀ w, Calls Tryz.prog 32 #[.int .i64 g.kind] w fun e w' => e = .returned (.tuple #[.agg #[.func (Fn.func 53) #[] #[], .func (Fn.func 57) #[] #[], .func (Fn.func 58) #[] #[], .func (Fn.func 59) #[] #[]], .bool true]) ∧ Below w.heap.size w w' := fun w => by rw [k2]; exact genRulesOf_2 w
    have HI : Hid (P ↔ (g.addr == 0 && g.bits == 0 && (n : Int) == 0) = true ∧ mailP g.text) := by show P ↔ _; rw [HP.out]; exact genP_is2 hl k2
    clear k1 k2 HP
    have HO := onlyText_any g a n c
    unfold gnv at HO ⊢
    go_enter Tryz.func11, Tryz.ntmps11
    go_wp2_with fail
    refine (GR _).mono ?_
    rintro e w1 ⟨rfl, hb1⟩
    have B1 := hbl.trans (hb1.mono hbl.size)
    obtain ⟨p0, p1, p2, p3, p4⟩ := (hbx.kept hb1).cells
    have hlt : w.heap.size < w1.heap.size := Nat.lt_of_lt_of_le (by simp) hb1.size
    have hbk := hbx.kept hb1
    obtain ⟨W1, hW1⟩ : ∃ W1, W1 = w1.alloc (.cells #[.func (Fn.func 53) #[] #[], .func (Fn.func 57) #[] #[], .func (Fn.func 58) #[] #[], .func (Fn.func 59) #[] #[]] 58) := ⟨_, rfl⟩
    have hb2 : Below w1.heap.size w1 W1 := by rw [hW1]; exact (Below.refl _ _).alloc (Nat.le_refl _) _
    have B2 := B1.trans (hb2.mono B1.size)
    have hru : W1.heap[w1.heap.size]? = some (.cells #[.func (Fn.func 53) #[] #[], .func (Fn.func 57) #[] #[], .func (Fn.func 58) #[] #[], .func (Fn.func 59) #[] #[]] 58 (0, 0)) := by rw [hW1]; exact heap_alloc_new w1 _
    have HRU : Hid (_) := hru
    have HBK : Hid (_) := hbk.kept hb2
    clear GR hbl hbx hbk hru
    obtain ⟨O, hO⟩ : ∃ O, O = (g.addr == 0 && g.bits == 0 && (n : Int) == 0) := ⟨_, rfl⟩
    go_wp2_with fail
    rw [← hW1]
    refine (HO _).mono ?_
    rintro e w3 ⟨rfl, hb3⟩
    rw [← hO] at HI ⊢
    have B3 := B2.trans (hb3.mono B2.size)
    clear HO hO hW1 p0 p1 p2 p3 p4
    cases O with
    | false =>
      have HN : Hid (¬ P) := fun q => Bool.false_ne_true (HI.out.1 q).1
      clear HI
      go_wp2
      go_ret
      exact saysB_f HN.out B3
    | true =>
      have HI2 : Hid (P ↔ mailP g.text) := ⟨fun q => (HI.out.1 q).2, fun q => HI.out.2 ⟨rfl, q⟩⟩
      clear HI
      obtain ⟨p0, p1, p2, p3, p4⟩ := (HBK.out.kept hb3).cells
      have hr3 : w3.heap[w1.heap.size]? = some (.cells #[.func (Fn.func 53) #[] #[], .func (Fn.func 57) #[] #[], .func (Fn.func 58) #[] #[], .func (Fn.func 59) #[] #[]] 58 (0, 0)) := (hb3.block _ (Array.getElem?_eq_some_iff.1 HRU.out).1).trans HRU.out
      have f1 : w3.cell? ⟨w1.heap.size, 1, none⟩ = some (.func (Fn.func 57) #[] #[]) := (cell_of_row _ w1.heap.size 1 _ 58 (0, 0) hr3).trans rfl
      clear hr3 HRU HBK
      have NM := mailName_any g a n c w3 (HM.out.kept B3) hs
      unfold gnv at NM
      go_wp2_with fail
      refine NM.mono ?_
      rintro e w4 ⟨b, rfl, HV, hb4⟩
      have B4 := B3.trans (hb4.mono B3.size)
      clear NM
      cases b with
      | false =>
        have HN : Hid (¬ P) := fun q => Bool.false_ne_true (HV.out.2 (HI2.out.1 q))
        clear HV HI2
        go_wp2
        go_ret
        exact saysB_f HN.out B4
      | true =>
        have HN : Hid P := HI2.out.2 (HV.out.1 rfl)
        clear HV HI2
        go_wp2
        go_ret
        exact saysB_t HN.out B4
  by_cases k3 : g.kind = 3
  · have GR : ∀ w, Calls Tryz.prog 32 #[.int .i64 g.kind] w fun e w' => e = .returned (.tuple #[.agg #[.func (Fn.func 60) #[] #[], .func (Fn.func 61) #[] #[], .func (Fn.func 62) #[] #[], .func (Fn.func 63) #[] #[]], .bool true]) ∧ Below w.heap.size w w' := fun w => by rw [k3]; exact genRulesOf_3 w
    have HI : Hid (P ↔ (g.text.toList.isEmpty && (n : Int) == 0) = true ∧ ((0 ≤ g.addr ∧ g.addr ≤ 4294967295) ∧ g.bits = 0)) := by show P ↔ _; rw [HP.out]; exact genP_is3 hl k3
    clear k1 k2 k3 HP
    have HO := onlyAddr_any g a n c
    unfold gnv at HO ⊢
    go_enter Tryz.func11, Tryz.ntmps11
    go_wp2_with fail
    refine (GR _).mono ?_
    rintro e w1 ⟨rfl, hb1⟩
    have B1 := hbl.trans (hb1.mono hbl.size)
    obtain ⟨p0, p1, p2, p3, p4⟩ := (hbx.kept hb1).cells
    have hlt : w.heap.size < w1.heap.size := Nat.lt_of_lt_of_le (by simp) hb1.size
    have hbk := hbx.kept hb1
    obtain ⟨W1, hW1⟩ : ∃ W1, W1 = w1.alloc (.cells #[.func (Fn.func 60) #[] #[], .func (Fn.func 61) #[] #[], .func (Fn.func 62) #[] #[], .func (Fn.func 63) #[] #[]] 58) := ⟨_, rfl⟩
    have hb2 : Below w1.heap.size w1 W1 := by rw [hW1]; exact (Below.refl _ _).alloc (Nat.le_refl _) _
    have B2 := B1.trans (hb2.mono B1.size)
    have hru : W1.heap[w1.heap.size]? = some (.cells #[.func (Fn.func 60) #[] #[], .func (Fn.func 61) #[] #[], .func (Fn.func 62) #[] #[], .func (Fn.func 63) #[] #[]] 58 (0, 0)) := by rw [hW1]; exact heap_alloc_new w1 _
    have HRU : Hid (_) := hru
    have HBK : Hid (_) := hbk.kept hb2
    clear GR hbl hbx hbk hru
    obtain ⟨O, hO⟩ : ∃ O, O = (g.text.toList.isEmpty && (n : Int) == 0) := ⟨_, rfl⟩
    go_wp2_with fail
    rw [← hW1]
    refine (HO _).mono ?_
    rintro e w3 ⟨rfl, hb3⟩
    rw [← hO] at HI ⊢
    have B3 := B2.trans (hb3.mono B2.size)
    clear HO hO hW1 p0 p1 p2 p3 p4
    cases O with
    | false =>
      have HN : Hid (¬ P) := fun q => Bool.false_ne_true (HI.out.1 q).1
      clear HI
      go_wp2
      go_ret
      exact saysB_f HN.out B3
    | true =>
      have HI2 : Hid (P ↔ ((0 ≤ g.addr ∧ g.addr ≤ 4294967295) ∧ g.bits = 0)) := ⟨fun q => (HI.out.1 q).2, fun q => HI.out.2 ⟨rfl, q⟩⟩
      clear HI
      obtain ⟨p0, p1, p2, p3, p4⟩ := (HBK.out.kept hb3).cells
      have hr3 : w3.heap[w1.heap.size]? = some (.cells #[.func (Fn.func 60) #[] #[], .func (Fn.func 61) #[] #[], .func (Fn.func 62) #[] #[], .func (Fn.func 63) #[] #[]] 58 (0, 0)) := (hb3.block _ (Array.getElem?_eq_some_iff.1 HRU.out).1).trans HRU.out
      have f1 : w3.cell? ⟨w1.heap.size, 1, none⟩ = some (.func (Fn.func 61) #[] #[]) := (cell_of_row _ w1.heap.size 1 _ 58 (0, 0) hr3).trans rfl
      clear hr3 HRU HBK
      have NM := addrName_any g a n c w3
      unfold gnv at NM
      go_wp2_with fail
      refine NM.mono ?_
      rintro e w4 ⟨b, rfl, HV, hb4⟩
      have B4 := B3.trans (hb4.mono B3.size)
      clear NM
      cases b with
      | false =>
        have HN : Hid (¬ P) := fun q => Bool.false_ne_true (HV.out.2 (HI2.out.1 q))
        clear HV HI2
        go_wp2
        go_ret
        exact saysB_f HN.out B4
      | true =>
        have HN : Hid P := HI2.out.2 (HV.out.1 rfl)
        clear HV HI2
        go_wp2
        go_ret
        exact saysB_t HN.out B4
  by_cases k4 : g.kind = 4
  · have GR : ∀ w, Calls Tryz.prog 32 #[.int .i64 g.kind] w fun e w' => e = .returned (.tuple #[.agg #[.func (Fn.func 64) #[] #[], .func (Fn.func 65) #[] #[], .func (Fn.func 66) #[] #[], .func (Fn.func 67) #[] #[]], .bool true]) ∧ Below w.heap.size w w' := fun w => by rw [k4]; exact genRulesOf_4 w
    have HI : Hid (P ↔ (g.text.toList.isEmpty && g.addr == 0 && g.bits == 0) = true ∧ (nameP xs ∧ 0 < xs.length)) := by show P ↔ _; rw [HP.out]; exact genP_is4 hl k4
    clear k1 k2 k3 k4 HP
    have HO := onlyName_any g a n c
    unfold gnv at HO ⊢
    go_enter Tryz.func11, Tryz.ntmps11
    go_wp2_with fail
    refine (GR _).mono ?_
    rintro e w1 ⟨rfl, hb1⟩
    have B1 := hbl.trans (hb1.mono hbl.size)
    obtain ⟨p0, p1, p2, p3, p4⟩ := (hbx.kept hb1).cells
    have hlt : w.heap.size < w1.heap.size := Nat.lt_of_lt_of_le (by simp) hb1.size
    have hbk := hbx.kept hb1
    obtain ⟨W1, hW1⟩ : ∃ W1, W1 = w1.alloc (.cells #[.func (Fn.func 64) #[] #[], .func (Fn.func 65) #[] #[], .func (Fn.func 66) #[] #[], .func (Fn.func 67) #[] #[]] 58) := ⟨_, rfl⟩
    have hb2 : Below w1.heap.size w1 W1 := by rw [hW1]; exact (Below.refl _ _).alloc (Nat.le_refl _) _
    have B2 := B1.trans (hb2.mono B1.size)
    have hru : W1.heap[w1.heap.size]? = some (.cells #[.func (Fn.func 64) #[] #[], .func (Fn.func 65) #[] #[], .func (Fn.func 66) #[] #[], .func (Fn.func 67) #[] #[]] 58 (0, 0)) := by rw [hW1]; exact heap_alloc_new w1 _
    have HRU : Hid (_) := hru
    have HBK : Hid (_) := hbk.kept hb2
    clear GR hbl hbx hbk hru
    obtain ⟨O, hO⟩ : ∃ O, O = (g.text.toList.isEmpty && g.addr == 0 && g.bits == 0) := ⟨_, rfl⟩
    go_wp2_with fail
    rw [← hW1]
    refine (HO _).mono ?_
    rintro e w3 ⟨rfl, hb3⟩
    rw [← hO] at HI ⊢
    have B3 := B2.trans (hb3.mono B2.size)
    clear HO hO hW1 p0 p1 p2 p3 p4
    cases O with
    | false =>
      have HN : Hid (¬ P) := fun q => Bool.false_ne_true (HI.out.1 q).1
      clear HI
      go_wp2
      go_ret
      exact saysB_f HN.out B3
    | true =>
      have HI2 : Hid (P ↔ (nameP xs ∧ 0 < xs.length)) := ⟨fun q => (HI.out.1 q).2, fun q => HI.out.2 ⟨rfl, q⟩⟩
      clear HI
      obtain ⟨p0, p1, p2, p3, p4⟩ := (HBK.out.kept hb3).cells
      have hr3 : w3.heap[w1.heap.size]? = some (.cells #[.func (Fn.func 64) #[] #[], .func (Fn.func 65) #[] #[], .func (Fn.func 66) #[] #[], .func (Fn.func 67) #[] #[]] 58 (0, 0)) := (hb3.block _ (Array.getElem?_eq_some_iff.1 HRU.out).1).trans HRU.out
      have f1 : w3.cell? ⟨w1.heap.size, 1, none⟩ = some (.func (Fn.func 65) #[] #[]) := (cell_of_row _ w1.heap.size 1 _ 58 (0, 0) hr3).trans rfl
      clear hr3 HRU HBK
      have NM := partsName_any g a n c xs w3 (HK.out.kept B3) HZ.out
      unfold gnv at NM
      go_wp2_with fail
      refine NM.mono ?_
      rintro e w4 ⟨b, rfl, HV, hb4⟩
      have B4 := B3.trans (hb4.mono B3.size)
      clear NM
      cases b with
      | false =>
        have HN : Hid (¬ P) := fun q => Bool.false_ne_true (HV.out.2 (HI2.out.1 q))
        clear HV HI2
        go_wp2
        go_ret
        exact saysB_f HN.out B4
      | true =>
        have HN : Hid P := HI2.out.2 (HV.out.1 rfl)
        clear HV HI2
        go_wp2
        go_ret
        exact saysB_t HN.out B4
  have HN : Hid (¬ P) := by show ¬ P; rw [HP.out]; intro q; rcases genP_kind q with q | q | q | q <;> omega
  have GR := genRulesOf_none g.kind (w.alloc (.cells #[.int .i64 g.kind, .string g.text, .int .i64 g.addr, .int .i64 g.bits, .slice a n c] 30)) (by omega)
  clear HP HK HZ HM k1 k2 k3 k4
  unfold gnv
  go_enter Tryz.func11, Tryz.ntmps11
  go_wp2_with fail
  refine GR.mono ?_
  rintro e w1 ⟨rfl, hb1⟩
  have B1 := hbl.trans (hb1.mono hbl.size)
  have B2 := B1.alloc B1.size (.cells #[.nilFunc, .nilFunc, .nilFunc, .nilFunc] 58 (0, 0))
  go_wp2
  go_ret
  exact saysB_f HN.out B2

end Go.Proofs.YtoncodoimnideaaGreatDoor

namespace Go.Proofs.YtoncodoimnideaaGreatDoor
open Go.RowKit

theorem baseP_is1 {g : GT} {xs : List PT} {n : Nat} (hl : xs.length = n) (hk : g.kind = 1) : baseP g xs ↔ (g.addr == 0 && g.bits == 0 && (n : Int) == 0) = true ∧ hostP g.text false := by
  unfold baseP
  simp only [Bool.and_eq_true, beq_iff_eq]
  constructor
  · rintro (⟨h, q⟩ | ⟨h, q⟩ | ⟨h, q⟩ | ⟨h, q⟩)
    · exact ⟨⟨⟨q.1.1, q.1.2.1⟩, by omega⟩, q.2⟩
    · omega
    · omega
    · omega
  · rintro ⟨q, r⟩
    exact .inl ⟨hk, ⟨q.1.1, q.1.2, by omega⟩, r⟩

theorem baseP_is2 {g : GT} {xs : List PT} {n : Nat} (hl : xs.length = n) (hk : g.kind = 2) : baseP g xs ↔ (g.addr == 0 && g.bits == 0 && (n : Int) == 0) = true ∧ mbaseP g.text := by
  unfold baseP
  simp only [Bool.and_eq_true, beq_iff_eq]
  constructor
  · rintro (⟨h, q⟩ | ⟨h, q⟩ | ⟨h, q⟩ | ⟨h, q⟩)
    · omega
    · exact ⟨⟨⟨q.1.1, q.1.2.1⟩, by omega⟩, q.2⟩
    · omega
    · omega
  · rintro ⟨q, r⟩
    exact .inr (.inl ⟨hk, ⟨q.1.1, q.1.2, by omega⟩, r⟩)

theorem baseP_is3 {g : GT} {xs : List PT} {n : Nat} (hl : xs.length = n) (hk : g.kind = 3) : baseP g xs ↔ (g.text.toList.isEmpty && (n : Int) == 0) = true ∧ ((0 ≤ g.addr ∧ g.addr ≤ 4294967295) ∧ (0 ≤ g.bits ∧ g.bits ≤ 32) ∧ g.addr % (2 : Int) ^ (32 - g.bits).toNat = 0) := by
  unfold baseP
  simp only [Bool.and_eq_true, beq_iff_eq, empty_iff]
  constructor
  · rintro (⟨h, q⟩ | ⟨h, q⟩ | ⟨h, q⟩ | ⟨h, q⟩)
    · omega
    · omega
    · exact ⟨⟨q.1.1, by omega⟩, q.2⟩
    · omega
  · rintro ⟨q, r⟩
    exact .inr (.inr (.inl ⟨hk, ⟨q.1, by omega⟩, r⟩))

theorem baseP_is4 {g : GT} {xs : List PT} {n : Nat} (_hl : xs.length = n) (hk : g.kind = 4) : baseP g xs ↔ (g.text.toList.isEmpty && g.addr == 0 && g.bits == 0) = true ∧ nameP xs := by
  unfold baseP
  simp only [Bool.and_eq_true, beq_iff_eq, empty_iff]
  constructor
  · rintro (⟨h, q⟩ | ⟨h, q⟩ | ⟨h, q⟩ | ⟨h, q⟩)
    · omega
    · omega
    · omega
    · exact ⟨⟨⟨q.1.1, q.1.2.1⟩, q.1.2.2⟩, q.2⟩
  · rintro ⟨q, r⟩
    exact .inr (.inr (.inr ⟨hk, ⟨q.1.1, q.1.2, q.2⟩, r⟩))

set_option maxRecDepth 10000 in
set_option maxHeartbeats 4000000 in
theorem implBaseOk_any (g : GT) (a : Option Addr) (n c : Nat) (xs : List PT) (w : World) (hm : MaxW w) (h : Pts w a n xs) (hz : ∀ k, k < n → (xs.getD k default).val.size ≤ 1048576) (hs : g.text.size ≤ 1048576) :
    Calls Tryz.prog 17 #[gnv g a n c] w (SaysB (baseP g xs) w) := by
  obtain ⟨P, hP⟩ : ∃ P, P = baseP g xs := ⟨_, rfl⟩
  rw [← hP]
  have HP : Hid (P = baseP g xs) := hP
  have HK : Hid (Pts w a n xs) := h
  have HZ : Hid (_) := hz
  have HM : Hid (MaxW w) := hm
  have hl := h.len
  have hmx := h.max
  clear hP h hz hm
  have hbl := below_box 30 w g a n c
  have hbx := boxG_new 30 w g a n c
  by_cases k1 : g.kind = 1
  · have GR : ∀ w, Calls Tryz.prog 32 #[.int .i64 g.kind] w fun e w' => e = .returned (.tuple #[.agg #[.func (Fn.func 53) #[] #[], .func (Fn.func 54) #[] #[], .func (Fn.func 55) #[] #[], .func (Fn.func 56) #[] #[]], .bool true]) ∧ Below w.heap.size w w' := fun w => by rw [k1]; exact genRulesOf_1 w
    have HI : Hid (P ↔ (g.addr == 0 && g.bits == 0 && (n : Int) == 0) = true ∧ hostP g.text false) := by show P ↔ _; rw [HP.out]; exact baseP_is1 hl k1
    clear k1 HP
    have HO := onlyText_any g a n c
    unfold gnv at HO ⊢
    go_enter Tryz.func17, Tryz.ntmps17
    go_wp2_with fail
    refine (GR _).mono ?_
    rintro e w1 ⟨rfl, hb1⟩
    have B1 := hbl.trans (hb1.mono hbl.size)
    obtain ⟨p0, p1, p2, p3, p4⟩ := (hbx.kept hb1).cells
    have hlt : w.heap.size < w1.heap.size := Nat.lt_of_lt_of_le (by simp) hb1.size
    have hbk := hbx.kept hb1
    obtain ⟨W1, hW1⟩ : ∃ W1, W1 = w1.alloc (.cells #[.func (Fn.func 53) #[] #[], .func (Fn.func 54) #[] #[], .func (Fn.func 55) #[] #[], .func (Fn.func 56) #[] #[]] 58) := ⟨_, rfl⟩
    have hb2 : Below w1.heap.size w1 W1 := by rw [hW1]; exact (Below.refl _ _).alloc (Nat.le_refl _) _
    have B2 := B1.trans (hb2.mono B1.size)
    have hru : W1.heap[w1.heap.size]? = some (.cells #[.func (Fn.func 53) #[] #[], .func (Fn.func 54) #[] #[], .func (Fn.func 55) #[] #[], .func (Fn.func 56) #[] #[]] 58 (0, 0)) := by rw [hW1]; exact heap_alloc_new w1 _
    have HRU : Hid (_) := hru
    have HBK : Hid (_) := hbk.kept hb2
    clear GR hbl hbx hbk hru
    obtain ⟨O, hO⟩ : ∃ O, O = (g.addr == 0 && g.bits == 0 && (n : Int) == 0) := ⟨_, rfl⟩
    go_wp2_with fail
    rw [← hW1]
    refine (HO _).mono ?_
    rintro e w3 ⟨rfl, hb3⟩
    rw [← hO] at HI ⊢
    have B3 := B2.trans (hb3.mono B2.size)
    clear HO hO hW1 p0 p1 p2 p3 p4
    cases O with
    | false =>
      have HN : Hid (¬ P) := fun q => Bool.false_ne_true (HI.out.1 q).1
      clear HI
      go_wp2
      go_ret
      exact saysB_f HN.out B3
    | true =>
      have HI2 : Hid (P ↔ hostP g.text false) := ⟨fun q => (HI.out.1 q).2, fun q => HI.out.2 ⟨rfl, q⟩⟩
      clear HI
      obtain ⟨p0, p1, p2, p3, p4⟩ := (HBK.out.kept hb3).cells
      have hr3 : w3.heap[w1.heap.size]? = some (.cells #[.func (Fn.func 53) #[] #[], .func (Fn.func 54) #[] #[], .func (Fn.func 55) #[] #[], .func (Fn.func 56) #[] #[]] 58 (0, 0)) := (hb3.block _ (Array.getElem?_eq_some_iff.1 HRU.out).1).trans HRU.out
      have f2 : w3.cell? ⟨w1.heap.size, 2, none⟩ = some (.func (Fn.func 55) #[] #[]) := (cell_of_row _ w1.heap.size 2 _ 58 (0, 0) hr3).trans rfl
      clear hr3 HRU HBK
      have NM := hostBase_any g a n c w3 (HM.out.kept B3)
      unfold gnv at NM
      go_wp2_with fail
      refine NM.mono ?_
      rintro e w4 ⟨b, rfl, HV, hb4⟩
      have B4 := B3.trans (hb4.mono B3.size)
      clear NM
      cases b with
      | false =>
        have HN : Hid (¬ P) := fun q => Bool.false_ne_true (HV.out.2 (HI2.out.1 q))
        clear HV HI2
        go_wp2
        go_ret
        exact saysB_f HN.out B4
      | true =>
        have HN : Hid P := HI2.out.2 (HV.out.1 rfl)
        clear HV HI2
        go_wp2
        go_ret
        exact saysB_t HN.out B4
  by_cases k2 : g.kind = 2
  · have GR : ∀ w, Calls Tryz.prog 32 #[.int .i64 g.kind] w fun e w' => e = .returned (.tuple #[.agg #[.func (Fn.func 53) #[] #[], .func (Fn.func 57) #[] #[], .func (Fn.func 58) #[] #[], .func (Fn.func 59) #[] #[]], .bool true]) ∧ Below w.heap.size w w' := fun w => by rw [k2]; exact genRulesOf_2 w
    have HI : Hid (P ↔ (g.addr == 0 && g.bits == 0 && (n : Int) == 0) = true ∧ mbaseP g.text) := by show P ↔ _; rw [HP.out]; exact baseP_is2 hl k2
    clear k1 k2 HP
    have HO := onlyText_any g a n c
    unfold gnv at HO ⊢
    go_enter Tryz.func17, Tryz.ntmps17
    go_wp2_with fail
    refine (GR _).mono ?_
    rintro e w1 ⟨rfl, hb1⟩
    have B1 := hbl.trans (hb1.mono hbl.size)
    obtain ⟨p0, p1, p2, p3, p4⟩ := (hbx.kept hb1).cells
    have hlt : w.heap.size < w1.heap.size := Nat.lt_of_lt_of_le (by simp) hb1.size
    have hbk := hbx.kept hb1
    obtain ⟨W1, hW1⟩ : ∃ W1, W1 = w1.alloc (.cells #[.func (Fn.func 53) #[] #[], .func (Fn.func 57) #[] #[], .func (Fn.func 58) #[] #[], .func (Fn.func 59) #[] #[]] 58) := ⟨_, rfl⟩
    have hb2 : Below w1.heap.size w1 W1 := by rw [hW1]; exact (Below.refl _ _).alloc (Nat.le_refl _) _
    have B2 := B1.trans (hb2.mono B1.size)
    have hru : W1.heap[w1.heap.size]? = some (.cells #[.func (Fn.func 53) #[] #[], .func (Fn.func 57) #[] #[], .func (Fn.func 58) #[] #[], .func (Fn.func 59) #[] #[]] 58 (0, 0)) := by rw [hW1]; exact heap_alloc_new w1 _
    have HRU : Hid (_) := hru
    have HBK : Hid (_) := hbk.kept hb2
    clear GR hbl hbx hbk hru
    obtain ⟨O, hO⟩ : ∃ O, O = (g.addr == 0 && g.bits == 0 && (n : Int) == 0) := ⟨_, rfl⟩
    go_wp2_with fail
    rw [← hW1]
    refine (HO _).mono ?_
    rintro e w3 ⟨rfl, hb3⟩
    rw [← hO] at HI ⊢
    have B3 := B2.trans (hb3.mono B2.size)
    clear HO hO hW1 p0 p1 p2 p3 p4
    cases O with
    | false =>
      have HN : Hid (¬ P) := fun q => Bool.false_ne_true (HI.out.1 q).1
      clear HI
      go_wp2
      go_ret
      exact saysB_f HN.out B3
    | true =>
      have HI2 : Hid (P ↔ mbaseP g.text) := ⟨fun q => (HI.out.1 q).2, fun q => HI.out.2 ⟨rfl, q⟩⟩
      clear HI
      obtain ⟨p0, p1, p2, p3, p4⟩ := (HBK.out.kept hb3).cells
      have hr3 : w3.heap[w1.heap.size]? = some (.cells #[.func (Fn.func 53) #[] #[], .func (Fn.func 57) #[] #[], .func (Fn.func 58) #[] #[], .func (Fn.func 59) #[] #[]] 58 (0, 0)) := (hb3.block _ (Array.getElem?_eq_some_iff.1 HRU.out).1).trans HRU.out
      have f2 : w3.cell? ⟨w1.heap.size, 2, none⟩ = some (.func (Fn.func 58) #[] #[]) := (cell_of_row _ w1.heap.size 2 _ 58 (0, 0) hr3).trans rfl
      clear hr3 HRU HBK
      have NM := mailBase_any g a n c w3 (HM.out.kept B3) hs
      unfold gnv at NM
      go_wp2_with fail
      refine NM.mono ?_
      rintro e w4 ⟨b, rfl, HV, hb4⟩
      have B4 := B3.trans (hb4.mono B3.size)
      clear NM
      cases b with
      | false =>
        have HN : Hid (¬ P) := fun q => Bool.false_ne_true (HV.out.2 (HI2.out.1 q))
        clear HV HI2
        go_wp2
        go_ret
        exact saysB_f HN.out B4
      | true =>
        have HN : Hid P := HI2.out.2 (HV.out.1 rfl)
        clear HV HI2
        go_wp2
        go_ret
        exact saysB_t HN.out B4
  by_cases k3 : g.kind = 3
  · have GR : ∀ w, Calls Tryz.prog 32 #[.int .i64 g.kind] w fun e w' => e = .returned (.tuple #[.agg #[.func (Fn.func 60) #[] #[], .func (Fn.func 61) #[] #[], .func (Fn.func 62) #[] #[], .func (Fn.func 63) #[] #[]], .bool true]) ∧ Below w.heap.size w w' := fun w => by rw [k3]; exact genRulesOf_3 w
    have HI : Hid (P ↔ (g.text.toList.isEmpty && (n : Int) == 0) = true ∧ ((0 ≤ g.addr ∧ g.addr ≤ 4294967295) ∧ (0 ≤ g.bits ∧ g.bits ≤ 32) ∧ g.addr % (2 : Int) ^ (32 - g.bits).toNat = 0)) := by show P ↔ _; rw [HP.out]; exact baseP_is3 hl k3
    clear k1 k2 k3 HP
    have HO := onlyAddr_any g a n c
    unfold gnv at HO ⊢
    go_enter Tryz.func17, Tryz.ntmps17
    go_wp2_with fail
    refine (GR _).mono ?_
    rintro e w1 ⟨rfl, hb1⟩
    have B1 := hbl.trans (hb1.mono hbl.size)
    obtain ⟨p0, p1, p2, p3, p4⟩ := (hbx.kept hb1).cells
    have hlt : w.heap.size < w1.heap.size := Nat.lt_of_lt_of_le (by simp) hb1.size
    have hbk := hbx.kept hb1
    obtain ⟨W1, hW1⟩ : ∃ W1, W1 = w1.alloc (.cells #[.func (Fn.func 60) #[] #[], .func (Fn.func 61) #[] #[], .func (Fn.func 62) #[] #[], .func (Fn.func 63) #[] #[]] 58) := ⟨_, rfl⟩
    have hb2 : Below w1.heap.size w1 W1 := by rw [hW1]; exact (Below.refl _ _).alloc (Nat.le_refl _) _
    have B2 := B1.trans (hb2.mono B1.size)
    have hru : W1.heap[w1.heap.size]? = some (.cells #[.func (Fn.func 60) #[] #[], .func (Fn.func 61) #[] #[], .func (Fn.func 62) #[] #[], .func (Fn.func 63) #[] #[]] 58 (0, 0)) := by rw [hW1]; exact heap_alloc_new w1 _
    have HRU : Hid (_) := hru
    have HBK : Hid (_) := hbk.kept hb2
    clear GR hbl hbx hbk hru
    obtain ⟨O, hO⟩ : ∃ O, O = (g.text.toList.isEmpty && (n : Int) == 0) := ⟨_, rfl⟩
    go_wp2_with fail
    rw [← hW1]
    refine (HO _).mono ?_
    rintro e w3 ⟨rfl, hb3⟩
    rw [← hO] at HI ⊢
    have B3 := B2.trans (hb3.mono B2.size)
    clear HO hO hW1 p0 p1 p2 p3 p4
    cases O with
    | false =>
      have HN : Hid (¬ P) := fun q => Bool.false_ne_true (HI.out.1 q).1
      clear HI
      go_wp2
      go_ret
      exact saysB_f HN.out B3
    | true =>
      have HI2 : Hid (P ↔ ((0 ≤ g.addr ∧ g.addr ≤ 4294967295) ∧ (0 ≤ g.bits ∧ g.bits ≤ 32) ∧ g.addr % (2 : Int) ^ (32 - g.bits).toNat = 0)) := ⟨fun q => (HI.out.1 q).2, fun q => HI.out.2 ⟨rfl, q⟩⟩
      clear HI
      obtain ⟨p0, p1, p2, p3, p4⟩ := (HBK.out.kept hb3).cells
      have hr3 : w3.heap[w1.heap.size]? = some (.cells #[.func (Fn.func 60) #[] #[], .func (Fn.func 61) #[] #[], .func (Fn.func 62) #[] #[], .func (Fn.func 63) #[] #[]] 58 (0, 0)) := (hb3.block _ (Array.getElem?_eq_some_iff.1 HRU.out).1).trans HRU.out
      have f2 : w3.cell? ⟨w1.heap.size, 2, none⟩ = some (.func (Fn.func 62) #[] #[]) := (cell_of_row _ w1.heap.size 2 _ 58 (0, 0) hr3).trans rfl
      clear hr3 HRU HBK
      have NM := addrBase_any g a n c w3
      unfold gnv at NM
      go_wp2_with fail
      refine NM.mono ?_
      rintro e w4 ⟨b, rfl, HV, hb4⟩
      have B4 := B3.trans (hb4.mono B3.size)
      clear NM
      cases b with
      | false =>
        have HN : Hid (¬ P) := fun q => Bool.false_ne_true (HV.out.2 (HI2.out.1 q))
        clear HV HI2
        go_wp2
        go_ret
        exact saysB_f HN.out B4
      | true =>
        have HN : Hid P := HI2.out.2 (HV.out.1 rfl)
        clear HV HI2
        go_wp2
        go_ret
        exact saysB_t HN.out B4
  by_cases k4 : g.kind = 4
  · have GR : ∀ w, Calls Tryz.prog 32 #[.int .i64 g.kind] w fun e w' => e = .returned (.tuple #[.agg #[.func (Fn.func 64) #[] #[], .func (Fn.func 65) #[] #[], .func (Fn.func 66) #[] #[], .func (Fn.func 67) #[] #[]], .bool true]) ∧ Below w.heap.size w w' := fun w => by rw [k4]; exact genRulesOf_4 w
    have HI : Hid (P ↔ (g.text.toList.isEmpty && g.addr == 0 && g.bits == 0) = true ∧ nameP xs) := by show P ↔ _; rw [HP.out]; exact baseP_is4 hl k4
    clear k1 k2 k3 k4 HP
    have HO := onlyName_any g a n c
    unfold gnv at HO ⊢
    go_enter Tryz.func17, Tryz.ntmps17
    go_wp2_with fail
    refine (GR _).mono ?_
    rintro e w1 ⟨rfl, hb1⟩
    have B1 := hbl.trans (hb1.mono hbl.size)
    obtain ⟨p0, p1, p2, p3, p4⟩ := (hbx.kept hb1).cells
    have hlt : w.heap.size < w1.heap.size := Nat.lt_of_lt_of_le (by simp) hb1.size
    have hbk := hbx.kept hb1
    obtain ⟨W1, hW1⟩ : ∃ W1, W1 = w1.alloc (.cells #[.func (Fn.func 64) #[] #[], .func (Fn.func 65) #[] #[], .func (Fn.func 66) #[] #[], .func (Fn.func 67) #[] #[]] 58) := ⟨_, rfl⟩
    have hb2 : Below w1.heap.size w1 W1 := by rw [hW1]; exact (Below.refl _ _).alloc (Nat.le_refl _) _
    have B2 := B1.trans (hb2.mono B1.size)
    have hru : W1.heap[w1.heap.size]? = some (.cells #[.func (Fn.func 64) #[] #[], .func (Fn.func 65) #[] #[], .func (Fn.func 66) #[] #[], .func (Fn.func 67) #[] #[]] 58 (0, 0)) := by rw [hW1]; exact heap_alloc_new w1 _
    have HRU : Hid (_) := hru
    have HBK : Hid (_) := hbk.kept hb2
    clear GR hbl hbx hbk hru
    obtain ⟨O, hO⟩ : ∃ O, O = (g.text.toList.isEmpty && g.addr == 0 && g.bits == 0) := ⟨_, rfl⟩
    go_wp2_with fail
    rw [← hW1]
    refine (HO _).mono ?_
    rintro e w3 ⟨rfl, hb3⟩
    rw [← hO] at HI ⊢
    have B3 := B2.trans (hb3.mono B2.size)
    clear HO hO hW1 p0 p1 p2 p3 p4
    cases O with
    | false =>
      have HN : Hid (¬ P) := fun q => Bool.false_ne_true (HI.out.1 q).1
      clear HI
      go_wp2
      go_ret
      exact saysB_f HN.out B3
    | true =>
      have HI2 : Hid (P ↔ nameP xs) := ⟨fun q => (HI.out.1 q).2, fun q => HI.out.2 ⟨rfl, q⟩⟩
      clear HI
      obtain ⟨p0, p1, p2, p3, p4⟩ := (HBK.out.kept hb3).cells
      have hr3 : w3.heap[w1.heap.size]? = some (.cells #[.func (Fn.func 64) #[] #[], .func (Fn.func 65) #[] #[], .func (Fn.func 66) #[] #[], .func (Fn.func 67) #[] #[]] 58 (0, 0)) := (hb3.block _ (Array.getElem?_eq_some_iff.1 HRU.out).1).trans HRU.out
      have f2 : w3.cell? ⟨w1.heap.size, 2, none⟩ = some (.func (Fn.func 66) #[] #[]) := (cell_of_row _ w1.heap.size 2 _ 58 (0, 0) hr3).trans rfl
      clear hr3 HRU HBK
      have NM := partsBase_any g a n c xs w3 (HK.out.kept B3) HZ.out
      unfold gnv at NM
      go_wp2_with fail
      refine NM.mono ?_
      rintro e w4 ⟨b, rfl, HV, hb4⟩
      have B4 := B3.trans (hb4.mono B3.size)
      clear NM
      cases b with
      | false =>
        have HN : Hid (¬ P) := fun q => Bool.false_ne_true (HV.out.2 (HI2.out.1 q))
        clear HV HI2
        go_wp2
        go_ret
        exact saysB_f HN.out B4
      | true =>
        have HN : Hid P := HI2.out.2 (HV.out.1 rfl)
        clear HV HI2
        go_wp2
        go_ret
        exact saysB_t HN.out B4
  have HN : Hid (¬ P) := by show ¬ P; rw [HP.out]; intro q; rcases baseP_kind q with q | q | q | q <;> omega
  have GR := genRulesOf_none g.kind (w.alloc (.cells #[.int .i64 g.kind, .string g.text, .int .i64 g.addr, .int .i64 g.bits, .slice a n c] 30)) (by omega)
  clear HP HK HZ HM k1 k2 k3 k4
  unfold gnv
  go_enter Tryz.func17, Tryz.ntmps17
  go_wp2_with fail
  refine GR.mono ?_
  rintro e w1 ⟨rfl, hb1⟩
  have B1 := hbl.trans (hb1.mono hbl.size)
  have B2 := B1.alloc B1.size (.cells #[.nilFunc, .nilFunc, .nilFunc, .nilFunc] 58 (0, 0))
  go_wp2
  go_ret
  exact saysB_f HN.out B2

end Go.Proofs.YtoncodoimnideaaGreatDoor

namespace Go.Proofs.YtoncodoimnideaaGreatDoor
open Go.RowKit

set_option maxRecDepth 10000 in
set_option maxHeartbeats 8000000 in
theorem implWithin_any (g : GT) (a : Option Addr) (n c : Nat) (xs : List PT) (b : GT) (a2 : Option Addr) (n2 c2 : Nat) (ys : List PT) (w : World) (hm : MaxW w) (h : Pts w a n xs) (hz : ∀ k, k < n → (xs.getD k default).val.size ≤ 1048576) (hs : g.text.size ≤ 1048576) (h2 : Pts w a2 n2 ys) (hz2 : ∀ k, k < n2 → (ys.getD k default).val.size ≤ 1048576) (hs2 : b.text.size ≤ 1048576) :
    Calls Tryz.prog 12 #[gnv g a n c, gnv b a2 n2 c2] w (SaysB (withinP g xs b ys) w) := by
  obtain ⟨P, hP⟩ : ∃ P, P = withinP g xs b ys := ⟨_, rfl⟩
  rw [← hP]
  have HP : Hid (P = withinP g xs b ys) := hP
  have HK : Hid (Pts w a n xs) := h
  have HZ : Hid (_) := hz
  have HK2 : Hid (Pts w a2 n2 ys) := h2
  have HZ2 : Hid (_) := hz2
  have HM : Hid (MaxW w) := hm
  clear hP h hz h2 hz2 hm
  obtain ⟨W, hW, x1, x2, bW, sW⟩ := two_boxes 30 w g a n c b a2 n2 c2
  have SG := fun (w1 : World) (hb : Below w.heap.size w w1) => implGenOk_any g a n c xs w1 (HM.out.kept hb) (HK.out.kept hb) HZ.out hs
  have SB := fun (w1 : World) (hb : Below w.heap.size w w1) => implBaseOk_any b a2 n2 c2 ys w1 (HM.out.kept hb) (HK2.out.kept hb) HZ2.out hs2
  unfold gnv at SG SB ⊢
  by_cases k1 : g.kind = 1
  · have GR : ∀ w, Calls Tryz.prog 32 #[.int .i64 g.kind] w fun e w' => e = .returned (.tuple #[.agg #[.func (Fn.func 53) #[] #[], .func (Fn.func 54) #[] #[], .func (Fn.func 55) #[] #[], .func (Fn.func 56) #[] #[]], .bool true]) ∧ Below w.heap.size w w' := fun w => by rw [k1]; exact genRulesOf_1 w
    have KK : Hid (g.kind = 1) := k1
    clear k1
    go_enter Tryz.func12, Tryz.ntmps12
    go_wp2_with fail
    rw [← hW]
    clear hW
    refine (GR _).mono ?_
    rintro e w1 ⟨rfl, hb1⟩
    have B1 := bW.trans (hb1.mono bW.size)
    obtain ⟨p0, p1, p2, p3, p4⟩ := (x1.kept hb1).cells
    have hlt : w.heap.size + 1 < w1.heap.size := Nat.lt_of_lt_of_le (by omega) hb1.size
    have hlt0 : w.heap.size < w1.heap.size := by omega
    have y1 := x1.kept hb1
    have y2 := x2.kept hb1
    obtain ⟨W1, hW1⟩ : ∃ W1, W1 = w1.alloc (.cells #[.func (Fn.func 53) #[] #[], .func (Fn.func 54) #[] #[], .func (Fn.func 55) #[] #[], .func (Fn.func 56) #[] #[]] 58) := ⟨_, rfl⟩
    have hbb : Below w1.heap.size w1 W1 := by rw [hW1]; exact (Below.refl _ _).alloc (Nat.le_refl _) _
    have BB := B1.trans (hbb.mono B1.size)
    have hru : W1.heap[w1.heap.size]? = some (.cells #[.func (Fn.func 53) #[] #[], .func (Fn.func 54) #[] #[], .func (Fn.func 55) #[] #[], .func (Fn.func 56) #[] #[]] 58 (0, 0)) := by rw [hW1]; exact heap_alloc_new w1 _
    have HRU : Hid (_) := hru
    have Z1 : Hid (_) := y1.kept hbb
    have Z2 : Hid (_) := y2.kept hbb
    clear GR x1 x2 y1 y2 hru bW
    go_wp2_with fail
    rw [← hW1]
    clear hW1
    refine (SG _ BB).mono ?_
    rintro e w2 ⟨r2, rfl, HV2, hb2⟩
    have B2 := BB.trans (hb2.mono BB.size)
    have hr2 : w2.heap[w1.heap.size]? = some (.cells #[.func (Fn.func 53) #[] #[], .func (Fn.func 54) #[] #[], .func (Fn.func 55) #[] #[], .func (Fn.func 56) #[] #[]] 58 (0, 0)) := (hb2.block _ (Array.getElem?_eq_some_iff.1 HRU.out).1).trans HRU.out
    have HR2 : Hid (_) := hr2
    have V1 : Hid (_) := Z1.out.kept hb2
    have V2 : Hid (_) := Z2.out.kept hb2
    clear SG HRU Z1 Z2 hr2 p0 p1 p2 p3 p4
    cases r2 with
    | false =>
      have HN : Hid (¬ P) := by show ¬ P; rw [HP.out]; exact fun q => Bool.false_ne_true (HV2.out.2 q.1)
      clear HP HV2 SB HK HZ HK2 HZ2 V1 V2 HR2
      go_wp2
      go_ret
      exact saysB_f HN.out B2
    | true =>
      have HG : Hid (genP g xs) := HV2.out.1 rfl
      clear HV2
      obtain ⟨q0, q1, q2, q3, q4⟩ := V2.out.cells
      go_wp2_with fail
      refine (SB _ B2).mono ?_
      rintro e w3 ⟨r3, rfl, HV3, hb3⟩
      have B3 := B2.trans (hb3.mono B2.size)
      have hr3 : w3.heap[w1.heap.size]? = some (.cells #[.func (Fn.func 53) #[] #[], .func (Fn.func 54) #[] #[], .func (Fn.func 55) #[] #[], .func (Fn.func 56) #[] #[]] 58 (0, 0)) := (hb3.block _ (Array.getElem?_eq_some_iff.1 HR2.out).1).trans HR2.out
      have f3 : w3.cell? ⟨w1.heap.size, 3, none⟩ = some (.func (Fn.func 56) #[] #[]) := (cell_of_row _ w1.heap.size 3 _ 58 (0, 0) hr3).trans rfl
      have U1 : Hid (_) := V1.out.kept hb3
      have U2 : Hid (_) := V2.out.kept hb3
      clear SB HR2 V1 V2 hr3 q0 q1 q2 q3 q4
      cases r3 with
      | false =>
        have HN : Hid (¬ P) := by show ¬ P; rw [HP.out]; exact fun q => Bool.false_ne_true (HV3.out.2 q.2.1)
        clear HP HV3 HK HZ HK2 HZ2 U1 U2
        go_wp2
        go_ret
        exact saysB_f HN.out B3
      | true =>
        have HB : Hid (baseP b ys) := HV3.out.1 rfl
        clear HV3
        obtain ⟨p0, p1, p2, p3, p4⟩ := U1.out.cells
        obtain ⟨q0, q1, q2, q3, q4⟩ := U2.out.cells
        clear U1 U2
        by_cases hkk : g.kind = b.kind
        · have zk : (g.kind == b.kind) = true := beq_iff_eq.2 hkk
          have HI : Hid (P ↔ relH g.text b.text) := by show P ↔ _; rw [HP.out]; exact withinP_1 HG.out HB.out hkk KK.out
          have NM := hostWithin_any g a n c b a2 n2 c2 w3 hs hs2 (gen_host HG.out KK.out)
          unfold gnv at NM
          clear HP HK HZ HK2 HZ2 HG HB hkk KK
          go_wp2_with fail
          refine NM.mono ?_
          rintro e w4 ⟨r4, rfl, HV4, hb4⟩
          have B4 := B3.trans (hb4.mono B3.size)
          clear NM
          cases r4 with
          | false =>
            have HN : Hid (¬ P) := fun q => Bool.false_ne_true (HV4.out.2 (HI.out.1 q))
            clear HV4 HI
            go_wp2
            go_ret
            exact saysB_f HN.out B4
          | true =>
            have HN : Hid P := HI.out.2 (HV4.out.1 rfl)
            clear HV4 HI
            go_wp2
            go_ret
            exact saysB_t HN.out B4
        · have zk : (g.kind == b.kind) = false := beq_false_of_ne hkk
          have HN : Hid (¬ P) := by show ¬ P; rw [HP.out]; exact fun q => hkk q.2.2.1
          clear HP HK HZ HK2 HZ2 HG HB hkk KK
          go_wp2
          go_ret
          exact saysB_f HN.out B3
  by_cases k2 : g.kind = 2
  · have GR : ∀ w, Calls Tryz.prog 32 #[.int .i64 g.kind] w fun e w' => e = .returned (.tuple #[.agg #[.func (Fn.func 53) #[] #[], .func (Fn.func 57) #[] #[], .func (Fn.func 58) #[] #[], .func (Fn.func 59) #[] #[]], .bool true]) ∧ Below w.heap.size w w' := fun w => by rw [k2]; exact genRulesOf_2 w
    have KK : Hid (g.kind = 2) := k2
    clear k1 k2
    go_enter Tryz.func12, Tryz.ntmps12
    go_wp2_with fail
    rw [← hW]
    clear hW
    refine (GR _).mono ?_
    rintro e w1 ⟨rfl, hb1⟩
    have B1 := bW.trans (hb1.mono bW.size)
    obtain ⟨p0, p1, p2, p3, p4⟩ := (x1.kept hb1).cells
    have hlt : w.heap.size + 1 < w1.heap.size := Nat.lt_of_lt_of_le (by omega) hb1.size
    have hlt0 : w.heap.size < w1.heap.size := by omega
    have y1 := x1.kept hb1
    have y2 := x2.kept hb1
    obtain ⟨W1, hW1⟩ : ∃ W1, W1 = w1.alloc (.cells #[.func (Fn.func 53) #[] #[], .func (Fn.func 57) #[] #[], .func (Fn.func 58) #[] #[], .func (Fn.func 59) #[] #[]] 58) := ⟨_, rfl⟩
    have hbb : Below w1.heap.size w1 W1 := by rw [hW1]; exact (Below.refl _ _).alloc (Nat.le_refl _) _
    have BB := B1.trans (hbb.mono B1.size)
    have hru : W1.heap[w1.heap.size]? = some (.cells #[.func (Fn.func 53) #[] #[], .func (Fn.func 57) #[] #[], .func (Fn.func 58) #[] #[], .func (Fn.func 59) #[] #[]] 58 (0, 0)) := by rw [hW1]; exact heap_alloc_new w1 _
    have HRU : Hid (_) := hru
    have Z1 : Hid (_) := y1.kept hbb
    have Z2 : Hid (_) := y2.kept hbb
    clear GR x1 x2 y1 y2 hru bW
    go_wp2_with fail
    rw [← hW1]
    clear hW1
    refine (SG _ BB).mono ?_
    rintro e w2 ⟨r2, rfl, HV2, hb2⟩
    have B2 := BB.trans (hb2.mono BB.size)
    have hr2 : w2.heap[w1.heap.size]? = some (.cells #[.func (Fn.func 53) #[] #[], .func (Fn.func 57) #[] #[], .func (Fn.func 58) #[] #[], .func (Fn.func 59) #[] #[]] 58 (0, 0)) := (hb2.block _ (Array.getElem?_eq_some_iff.1 HRU.out).1).trans HRU.out
    have HR2 : Hid (_) := hr2
    have V1 : Hid (_) := Z1.out.kept hb2
    have V2 : Hid (_) := Z2.out.kept hb2
    clear SG HRU Z1 Z2 hr2 p0 p1 p2 p3 p4
    cases r2 with
    | false =>
      have HN : Hid (¬ P) := by show ¬ P; rw [HP.out]; exact fun q => Bool.false_ne_true (HV2.out.2 q.1)
      clear HP HV2 SB HK HZ HK2 HZ2 V1 V2 HR2
      go_wp2
      go_ret
      exact saysB_f HN.out B2
    | true =>
      have HG : Hid (genP g xs) := HV2.out.1 rfl
      clear HV2
      obtain ⟨q0, q1, q2, q3, q4⟩ := V2.out.cells
      go_wp2_with fail
      refine (SB _ B2).mono ?_
      rintro e w3 ⟨r3, rfl, HV3, hb3⟩
      have B3 := B2.trans (hb3.mono B2.size)
      have hr3 : w3.heap[w1.heap.size]? = some (.cells #[.func (Fn.func 53) #[] #[], .func (Fn.func 57) #[] #[], .func (Fn.func 58) #[] #[], .func (Fn.func 59) #[] #[]] 58 (0, 0)) := (hb3.block _ (Array.getElem?_eq_some_iff.1 HR2.out).1).trans HR2.out
      have f3 : w3.cell? ⟨w1.heap.size, 3, none⟩ = some (.func (Fn.func 59) #[] #[]) := (cell_of_row _ w1.heap.size 3 _ 58 (0, 0) hr3).trans rfl
      have U1 : Hid (_) := V1.out.kept hb3
      have U2 : Hid (_) := V2.out.kept hb3
      clear SB HR2 V1 V2 hr3 q0 q1 q2 q3 q4
      cases r3 with
      | false =>
        have HN : Hid (¬ P) := by show ¬ P; rw [HP.out]; exact fun q => Bool.false_ne_true (HV3.out.2 q.2.1)
        clear HP HV3 HK HZ HK2 HZ2 U1 U2
        go_wp2
        go_ret
        exact saysB_f HN.out B3
      | true =>
        have HB : Hid (baseP b ys) := HV3.out.1 rfl
        clear HV3
        obtain ⟨p0, p1, p2, p3, p4⟩ := U1.out.cells
        obtain ⟨q0, q1, q2, q3, q4⟩ := U2.out.cells
        clear U1 U2
        by_cases hkk : g.kind = b.kind
        · have zk : (g.kind == b.kind) = true := beq_iff_eq.2 hkk
          have HI : Hid (P ↔ relM g.text b.text) := by show P ↔ _; rw [HP.out]; exact withinP_2 HG.out HB.out hkk KK.out
          have NM := mailWithin_any g a n c b a2 n2 c2 w3 (HM.out.kept B3) hs hs2 (gen_mail HG.out KK.out) (base_mail HB.out (hkk.symm.trans KK.out))
          unfold gnv at NM
          clear HP HK HZ HK2 HZ2 HG HB hkk KK
          go_wp2_with fail
          refine NM.mono ?_
          rintro e w4 ⟨r4, rfl, HV4, hb4⟩
          have B4 := B3.trans (hb4.mono B3.size)
          clear NM
          cases r4 with
          | false =>
            have HN : Hid (¬ P) := fun q => Bool.false_ne_true (HV4.out.2 (HI.out.1 q))
            clear HV4 HI
            go_wp2
            go_ret
            exact saysB_f HN.out B4
          | true =>
            have HN : Hid P := HI.out.2 (HV4.out.1 rfl)
            clear HV4 HI
            go_wp2
            go_ret
            exact saysB_t HN.out B4
        · have zk : (g.kind == b.kind) = false := beq_false_of_ne hkk
          have HN : Hid (¬ P) := by show ¬ P; rw [HP.out]; exact fun q => hkk q.2.2.1
          clear HP HK HZ HK2 HZ2 HG HB hkk KK
          go_wp2
          go_ret
          exact saysB_f HN.out B3
  by_cases k3 : g.kind = 3
  · have GR : ∀ w, Calls Tryz.prog 32 #[.int .i64 g.kind] w fun e w' => e = .returned (.tuple #[.agg #[.func (Fn.func 60) #[] #[], .func (Fn.func 61) #[] #[], .func (Fn.func 62) #[] #[], .func (Fn.func 63) #[] #[]], .bool true]) ∧ Below w.heap.size w w' := fun w => by rw [k3]; exact genRulesOf_3 w
    have KK : Hid (g.kind = 3) := k3
    clear k1 k2 k3
    go_enter Tryz.func12, Tryz.ntmps12
    go_wp2_with fail
    rw [← hW]
    clear hW
    refine (GR _).mono ?_
    rintro e w1 ⟨rfl, hb1⟩
    have B1 := bW.trans (hb1.mono bW.size)
    obtain ⟨p0, p1, p2, p3, p4⟩ := (x1.kept hb1).cells
    have hlt : w.heap.size + 1 < w1.heap.size := Nat.lt_of_lt_of_le (by omega) hb1.size
    have hlt0 : w.heap.size < w1.heap.size := by omega
    have y1 := x1.kept hb1
    have y2 := x2.kept hb1
    obtain ⟨W1, hW1⟩ : ∃ W1, W1 = w1.alloc (.cells #[.func (Fn.func 60) #[] #[], .func (Fn.func 61) #[] #[], .func (Fn.func 62) #[] #[], .func (Fn.func 63) #[] #[]] 58) := ⟨_, rfl⟩
    have hbb : Below w1.heap.size w1 W1 := by rw [hW1]; exact (Below.refl _ _).alloc (Nat.le_refl _) _
    have BB := B1.trans (hbb.mono B1.size)
    have hru : W1.heap[w1.heap.size]? = some (.cells #[.func (Fn.func 60) #[] #[], .func (Fn.func 61) #[] #[], .func (Fn.func 62) #[] #[], .func (Fn.func 63) #[] #[]] 58 (0, 0)) := by rw [hW1]; exact heap_alloc_new w1 _
    have HRU : Hid (_) := hru
    have Z1 : Hid (_) := y1.kept hbb
    have Z2 : Hid (_) := y2.kept hbb
    clear GR x1 x2 y1 y2 hru bW
    go_wp2_with fail
    rw [← hW1]
    clear hW1
    refine (SG _ BB).mono ?_
    rintro e w2 ⟨r2, rfl, HV2, hb2⟩
    have B2 := BB.trans (hb2.mono BB.size)
    have hr2 : w2.heap[w1.heap.size]? = some (.cells #[.func (Fn.func 60) #[] #[], .func (Fn.func 61) #[] #[], .func (Fn.func 62) #[] #[], .func (Fn.func 63) #[] #[]] 58 (0, 0)) := (hb2.block _ (Array.getElem?_eq_some_iff.1 HRU.out).1).trans HRU.out
    have HR2 : Hid (_) := hr2
    have V1 : Hid (_) := Z1.out.kept hb2
    have V2 : Hid (_) := Z2.out.kept hb2
    clear SG HRU Z1 Z2 hr2 p0 p1 p2 p3 p4
    cases r2 with
    | false =>
      have HN : Hid (¬ P) := by show ¬ P; rw [HP.out]; exact fun q => Bool.false_ne_true (HV2.out.2 q.1)
      clear HP HV2 SB HK HZ HK2 HZ2 V1 V2 HR2
      go_wp2
      go_ret
      exact saysB_f HN.out B2
    | true =>
      have HG : Hid (genP g xs) := HV2.out.1 rfl
      clear HV2
      obtain ⟨q0, q1, q2, q3, q4⟩ := V2.out.cells
      go_wp2_with fail
      refine (SB _ B2).mono ?_
      rintro e w3 ⟨r3, rfl, HV3, hb3⟩
      have B3 := B2.trans (hb3.mono B2.size)
      have hr3 : w3.heap[w1.heap.size]? = some (.cells #[.func (Fn.func 60) #[] #[], .func (Fn.func 61) #[] #[], .func (Fn.func 62) #[] #[], .func (Fn.func 63) #[] #[]] 58 (0, 0)) := (hb3.block _ (Array.getElem?_eq_some_iff.1 HR2.out).1).trans HR2.out
      have f3 : w3.cell? ⟨w1.heap.size, 3, none⟩ = some (.func (Fn.func 63) #[] #[]) := (cell_of_row _ w1.heap.size 3 _ 58 (0, 0) hr3).trans rfl
      have U1 : Hid (_) := V1.out.kept hb3
      have U2 : Hid (_) := V2.out.kept hb3
      clear SB HR2 V1 V2 hr3 q0 q1 q2 q3 q4
      cases r3 with
      | false =>
        have HN : Hid (¬ P) := by show ¬ P; rw [HP.out]; exact fun q => Bool.false_ne_true (HV3.out.2 q.2.1)
        clear HP HV3 HK HZ HK2 HZ2 U1 U2
        go_wp2
        go_ret
        exact saysB_f HN.out B3
      | true =>
        have HB : Hid (baseP b ys) := HV3.out.1 rfl
        clear HV3
        obtain ⟨p0, p1, p2, p3, p4⟩ := U1.out.cells
        obtain ⟨q0, q1, q2, q3, q4⟩ := U2.out.cells
        clear U1 U2
        by_cases hkk : g.kind = b.kind
        · have zk : (g.kind == b.kind) = true := beq_iff_eq.2 hkk
          have HI : Hid (P ↔ relA g.addr b.addr b.bits) := by show P ↔ _; rw [HP.out]; exact withinP_3 HG.out HB.out hkk KK.out
          have NM := addrWithin_any g a n c b a2 n2 c2 w3 (base_bits HB.out (hkk.symm.trans KK.out))
          unfold gnv at NM
          clear HP HK HZ HK2 HZ2 HG HB hkk KK
          go_wp2_with fail
          refine NM.mono ?_
          rintro e w4 ⟨r4, rfl, HV4, hb4⟩
          have B4 := B3.trans (hb4.mono B3.size)
          clear NM
          cases r4 with
          | false =>
            have HN : Hid (¬ P) := fun q => Bool.false_ne_true (HV4.out.2 (HI.out.1 q))
            clear HV4 HI
            go_wp2
            go_ret
            exact saysB_f HN.out B4
          | true =>
            have HN : Hid P := HI.out.2 (HV4.out.1 rfl)
            clear HV4 HI
            go_wp2
            go_ret
            exact saysB_t HN.out B4
        · have zk : (g.kind == b.kind) = false := beq_false_of_ne hkk
          have HN : Hid (¬ P) := by show ¬ P; rw [HP.out]; exact fun q => hkk q.2.2.1
          clear HP HK HZ HK2 HZ2 HG HB hkk KK
          go_wp2
          go_ret
          exact saysB_f HN.out B3
  by_cases k4 : g.kind = 4
  · have GR : ∀ w, Calls Tryz.prog 32 #[.int .i64 g.kind] w fun e w' => e = .returned (.tuple #[.agg #[.func (Fn.func 64) #[] #[], .func (Fn.func 65) #[] #[], .func (Fn.func 66) #[] #[], .func (Fn.func 67) #[] #[]], .bool true]) ∧ Below w.heap.size w w' := fun w => by rw [k4]; exact genRulesOf_4 w
    have KK : Hid (g.kind = 4) := k4
    clear k1 k2 k3 k4
    go_enter Tryz.func12, Tryz.ntmps12
    go_wp2_with fail
    rw [← hW]
    clear hW
    refine (GR _).mono ?_
    rintro e w1 ⟨rfl, hb1⟩
    have B1 := bW.trans (hb1.mono bW.size)
    obtain ⟨p0, p1, p2, p3, p4⟩ := (x1.kept hb1).cells
    have hlt : w.heap.size + 1 < w1.heap.size := Nat.lt_of_lt_of_le (by omega) hb1.size
    have hlt0 : w.heap.size < w1.heap.size := by omega
    have y1 := x1.kept hb1
    have y2 := x2.kept hb1
    obtain ⟨W1, hW1⟩ : ∃ W1, W1 = w1.alloc (.cells #[.func (Fn.func 64) #[] #[], .func (Fn.func 65) #[] #[], .func (Fn.func 66) #[] #[], .func (Fn.func 67) #[] #[]] 58) := ⟨_, rfl⟩
    have hbb : Below w1.heap.size w1 W1 := by rw [hW1]; exact (Below.refl _ _).alloc (Nat.le_refl _) _
    have BB := B1.trans (hbb.mono B1.size)
    have hru : W1.heap[w1.heap.size]? = some (.cells #[.func (Fn.func 64) #[] #[], .func (Fn.func 65) #[] #[], .func (Fn.func 66) #[] #[], .func (Fn.func 67) #[] #[]] 58 (0, 0)) := by rw [hW1]; exact heap_alloc_new w1 _
    have HRU : Hid (_) := hru
    have Z1 : Hid (_) := y1.kept hbb
    have Z2 : Hid (_) := y2.kept hbb
    clear GR x1 x2 y1 y2 hru bW
    go_wp2_with fail
    rw [← hW1]
    clear hW1
    refine (SG _ BB).mono ?_
    rintro e w2 ⟨r2, rfl, HV2, hb2⟩
    have B2 := BB.trans (hb2.mono BB.size)
    have hr2 : w2.heap[w1.heap.size]? = some (.cells #[.func (Fn.func 64) #[] #[], .func (Fn.func 65) #[] #[], .func (Fn.func 66) #[] #[], .func (Fn.func 67) #[] #[]] 58 (0, 0)) := (hb2.block _ (Array.getElem?_eq_some_iff.1 HRU.out).1).trans HRU.out
    have HR2 : Hid (_) := hr2
    have V1 : Hid (_) := Z1.out.kept hb2
    have V2 : Hid (_) := Z2.out.kept hb2
    clear SG HRU Z1 Z2 hr2 p0 p1 p2 p3 p4
    cases r2 with
    | false =>
      have HN : Hid (¬ P) := by show ¬ P; rw [HP.out]; exact fun q => Bool.false_ne_true (HV2.out.2 q.1)
      clear HP HV2 SB HK HZ HK2 HZ2 V1 V2 HR2
      go_wp2
      go_ret
      exact saysB_f HN.out B2
    | true =>
      have HG : Hid (genP g xs) := HV2.out.1 rfl
      clear HV2
      obtain ⟨q0, q1, q2, q3, q4⟩ := V2.out.cells
      go_wp2_with fail
      refine (SB _ B2).mono ?_
      rintro e w3 ⟨r3, rfl, HV3, hb3⟩
      have B3 := B2.trans (hb3.mono B2.size)
      have hr3 : w3.heap[w1.heap.size]? = some (.cells #[.func (Fn.func 64) #[] #[], .func (Fn.func 65) #[] #[], .func (Fn.func 66) #[] #[], .func (Fn.func 67) #[] #[]] 58 (0, 0)) := (hb3.block _ (Array.getElem?_eq_some_iff.1 HR2.out).1).trans HR2.out
      have f3 : w3.cell? ⟨w1.heap.size, 3, none⟩ = some (.func (Fn.func 67) #[] #[]) := (cell_of_row _ w1.heap.size 3 _ 58 (0, 0) hr3).trans rfl
      have U1 : Hid (_) := V1.out.kept hb3
      have U2 : Hid (_) := V2.out.kept hb3
      clear SB HR2 V1 V2 hr3 q0 q1 q2 q3 q4
      cases r3 with
      | false =>
        have HN : Hid (¬ P) := by show ¬ P; rw [HP.out]; exact fun q => Bool.false_ne_true (HV3.out.2 q.2.1)
        clear HP HV3 HK HZ HK2 HZ2 U1 U2
        go_wp2
        go_ret
        exact saysB_f HN.out B3
      | true =>
        have HB : Hid (baseP b ys) := HV3.out.1 rfl
        clear HV3
        obtain ⟨p0, p1, p2, p3, p4⟩ := U1.out.cells
        obtain ⟨q0, q1, q2, q3, q4⟩ := U2.out.cells
        clear U1 U2
        by_cases hkk : g.kind = b.kind
        · have zk : (g.kind == b.kind) = true := beq_iff_eq.2 hkk
          have HI : Hid (P ↔ underP xs ys) := by show P ↔ _; rw [HP.out]; exact withinP_4 HG.out HB.out hkk KK.out
          have NM := partsWithin_any g a n c xs b a2 n2 c2 ys w3 (HK.out.kept B3) HZ.out (HK2.out.kept B3) HZ2.out
          unfold gnv at NM
          clear HP HK HZ HK2 HZ2 HG HB hkk KK
          go_wp2_with fail
          refine NM.mono ?_
          rintro e w4 ⟨r4, rfl, HV4, hb4⟩
          have B4 := B3.trans (hb4.mono B3.size)
          clear NM
          cases r4 with
          | false =>
            have HN : Hid (¬ P) := fun q => Bool.false_ne_true (HV4.out.2 (HI.out.1 q))
            clear HV4 HI
            go_wp2
            go_ret
            exact saysB_f HN.out B4
          | true =>
            have HN : Hid P := HI.out.2 (HV4.out.1 rfl)
            clear HV4 HI
            go_wp2
            go_ret
            exact saysB_t HN.out B4
        · have zk : (g.kind == b.kind) = false := beq_false_of_ne hkk
          have HN : Hid (¬ P) := by show ¬ P; rw [HP.out]; exact fun q => hkk q.2.2.1
          clear HP HK HZ HK2 HZ2 HG HB hkk KK
          go_wp2
          go_ret
          exact saysB_f HN.out B3
  have HN : Hid (¬ P) := by show ¬ P; rw [HP.out]; intro q; rcases genP_kind q.1 with q | q | q | q <;> omega
  have GR := genRulesOf_none g.kind W (by omega)
  clear HP HK HZ HK2 HZ2 HM k1 k2 k3 k4 SG SB x1 x2
  go_enter Tryz.func12, Tryz.ntmps12
  go_wp2_with fail
  rw [← hW]
  clear hW
  refine GR.mono ?_
  rintro e w1 ⟨rfl, hb1⟩
  have B1 := bW.trans (hb1.mono bW.size)
  have B2 := B1.alloc B1.size (.cells #[.nilFunc, .nilFunc, .nilFunc, .nilFunc] 58 (0, 0))
  go_wp2
  go_ret
  exact saysB_f HN.out B2

end Go.Proofs.YtoncodoimnideaaGreatDoor

