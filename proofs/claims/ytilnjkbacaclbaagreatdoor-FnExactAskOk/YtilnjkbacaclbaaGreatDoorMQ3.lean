import Derived.Test.YtilnjkbacaclbaaGreatDoorCAt
import Derived.Test.YtilnjkbacaclbaaGreatDoorProg
import Derived.Test.YtilnjkbacaclbaaGreatDoorGN4
import Derived.Laws.EntriesVeiled
import Derived.Laws.Tables
import Derived.Great.BuildSlice
import Derived.Great.Walk
import Derived.Deep.Cut
import Derived.Test.YtilnjkbacaclbaaGreatDoorK6
import Derived.Test.YtilnjkbacaclbaaGreatDoorN9
import Derived.Test.YtilnjkbacaclbaaGreatDoorAQ3
namespace Go.Proofs.YtilnjkbacaclbaaGreatDoor
open Go.RowKit

set_option maxRecDepth 10000 in
set_option maxHeartbeats 400000 in
theorem l1In_says (x lo hi : Int) (w : World) : Calls Tryz.prog 14 #[.int .i64 x, .int .i64 lo, .int .i64 hi] w (SaysW (lo ≤ x ∧ x ≤ hi) w) := by
  have hc : (lo ≤ x ∧ x ≤ hi) ∨ (lo ≤ x ∧ hi < x) ∨ x < lo := by omega
  rcases hc with ⟨h1, h2⟩ | ⟨h1, h2⟩ | h1
  · have HN : Hid (lo ≤ x ∧ x ≤ hi) := ⟨h1, h2⟩
    have z1 : decide (lo ≤ x) = true := decide_eq_true h1
    have z2 : decide (x ≤ hi) = true := decide_eq_true h2
    go_enter Tryz.func14, Tryz.ntmps14
    go_wp2
    go_ret
    exact saysW_t HN.out
  · have HN : Hid (¬ (lo ≤ x ∧ x ≤ hi)) := fun h => by omega
    have z1 : decide (lo ≤ x) = true := decide_eq_true h1
    have z2 : decide (x ≤ hi) = false := decide_eq_false (by omega)
    go_enter Tryz.func14, Tryz.ntmps14
    go_wp2
    go_ret
    exact saysW_f HN.out
  · have HN : Hid (¬ (lo ≤ x ∧ x ≤ hi)) := fun h => by omega
    have z1 : decide (lo ≤ x) = false := decide_eq_false (by omega)
    go_enter Tryz.func14, Tryz.ntmps14
    go_wp2
    go_ret
    exact saysW_f HN.out

set_option maxRecDepth 10000 in
set_option maxHeartbeats 400000 in
theorem inBounds_says (x lo hi : Int) (w : World) : Calls Tryz.prog 22 #[.int .i64 x, .int .i64 lo, .int .i64 hi] w (SaysW (lo ≤ x ∧ x ≤ hi) w) := by
  have hc : (lo ≤ x ∧ x ≤ hi) ∨ (lo ≤ x ∧ hi < x) ∨ x < lo := by omega
  rcases hc with ⟨h1, h2⟩ | ⟨h1, h2⟩ | h1
  · have HN : Hid (lo ≤ x ∧ x ≤ hi) := ⟨h1, h2⟩
    have z1 : decide (lo ≤ x) = true := decide_eq_true h1
    have z2 : decide (x ≤ hi) = true := decide_eq_true h2
    go_enter Tryz.func22, Tryz.ntmps22
    go_wp2
    go_ret
    exact saysW_t HN.out
  · have HN : Hid (¬ (lo ≤ x ∧ x ≤ hi)) := fun h => by omega
    have z1 : decide (lo ≤ x) = true := decide_eq_true h1
    have z2 : decide (x ≤ hi) = false := decide_eq_false (by omega)
    go_enter Tryz.func22, Tryz.ntmps22
    go_wp2
    go_ret
    exact saysW_f HN.out
  · have HN : Hid (¬ (lo ≤ x ∧ x ≤ hi)) := fun h => by omega
    have z1 : decide (lo ≤ x) = false := decide_eq_false (by omega)
    go_enter Tryz.func22, Tryz.ntmps22
    go_wp2
    go_ret
    exact saysW_f HN.out

end Go.Proofs.YtilnjkbacaclbaaGreatDoor

namespace Go.Proofs.YtilnjkbacaclbaaGreatDoor
open Go.RowKit

theorem genP_1 {g : GT} {xs : List PT} (hk : g.kind = 1) (hb : bareB g xs.length = true) (h0 : g.bits = 0) : genP g xs ↔ hostP g.text true := by
  obtain ⟨q1, q2⟩ := bare_12 hb (.inl hk)
  unfold genP
  constructor
  · rintro (⟨_, _, h⟩ | ⟨h, _⟩ | ⟨h, _⟩ | ⟨h, _⟩)
    · exact h
    all_goals omega
  · exact fun h => .inl ⟨hk, ⟨q1, h0, q2⟩, h⟩
theorem genP_2 {g : GT} {xs : List PT} (hk : g.kind = 2) (hb : bareB g xs.length = true) (h0 : g.bits = 0) : genP g xs ↔ mailP g.text := by
  obtain ⟨q1, q2⟩ := bare_12 hb (.inr hk)
  unfold genP
  constructor
  · rintro (⟨h, _⟩ | ⟨_, _, h⟩ | ⟨h, _⟩ | ⟨h, _⟩)
    · omega
    · exact h
    all_goals omega
  · exact fun h => .inr (.inl ⟨hk, ⟨q1, h0, q2⟩, h⟩)
theorem genP_3 {g : GT} {xs : List PT} (hk : g.kind = 3) (hb : bareB g xs.length = true) (h0 : g.bits = 0) : genP g xs ↔ (0 ≤ g.addr ∧ g.addr ≤ 4294967295) := by
  obtain ⟨q1, q2⟩ := bare_3 hb hk
  unfold genP
  constructor
  · rintro (⟨h, _⟩ | ⟨h, _⟩ | ⟨_, _, h, _⟩ | ⟨h, _⟩)
    · omega
    · omega
    · exact h
    · omega
  · exact fun h => .inr (.inr (.inl ⟨hk, ⟨q1, q2⟩, h, h0⟩))
theorem genP_4 {g : GT} {xs : List PT} (hk : g.kind = 4) (hb : bareB g xs.length = true) (h0 : g.bits = 0) : genP g xs ↔ (nameP xs ∧ 0 < xs.length) := by
  obtain ⟨q1, q2⟩ := bare_4 hb hk
  unfold genP
  constructor
  · rintro (⟨h, _⟩ | ⟨h, _⟩ | ⟨h, _⟩ | ⟨_, _, h⟩)
    · omega
    · omega
    · omega
    · exact h
  · exact fun h => .inr (.inr (.inr ⟨hk, ⟨q1, q2, h0⟩, h⟩))
theorem genP_bits {g : GT} {xs : List PT} (h : genP g xs) : g.bits = 0 := by
  rcases h with ⟨_, ⟨_, h, _⟩, _⟩ | ⟨_, ⟨_, h, _⟩, _⟩ | ⟨_, _, _, h⟩ | ⟨_, ⟨_, _, h⟩, _⟩ <;> exact h
theorem genP_kind {g : GT} {xs : List PT} (h : genP g xs) : g.kind = 1 ∨ g.kind = 2 ∨ g.kind = 3 ∨ g.kind = 4 := by
  rcases h with ⟨h, _⟩ | ⟨h, _⟩ | ⟨h, _⟩ | ⟨h, _⟩ <;> omega
theorem baseP_kind {g : GT} {xs : List PT} (h : baseP g xs) : g.kind = 1 ∨ g.kind = 2 ∨ g.kind = 3 ∨ g.kind = 4 := by
  rcases h with ⟨h, _⟩ | ⟨h, _⟩ | ⟨h, _⟩ | ⟨h, _⟩ <;> omega

set_option maxRecDepth 10000 in
set_option maxHeartbeats 4000000 in
theorem specGenOk_any (g : GT) (a : Option Addr) (n c : Nat) (xs : List PT) (w : World) (h : Pts w a n xs) (hz : ∀ k, k < n → (xs.getD k default).val.size ≤ 1048576) (hs : g.text.size ≤ 1048576) :
    Calls Tryz.prog 16 #[gnv g a n c] w (SaysB (genP g xs) w) := by
  obtain ⟨P, hP⟩ : ∃ P, P = genP g xs := ⟨_, rfl⟩
  rw [← hP]
  have HP : Hid (P = genP g xs) := hP
  have HK : Hid (Pts w a n xs) := h
  have HZ : Hid (_) := hz
  have hl := h.len
  have hmx := h.max
  clear hP h hz
  have hbl : Below w.heap.size w (w.alloc (.cells #[.int .i64 g.kind, .string g.text, .int .i64 g.addr, .int .i64 g.bits, .slice a n c] 38)) := (Below.refl _ _).alloc (Nat.le_refl _) _
  have hbx := boxG_new 38 w g a n c
  have LB := l6Bare_any g a n c
  unfold gnv at LB ⊢
  go_enter Tryz.func16, Tryz.ntmps16
  go_wp2_with fail
  refine (LB _).mono ?_
  rintro e w1 ⟨rfl, hb1⟩
  have B1 : Below w.heap.size w w1 := hbl.trans (hb1.mono hbl.size)
  obtain ⟨p0, p1, p2, p3, p4⟩ := (hbx.kept hb1).cells
  have hlt : w.heap.size < w1.heap.size := Nat.lt_of_lt_of_le (by simp) hb1.size
  obtain ⟨B, hB⟩ : ∃ B, B = bareB g n := ⟨_, rfl⟩
  rw [← hB]
  clear LB hbx hbl hb1
  cases B with
  | false =>
    have HN : Hid (¬ P) := by show ¬ P; rw [HP.out]; exact (bare_f (by rw [hl]; exact hB.symm)).1
    clear hB HP HK HZ
    go_wp2
    go_ret
    exact saysB_f HN.out B1
  | true =>
    have HBB : Hid (bareB g xs.length = true) := by show _ = true; rw [hl]; exact hB.symm
    clear hB
    by_cases hb0 : g.bits = 0
    · have zb : (g.bits != 0) = false := by simp [hb0]
      by_cases k1 : g.kind = 1
      · have HI : Hid (P ↔ hostP g.text true) := by show P ↔ _; rw [HP.out]; exact genP_1 k1 HBB.out hb0
        have e1 : (g.kind == 1) = true := beq_iff_eq.2 k1
        clear HP HK HZ HBB hb0 k1
        go_wp2_with fail
        refine (specHostOk_any g.text true _).mono ?_
        rintro e w2 ⟨b, rfl, HV, hb2⟩
        have B2 : Below w.heap.size w w2 := B1.trans (hb2.mono B1.size)
        go_wp2
        go_ret
        exact ⟨b, rfl, HV.out.trans HI.out.symm, B2⟩
      have e1 : (g.kind == 1) = false := beq_false_of_ne k1
      by_cases k2 : g.kind = 2
      · have HI : Hid (P ↔ mailP g.text) := by show P ↔ _; rw [HP.out]; exact genP_2 k2 HBB.out hb0
        have e2 : (g.kind == 2) = true := beq_iff_eq.2 k2
        clear HP HK HZ HBB hb0 k1 k2
        go_wp2_with fail
        refine (l6MailOk_any g.text _ hs).mono ?_
        rintro e w2 ⟨b, rfl, HV, hb2⟩
        have B2 : Below w.heap.size w w2 := B1.trans (hb2.mono B1.size)
        go_wp2
        go_ret
        exact ⟨b, rfl, HV.out.trans HI.out.symm, B2⟩
      have e2 : (g.kind == 2) = false := beq_false_of_ne k2
      by_cases k3 : g.kind = 3
      · have HI : Hid (P ↔ (0 ≤ g.addr ∧ g.addr ≤ 4294967295)) := by show P ↔ _; rw [HP.out]; exact genP_3 k3 HBB.out hb0
        have e3 : (g.kind == 3) = true := beq_iff_eq.2 k3
        clear HP HK HZ HBB hb0 k1 k2 k3
        go_wp2_with fail
        refine (l1In_says g.addr 0 4294967295 _).mono ?_
        rintro e w2 ⟨b, rfl, HV, hw2⟩
        subst hw2
        go_wp2
        go_ret
        exact ⟨b, rfl, HV.out.trans HI.out.symm, B1⟩
      have e3 : (g.kind == 3) = false := beq_false_of_ne k3
      by_cases k4 : g.kind = 4
      · have HI : Hid (P ↔ (nameP xs ∧ 0 < xs.length)) := by show P ↔ _; rw [HP.out]; exact genP_4 k4 HBB.out hb0
        have e4 : (g.kind == 4) = true := beq_iff_eq.2 k4
        clear HP HBB hb0 k1 k2 k3 k4
        have SN := specNameOk_any a n c xs w1 (HK.out.kept B1) HZ.out
        unfold nmv at SN
        go_wp2_with fail
        refine SN.mono ?_
        rintro e w2 ⟨b, rfl, HV, hb2⟩
        have B2 : Below w.heap.size w w2 := B1.trans (hb2.mono B1.size)
        have y4 : w2.cell? ⟨w.heap.size, 4, none⟩ = some (.slice a n c) := (hb2.cell (p := ⟨w.heap.size, 4, none⟩) hlt).trans p4
        clear SN HK HZ
        cases b with
        | false =>
          have HN : Hid (¬ P) := fun q => Bool.false_ne_true (HV.out.2 (HI.out.1 q).1)
          clear HV HI
          go_wp2
          go_ret
          exact saysB_f HN.out B2
        | true =>
          by_cases hn0 : 0 < n
          · have HN : Hid P := HI.out.2 ⟨HV.out.1 rfl, by rw [hl]; exact hn0⟩
            have zn : decide ((0 : Int) < (n : Int)) = true := decide_eq_true (by omega)
            clear HV HI
            go_wp2
            go_ret
            exact saysB_t HN.out B2
          · have HN : Hid (¬ P) := fun q => hn0 (by rw [← hl]; exact (HI.out.1 q).2)
            have zn : decide ((0 : Int) < (n : Int)) = false := decide_eq_false (by omega)
            clear HV HI
            go_wp2
            go_ret
            exact saysB_f HN.out B2
      · have e4 : (g.kind == 4) = false := beq_false_of_ne k4
        have HN : Hid (¬ P) := by show ¬ P; rw [HP.out]; intro q; rcases genP_kind q with q | q | q | q <;> omega
        clear HP HK HZ HBB hb0 k1 k2 k3 k4
        go_wp2
        go_ret
        exact saysB_f HN.out B1
    · have zb : (g.bits != 0) = true := bne_iff_ne.2 hb0
      have HN : Hid (¬ P) := by show ¬ P; rw [HP.out]; exact fun q => hb0 (genP_bits q)
      clear HP HK HZ HBB hb0
      go_wp2
      go_ret
      exact saysB_f HN.out B1

end Go.Proofs.YtilnjkbacaclbaaGreatDoor

namespace Go.Proofs.YtilnjkbacaclbaaGreatDoor
open Go.RowKit

theorem results_gr {fn : Func} {t u : Tmp} (h : fn.results = #[.cell t 94, .tmp u]) (tmps : Array Value) (g : Nat) (b : Bool) (ht : tmps.getD t undef = .pointer (some ⟨g, 0, none⟩)) (hu : tmps.getD u undef = .bool b) (w : World) (c0 c1 c2 c3 : Value)
    (hb : w.heap[g]? = some (.cells #[c0, c1, c2, c3] 94 (0, 0))) : (results fn tmps).run Tryz.prog w = .ok (.tuple #[.agg #[c0, c1, c2, c3], .bool b]) w := by
  have d0 : w.cell? ⟨g, 0, none⟩ = some c0 := (cell_of_row _ g 0 _ 94 (0, 0) hb).trans rfl
  have d1 : w.cell? ⟨g, 1, none⟩ = some c1 := (cell_of_row _ g 1 _ 94 (0, 0) hb).trans rfl
  have d2 : w.cell? ⟨g, 2, none⟩ = some c2 := (cell_of_row _ g 2 _ 94 (0, 0) hb).trans rfl
  have d3 : w.cell? ⟨g, 3, none⟩ = some c3 := (cell_of_row _ g 3 _ 94 (0, 0) hb).trans rfl
  clear hb
  have ht' : tmps[t]?.getD undef = .pointer (some ⟨g, 0, none⟩) := by rw [← ht]; simp
  have hu' : tmps[u]?.getD undef = .bool b := by rw [← hu]; simp
  simp [results, h, go_sem, ht', hu', d0, d1, d2, d3]

theorem below_setRow {B : Nat} {w w' : World} (h : Below B w w') {g : Nat} (hg : B ≤ g) (cs : Array Value) : Below B w (w'.setRow g cs) :=
  h.trans ⟨rfl, rfl, rfl, by simp, fun k hk => setRow_other _ _ _ _ (by omega)⟩

def tabC : Array Value := #[.nilFunc, .nilFunc, .nilFunc, .nilFunc, .func (Fn.func 37) #[] #[], .func (Fn.func 63) #[] #[], .func (Fn.func 64) #[] #[], .func (Fn.func 65) #[] #[], .func (Fn.func 37) #[] #[], .func (Fn.func 66) #[] #[], .func (Fn.func 67) #[] #[], .func (Fn.func 68) #[] #[], .func (Fn.func 69) #[] #[], .func (Fn.func 70) #[] #[], .func (Fn.func 71) #[] #[], .func (Fn.func 72) #[] #[], .func (Fn.func 73) #[] #[], .func (Fn.func 74) #[] #[], .func (Fn.func 75) #[] #[], .func (Fn.func 76) #[] #[]]
def zero20 : Array Value := #[.nilFunc, .nilFunc, .nilFunc, .nilFunc, .nilFunc, .nilFunc, .nilFunc, .nilFunc, .nilFunc, .nilFunc, .nilFunc, .nilFunc, .nilFunc, .nilFunc, .nilFunc, .nilFunc, .nilFunc, .nilFunc, .nilFunc, .nilFunc]
/-- The table that is laid: what of it is read. -/
structure TabF (w W : World) : Prop where
  cell : ∀ j, W.cell? ⟨w.heap.size + 1, j, none⟩ = tabC[j]?
  res : W.heap[w.heap.size]? = some (.cells #[.nilFunc, .nilFunc, .nilFunc, .nilFunc] 94 (0, 0))
  size : W.heap.size = w.heap.size + 2
  below : Below w.heap.size w W
theorem tab_heap (w : World) : ((w.alloc (.cells #[.nilFunc, .nilFunc, .nilFunc, .nilFunc] 94)).alloc (.cells zero20 109)).heap[w.heap.size + 1]? = some (.cells zero20 109 (0, 0)) := by
  have := heap_alloc_new (w.alloc (.cells #[.nilFunc, .nilFunc, .nilFunc, .nilFunc] 94)) (.cells zero20 109 (0, 0))
  simpa using this
theorem tabF_is (w : World) : TabF w (((w.alloc (.cells #[.nilFunc, .nilFunc, .nilFunc, .nilFunc] 94)).alloc (.cells zero20 109)).setRow (w.heap.size + 1) tabC) := by
  have h0 : ((w.alloc (.cells #[.nilFunc, .nilFunc, .nilFunc, .nilFunc] 94)).alloc (.cells zero20 109)).heap[w.heap.size]? = some (.cells #[.nilFunc, .nilFunc, .nilFunc, .nilFunc] 94 (0, 0)) := by
    have hb := ((Below.refl (w.alloc (.cells #[.nilFunc, .nilFunc, .nilFunc, .nilFunc] 94)).heap.size (w.alloc (.cells #[.nilFunc, .nilFunc, .nilFunc, .nilFunc] 94))).alloc (Nat.le_refl _) (.cells zero20 109 (0, 0))).block w.heap.size (by simp)
    exact hb.trans (heap_alloc_new w _)
  have hb : Below w.heap.size w ((w.alloc (.cells #[.nilFunc, .nilFunc, .nilFunc, .nilFunc] 94)).alloc (.cells zero20 109)) := ((Below.refl _ _).alloc (Nat.le_refl _) _).alloc (by simp) _
  exact ⟨fun j => cell_setRow_same _ _ j zero20 tabC 109 (0, 0) (tab_heap w), (setRow_other _ _ _ _ (by omega)).trans h0, by simp, below_setRow hb (by omega) tabC⟩
theorem info20 : (Tryz.prog.info? 109).map (·.size) = some tabC.size := by kernel_rfl
theorem one20 : (tabC.all fun x => x.oneCell') = true := by kernel_rfl
theorem alloc20 (w : World) (a : Act) (o : Oper) (ho : o.op = .alloc 109) : (execOp a.eval o).run Tryz.prog w = .ok (.value (.pointer (some ⟨w.heap.size, 0, none⟩))) (w.alloc (.cells zero20 109)) := by
  simp [execOp, ho, go_sem, zero20]
theorem alloc20b (w : World) (a : Act) (o : Oper) (ho : o.op = .alloc 109) : (execOp a.eval o).run Tryz.prog (w.alloc (.cells #[.nilFunc, .nilFunc, .nilFunc, .nilFunc] 94)) = .ok (.value (.pointer (some ⟨w.heap.size + 1, 0, none⟩))) ((w.alloc (.cells #[.nilFunc, .nilFunc, .nilFunc, .nilFunc] 94)).alloc (.cells zero20 109)) := by
  have h := alloc20 (w.alloc (.cells #[.nilFunc, .nilFunc, .nilFunc, .nilFunc] 94)) a o ho
  rw [show (w.alloc (.cells #[.nilFunc, .nilFunc, .nilFunc, .nilFunc] 94)).heap.size = w.heap.size + 1 by simp] at h
  exact h

set_option maxRecDepth 10000 in
set_option maxHeartbeats 1000000 in
theorem genRulesOf_1 (w : World) : Calls Tryz.prog 55 #[.int .i64 1] w fun e w' => e = .returned (.tuple #[.agg #[.func (Fn.func 37) #[] #[], .func (Fn.func 63) #[] #[], .func (Fn.func 64) #[] #[], .func (Fn.func 65) #[] #[]], .bool true]) ∧ Below w.heap.size w w' := by
  go_enter Tryz.func55, Tryz.ntmps55
  go_upto_region 1 with fail
  rename_i K0 hK0
  apply wp_region_lit
  refine wpList_buildTo rfl 94 _ rfl (some 5) rfl #[.func (Fn.func 37) #[] #[], .func (Fn.func 63) #[] #[], .func (Fn.func 64) #[] #[], .func (Fn.func 65) #[] #[]] (by as_aux_lemma => kernel_rfl) ?_
  refine wpList_buildTo rfl 94 _ rfl (some 6) rfl #[.func (Fn.func 37) #[] #[], .func (Fn.func 66) #[] #[], .func (Fn.func 67) #[] #[], .func (Fn.func 68) #[] #[]] (by as_aux_lemma => kernel_rfl) ?_
  refine wpList_buildTo rfl 94 _ rfl (some 7) rfl #[.func (Fn.func 69) #[] #[], .func (Fn.func 70) #[] #[], .func (Fn.func 71) #[] #[], .func (Fn.func 72) #[] #[]] (by as_aux_lemma => kernel_rfl) ?_
  refine wpList_buildTo rfl 94 _ rfl (some 8) rfl #[.func (Fn.func 73) #[] #[], .func (Fn.func 74) #[] #[], .func (Fn.func 75) #[] #[], .func (Fn.func 76) #[] #[]] (by as_aux_lemma => kernel_rfl) ?_
  refine wpList_buildTo rfl 109 _ rfl (some 9) rfl tabC (by as_aux_lemma => kernel_rfl) ?_
  refine Great.wpList_allocTo rfl (some 4) rfl _ _ (alloc20b w _ _ rfl) ?_
  refine wpList_store_rowTo rfl 109 _ _ rfl rfl (w.heap.size + 1) tabC rfl rfl 109 zero20 (tab_heap w) info20 rfl one20 ?_
  apply wpList_nil
  refine hK0 _ _ ?_
  have HF : Hid (TabF w _) := tabF_is w
  obtain ⟨W, hW⟩ : ∃ W, W = ((w.alloc (.cells #[.nilFunc, .nilFunc, .nilFunc, .nilFunc] 94)).alloc (.cells zero20 109)).setRow (w.heap.size + 1) tabC := ⟨_, rfl⟩
  rw [← hW] at HF ⊢
  clear hW hK0 K0
  obtain ⟨TT, hTT⟩ : ∃ TT, TT = tabC := ⟨_, rfl⟩
  rw [← hTT]
  clear hTT
  have sz := HF.out.size
  have c0 : W.cell? ⟨w.heap.size + 1, 4, none⟩ = some (.func (Fn.func 37) #[] #[]) := HF.out.cell 4
  have c1 : W.cell? ⟨w.heap.size + 1, 5, none⟩ = some (.func (Fn.func 63) #[] #[]) := HF.out.cell 5
  have c2 : W.cell? ⟨w.heap.size + 1, 6, none⟩ = some (.func (Fn.func 64) #[] #[]) := HF.out.cell 6
  have c3 : W.cell? ⟨w.heap.size + 1, 7, none⟩ = some (.func (Fn.func 65) #[] #[]) := HF.out.cell 7
  have fz0 : W.frozen? ⟨w.heap.size, 0, none⟩ = false := frozen_of_row W w.heap.size 0 _ 94 HF.out.res
  have fz1 : W.frozen? ⟨w.heap.size, 1, none⟩ = false := frozen_of_row W w.heap.size 1 _ 94 HF.out.res
  have fz2 : W.frozen? ⟨w.heap.size, 2, none⟩ = false := frozen_of_row W w.heap.size 2 _ 94 HF.out.res
  have fz3 : W.frozen? ⟨w.heap.size, 3, none⟩ = false := frozen_of_row W w.heap.size 3 _ 94 HF.out.res
  have r0 : W.cell? ⟨w.heap.size, 0, none⟩ = some .nilFunc := (cell_of_row _ w.heap.size 0 _ 94 (0, 0) HF.out.res).trans rfl
  have r1 : W.cell? ⟨w.heap.size, 1, none⟩ = some .nilFunc := (cell_of_row _ w.heap.size 1 _ 94 (0, 0) HF.out.res).trans rfl
  have r2 : W.cell? ⟨w.heap.size, 2, none⟩ = some .nilFunc := (cell_of_row _ w.heap.size 2 _ 94 (0, 0) HF.out.res).trans rfl
  have r3 : W.cell? ⟨w.heap.size, 3, none⟩ = some .nilFunc := (cell_of_row _ w.heap.size 3 _ 94 (0, 0) HF.out.res).trans rfl
  go_wp2_with fail
  refine (inBounds_says 1 1 4 _).mono ?_
  rintro e w1 ⟨b, rfl, HV, hw⟩
  obtain rfl : b = true := HV.out.2 ⟨by decide, by decide⟩
  subst hw
  clear HV
  go_wp2
  have q0 := HF.out.res
  have q1 := heap_setCell_same _ w.heap.size 0 _ 94 (.func (Fn.func 37) #[] #[]) q0
  have q2 := heap_setCell_same _ w.heap.size 1 _ 94 (.func (Fn.func 63) #[] #[]) q1
  have q3 := heap_setCell_same _ w.heap.size 2 _ 94 (.func (Fn.func 64) #[] #[]) q2
  have q4 := heap_setCell_same _ w.heap.size 3 _ 94 (.func (Fn.func 65) #[] #[]) q3
  try simp only [Exit.inBlock, Exit.then]
  refine bodyPost_ret (results_gr rfl _ w.heap.size true rfl rfl _ _ _ _ _ q4) rfl ⟨rfl, ?_⟩
  exact (((HF.out.below.setCell (by simp) _).setCell (by simp) _).setCell (by simp) _).setCell (by simp) _

set_option maxRecDepth 10000 in
set_option maxHeartbeats 1000000 in
theorem genRulesOf_2 (w : World) : Calls Tryz.prog 55 #[.int .i64 2] w fun e w' => e = .returned (.tuple #[.agg #[.func (Fn.func 37) #[] #[], .func (Fn.func 66) #[] #[], .func (Fn.func 67) #[] #[], .func (Fn.func 68) #[] #[]], .bool true]) ∧ Below w.heap.size w w' := by
  go_enter Tryz.func55, Tryz.ntmps55
  go_upto_region 1 with fail
  rename_i K0 hK0
  apply wp_region_lit
  refine wpList_buildTo rfl 94 _ rfl (some 5) rfl #[.func (Fn.func 37) #[] #[], .func (Fn.func 63) #[] #[], .func (Fn.func 64) #[] #[], .func (Fn.func 65) #[] #[]] (by as_aux_lemma => kernel_rfl) ?_
  refine wpList_buildTo rfl 94 _ rfl (some 6) rfl #[.func (Fn.func 37) #[] #[], .func (Fn.func 66) #[] #[], .func (Fn.func 67) #[] #[], .func (Fn.func 68) #[] #[]] (by as_aux_lemma => kernel_rfl) ?_
  refine wpList_buildTo rfl 94 _ rfl (some 7) rfl #[.func (Fn.func 69) #[] #[], .func (Fn.func 70) #[] #[], .func (Fn.func 71) #[] #[], .func (Fn.func 72) #[] #[]] (by as_aux_lemma => kernel_rfl) ?_
  refine wpList_buildTo rfl 94 _ rfl (some 8) rfl #[.func (Fn.func 73) #[] #[], .func (Fn.func 74) #[] #[], .func (Fn.func 75) #[] #[], .func (Fn.func 76) #[] #[]] (by as_aux_lemma => kernel_rfl) ?_
  refine wpList_buildTo rfl 109 _ rfl (some 9) rfl tabC (by as_aux_lemma => kernel_rfl) ?_
  refine Great.wpList_allocTo rfl (some 4) rfl _ _ (alloc20b w _ _ rfl) ?_
  refine wpList_store_rowTo rfl 109 _ _ rfl rfl (w.heap.size + 1) tabC rfl rfl 109 zero20 (tab_heap w) info20 rfl one20 ?_
  apply wpList_nil
  refine hK0 _ _ ?_
  have HF : Hid (TabF w _) := tabF_is w
  obtain ⟨W, hW⟩ : ∃ W, W = ((w.alloc (.cells #[.nilFunc, .nilFunc, .nilFunc, .nilFunc] 94)).alloc (.cells zero20 109)).setRow (w.heap.size + 1) tabC := ⟨_, rfl⟩
  rw [← hW] at HF ⊢
  clear hW hK0 K0
  obtain ⟨TT, hTT⟩ : ∃ TT, TT = tabC := ⟨_, rfl⟩
  rw [← hTT]
  clear hTT
  have sz := HF.out.size
  have c0 : W.cell? ⟨w.heap.size + 1, 8, none⟩ = some (.func (Fn.func 37) #[] #[]) := HF.out.cell 8
  have c1 : W.cell? ⟨w.heap.size + 1, 9, none⟩ = some (.func (Fn.func 66) #[] #[]) := HF.out.cell 9
  have c2 : W.cell? ⟨w.heap.size + 1, 10, none⟩ = some (.func (Fn.func 67) #[] #[]) := HF.out.cell 10
  have c3 : W.cell? ⟨w.heap.size + 1, 11, none⟩ = some (.func (Fn.func 68) #[] #[]) := HF.out.cell 11
  have fz0 : W.frozen? ⟨w.heap.size, 0, none⟩ = false := frozen_of_row W w.heap.size 0 _ 94 HF.out.res
  have fz1 : W.frozen? ⟨w.heap.size, 1, none⟩ = false := frozen_of_row W w.heap.size 1 _ 94 HF.out.res
  have fz2 : W.frozen? ⟨w.heap.size, 2, none⟩ = false := frozen_of_row W w.heap.size 2 _ 94 HF.out.res
  have fz3 : W.frozen? ⟨w.heap.size, 3, none⟩ = false := frozen_of_row W w.heap.size 3 _ 94 HF.out.res
  have r0 : W.cell? ⟨w.heap.size, 0, none⟩ = some .nilFunc := (cell_of_row _ w.heap.size 0 _ 94 (0, 0) HF.out.res).trans rfl
  have r1 : W.cell? ⟨w.heap.size, 1, none⟩ = some .nilFunc := (cell_of_row _ w.heap.size 1 _ 94 (0, 0) HF.out.res).trans rfl
  have r2 : W.cell? ⟨w.heap.size, 2, none⟩ = some .nilFunc := (cell_of_row _ w.heap.size 2 _ 94 (0, 0) HF.out.res).trans rfl
  have r3 : W.cell? ⟨w.heap.size, 3, none⟩ = some .nilFunc := (cell_of_row _ w.heap.size 3 _ 94 (0, 0) HF.out.res).trans rfl
  go_wp2_with fail
  refine (inBounds_says 2 1 4 _).mono ?_
  rintro e w1 ⟨b, rfl, HV, hw⟩
  obtain rfl : b = true := HV.out.2 ⟨by decide, by decide⟩
  subst hw
  clear HV
  go_wp2
  have q0 := HF.out.res
  have q1 := heap_setCell_same _ w.heap.size 0 _ 94 (.func (Fn.func 37) #[] #[]) q0
  have q2 := heap_setCell_same _ w.heap.size 1 _ 94 (.func (Fn.func 66) #[] #[]) q1
  have q3 := heap_setCell_same _ w.heap.size 2 _ 94 (.func (Fn.func 67) #[] #[]) q2
  have q4 := heap_setCell_same _ w.heap.size 3 _ 94 (.func (Fn.func 68) #[] #[]) q3
  try simp only [Exit.inBlock, Exit.then]
  refine bodyPost_ret (results_gr rfl _ w.heap.size true rfl rfl _ _ _ _ _ q4) rfl ⟨rfl, ?_⟩
  exact (((HF.out.below.setCell (by simp) _).setCell (by simp) _).setCell (by simp) _).setCell (by simp) _

set_option maxRecDepth 10000 in
set_option maxHeartbeats 1000000 in
theorem genRulesOf_3 (w : World) : Calls Tryz.prog 55 #[.int .i64 3] w fun e w' => e = .returned (.tuple #[.agg #[.func (Fn.func 69) #[] #[], .func (Fn.func 70) #[] #[], .func (Fn.func 71) #[] #[], .func (Fn.func 72) #[] #[]], .bool true]) ∧ Below w.heap.size w w' := by
  go_enter Tryz.func55, Tryz.ntmps55
  go_upto_region 1 with fail
  rename_i K0 hK0
  apply wp_region_lit
  refine wpList_buildTo rfl 94 _ rfl (some 5) rfl #[.func (Fn.func 37) #[] #[], .func (Fn.func 63) #[] #[], .func (Fn.func 64) #[] #[], .func (Fn.func 65) #[] #[]] (by as_aux_lemma => kernel_rfl) ?_
  refine wpList_buildTo rfl 94 _ rfl (some 6) rfl #[.func (Fn.func 37) #[] #[], .func (Fn.func 66) #[] #[], .func (Fn.func 67) #[] #[], .func (Fn.func 68) #[] #[]] (by as_aux_lemma => kernel_rfl) ?_
  refine wpList_buildTo rfl 94 _ rfl (some 7) rfl #[.func (Fn.func 69) #[] #[], .func (Fn.func 70) #[] #[], .func (Fn.func 71) #[] #[], .func (Fn.func 72) #[] #[]] (by as_aux_lemma => kernel_rfl) ?_
  refine wpList_buildTo rfl 94 _ rfl (some 8) rfl #[.func (Fn.func 73) #[] #[], .func (Fn.func 74) #[] #[], .func (Fn.func 75) #[] #[], .func (Fn.func 76) #[] #[]] (by as_aux_lemma => kernel_rfl) ?_
  refine wpList_buildTo rfl 109 _ rfl (some 9) rfl tabC (by as_aux_lemma => kernel_rfl) ?_
  refine Great.wpList_allocTo rfl (some 4) rfl _ _ (alloc20b w _ _ rfl) ?_
  refine wpList_store_rowTo rfl 109 _ _ rfl rfl (w.heap.size + 1) tabC rfl rfl 109 zero20 (tab_heap w) info20 rfl one20 ?_
  apply wpList_nil
  refine hK0 _ _ ?_
  have HF : Hid (TabF w _) := tabF_is w
  obtain ⟨W, hW⟩ : ∃ W, W = ((w.alloc (.cells #[.nilFunc, .nilFunc, .nilFunc, .nilFunc] 94)).alloc (.cells zero20 109)).setRow (w.heap.size + 1) tabC := ⟨_, rfl⟩
  rw [← hW] at HF ⊢
  clear hW hK0 K0
  obtain ⟨TT, hTT⟩ : ∃ TT, TT = tabC := ⟨_, rfl⟩
  rw [← hTT]
  clear hTT
  have sz := HF.out.size
  have c0 : W.cell? ⟨w.heap.size + 1, 12, none⟩ = some (.func (Fn.func 69) #[] #[]) := HF.out.cell 12
  have c1 : W.cell? ⟨w.heap.size + 1, 13, none⟩ = some (.func (Fn.func 70) #[] #[]) := HF.out.cell 13
  have c2 : W.cell? ⟨w.heap.size + 1, 14, none⟩ = some (.func (Fn.func 71) #[] #[]) := HF.out.cell 14
  have c3 : W.cell? ⟨w.heap.size + 1, 15, none⟩ = some (.func (Fn.func 72) #[] #[]) := HF.out.cell 15
  have fz0 : W.frozen? ⟨w.heap.size, 0, none⟩ = false := frozen_of_row W w.heap.size 0 _ 94 HF.out.res
  have fz1 : W.frozen? ⟨w.heap.size, 1, none⟩ = false := frozen_of_row W w.heap.size 1 _ 94 HF.out.res
  have fz2 : W.frozen? ⟨w.heap.size, 2, none⟩ = false := frozen_of_row W w.heap.size 2 _ 94 HF.out.res
  have fz3 : W.frozen? ⟨w.heap.size, 3, none⟩ = false := frozen_of_row W w.heap.size 3 _ 94 HF.out.res
  have r0 : W.cell? ⟨w.heap.size, 0, none⟩ = some .nilFunc := (cell_of_row _ w.heap.size 0 _ 94 (0, 0) HF.out.res).trans rfl
  have r1 : W.cell? ⟨w.heap.size, 1, none⟩ = some .nilFunc := (cell_of_row _ w.heap.size 1 _ 94 (0, 0) HF.out.res).trans rfl
  have r2 : W.cell? ⟨w.heap.size, 2, none⟩ = some .nilFunc := (cell_of_row _ w.heap.size 2 _ 94 (0, 0) HF.out.res).trans rfl
  have r3 : W.cell? ⟨w.heap.size, 3, none⟩ = some .nilFunc := (cell_of_row _ w.heap.size 3 _ 94 (0, 0) HF.out.res).trans rfl
  go_wp2_with fail
  refine (inBounds_says 3 1 4 _).mono ?_
  rintro e w1 ⟨b, rfl, HV, hw⟩
  obtain rfl : b = true := HV.out.2 ⟨by decide, by decide⟩
  subst hw
  clear HV
  go_wp2
  have q0 := HF.out.res
  have q1 := heap_setCell_same _ w.heap.size 0 _ 94 (.func (Fn.func 69) #[] #[]) q0
  have q2 := heap_setCell_same _ w.heap.size 1 _ 94 (.func (Fn.func 70) #[] #[]) q1
  have q3 := heap_setCell_same _ w.heap.size 2 _ 94 (.func (Fn.func 71) #[] #[]) q2
  have q4 := heap_setCell_same _ w.heap.size 3 _ 94 (.func (Fn.func 72) #[] #[]) q3
  try simp only [Exit.inBlock, Exit.then]
  refine bodyPost_ret (results_gr rfl _ w.heap.size true rfl rfl _ _ _ _ _ q4) rfl ⟨rfl, ?_⟩
  exact (((HF.out.below.setCell (by simp) _).setCell (by simp) _).setCell (by simp) _).setCell (by simp) _

set_option maxRecDepth 10000 in
set_option maxHeartbeats 1000000 in
theorem genRulesOf_4 (w : World) : Calls Tryz.prog 55 #[.int .i64 4] w fun e w' => e = .returned (.tuple #[.agg #[.func (Fn.func 73) #[] #[], .func (Fn.func 74) #[] #[], .func (Fn.func 75) #[] #[], .func (Fn.func 76) #[] #[]], .bool true]) ∧ Below w.heap.size w w' := by
  go_enter Tryz.func55, Tryz.ntmps55
  go_upto_region 1 with fail
  rename_i K0 hK0
  apply wp_region_lit
  refine wpList_buildTo rfl 94 _ rfl (some 5) rfl #[.func (Fn.func 37) #[] #[], .func (Fn.func 63) #[] #[], .func (Fn.func 64) #[] #[], .func (Fn.func 65) #[] #[]] (by as_aux_lemma => kernel_rfl) ?_
  refine wpList_buildTo rfl 94 _ rfl (some 6) rfl #[.func (Fn.func 37) #[] #[], .func (Fn.func 66) #[] #[], .func (Fn.func 67) #[] #[], .func (Fn.func 68) #[] #[]] (by as_aux_lemma => kernel_rfl) ?_
  refine wpList_buildTo rfl 94 _ rfl (some 7) rfl #[.func (Fn.func 69) #[] #[], .func (Fn.func 70) #[] #[], .func (Fn.func 71) #[] #[], .func (Fn.func 72) #[] #[]] (by as_aux_lemma => kernel_rfl) ?_
  refine wpList_buildTo rfl 94 _ rfl (some 8) rfl #[.func (Fn.func 73) #[] #[], .func (Fn.func 74) #[] #[], .func (Fn.func 75) #[] #[], .func (Fn.func 76) #[] #[]] (by as_aux_lemma => kernel_rfl) ?_
  refine wpList_buildTo rfl 109 _ rfl (some 9) rfl tabC (by as_aux_lemma => kernel_rfl) ?_
  refine Great.wpList_allocTo rfl (some 4) rfl _ _ (alloc20b w _ _ rfl) ?_
  refine wpList_store_rowTo rfl 109 _ _ rfl rfl (w.heap.size + 1) tabC rfl rfl 109 zero20 (tab_heap w) info20 rfl one20 ?_
  apply wpList_nil
  refine hK0 _ _ ?_
  have HF : Hid (TabF w _) := tabF_is w
  obtain ⟨W, hW⟩ : ∃ W, W = ((w.alloc (.cells #[.nilFunc, .nilFunc, .nilFunc, .nilFunc] 94)).alloc (.cells zero20 109)).setRow (w.heap.size + 1) tabC := ⟨_, rfl⟩
  rw [← hW] at HF ⊢
  clear hW hK0 K0
  obtain ⟨TT, hTT⟩ : ∃ TT, TT = tabC := ⟨_, rfl⟩
  rw [← hTT]
  clear hTT
  have sz := HF.out.size
  have c0 : W.cell? ⟨w.heap.size + 1, 16, none⟩ = some (.func (Fn.func 73) #[] #[]) := HF.out.cell 16
  have c1 : W.cell? ⟨w.heap.size + 1, 17, none⟩ = some (.func (Fn.func 74) #[] #[]) := HF.out.cell 17
  have c2 : W.cell? ⟨w.heap.size + 1, 18, none⟩ = some (.func (Fn.func 75) #[] #[]) := HF.out.cell 18
  have c3 : W.cell? ⟨w.heap.size + 1, 19, none⟩ = some (.func (Fn.func 76) #[] #[]) := HF.out.cell 19
  have fz0 : W.frozen? ⟨w.heap.size, 0, none⟩ = false := frozen_of_row W w.heap.size 0 _ 94 HF.out.res
  have fz1 : W.frozen? ⟨w.heap.size, 1, none⟩ = false := frozen_of_row W w.heap.size 1 _ 94 HF.out.res
  have fz2 : W.frozen? ⟨w.heap.size, 2, none⟩ = false := frozen_of_row W w.heap.size 2 _ 94 HF.out.res
  have fz3 : W.frozen? ⟨w.heap.size, 3, none⟩ = false := frozen_of_row W w.heap.size 3 _ 94 HF.out.res
  have r0 : W.cell? ⟨w.heap.size, 0, none⟩ = some .nilFunc := (cell_of_row _ w.heap.size 0 _ 94 (0, 0) HF.out.res).trans rfl
  have r1 : W.cell? ⟨w.heap.size, 1, none⟩ = some .nilFunc := (cell_of_row _ w.heap.size 1 _ 94 (0, 0) HF.out.res).trans rfl
  have r2 : W.cell? ⟨w.heap.size, 2, none⟩ = some .nilFunc := (cell_of_row _ w.heap.size 2 _ 94 (0, 0) HF.out.res).trans rfl
  have r3 : W.cell? ⟨w.heap.size, 3, none⟩ = some .nilFunc := (cell_of_row _ w.heap.size 3 _ 94 (0, 0) HF.out.res).trans rfl
  go_wp2_with fail
  refine (inBounds_says 4 1 4 _).mono ?_
  rintro e w1 ⟨b, rfl, HV, hw⟩
  obtain rfl : b = true := HV.out.2 ⟨by decide, by decide⟩
  subst hw
  clear HV
  go_wp2
  have q0 := HF.out.res
  have q1 := heap_setCell_same _ w.heap.size 0 _ 94 (.func (Fn.func 73) #[] #[]) q0
  have q2 := heap_setCell_same _ w.heap.size 1 _ 94 (.func (Fn.func 74) #[] #[]) q1
  have q3 := heap_setCell_same _ w.heap.size 2 _ 94 (.func (Fn.func 75) #[] #[]) q2
  have q4 := heap_setCell_same _ w.heap.size 3 _ 94 (.func (Fn.func 76) #[] #[]) q3
  try simp only [Exit.inBlock, Exit.then]
  refine bodyPost_ret (results_gr rfl _ w.heap.size true rfl rfl _ _ _ _ _ q4) rfl ⟨rfl, ?_⟩
  exact (((HF.out.below.setCell (by simp) _).setCell (by simp) _).setCell (by simp) _).setCell (by simp) _

set_option maxRecDepth 10000 in
set_option maxHeartbeats 1000000 in
theorem genRulesOf_none (k : Int) (w : World) (hk : ¬ (1 ≤ k ∧ k ≤ 4)) : Calls Tryz.prog 55 #[.int .i64 k] w fun e w' => e = .returned (.tuple #[.agg #[.nilFunc, .nilFunc, .nilFunc, .nilFunc], .bool false]) ∧ Below w.heap.size w w' := by
  have HKK : Hid (¬ (1 ≤ k ∧ k ≤ 4)) := hk
  clear hk
  go_enter Tryz.func55, Tryz.ntmps55
  go_upto_region 1 with fail
  rename_i K0 hK0
  apply wp_region_lit
  refine wpList_buildTo rfl 94 _ rfl (some 5) rfl #[.func (Fn.func 37) #[] #[], .func (Fn.func 63) #[] #[], .func (Fn.func 64) #[] #[], .func (Fn.func 65) #[] #[]] (by as_aux_lemma => kernel_rfl) ?_
  refine wpList_buildTo rfl 94 _ rfl (some 6) rfl #[.func (Fn.func 37) #[] #[], .func (Fn.func 66) #[] #[], .func (Fn.func 67) #[] #[], .func (Fn.func 68) #[] #[]] (by as_aux_lemma => kernel_rfl) ?_
  refine wpList_buildTo rfl 94 _ rfl (some 7) rfl #[.func (Fn.func 69) #[] #[], .func (Fn.func 70) #[] #[], .func (Fn.func 71) #[] #[], .func (Fn.func 72) #[] #[]] (by as_aux_lemma => kernel_rfl) ?_
  refine wpList_buildTo rfl 94 _ rfl (some 8) rfl #[.func (Fn.func 73) #[] #[], .func (Fn.func 74) #[] #[], .func (Fn.func 75) #[] #[], .func (Fn.func 76) #[] #[]] (by as_aux_lemma => kernel_rfl) ?_
  refine wpList_buildTo rfl 109 _ rfl (some 9) rfl tabC (by as_aux_lemma => kernel_rfl) ?_
  refine Great.wpList_allocTo rfl (some 4) rfl _ _ (alloc20b w _ _ rfl) ?_
  refine wpList_store_rowTo rfl 109 _ _ rfl rfl (w.heap.size + 1) tabC rfl rfl 109 zero20 (tab_heap w) info20 rfl one20 ?_
  apply wpList_nil
  refine hK0 _ _ ?_
  have HF : Hid (TabF w _) := tabF_is w
  obtain ⟨W, hW⟩ : ∃ W, W = ((w.alloc (.cells #[.nilFunc, .nilFunc, .nilFunc, .nilFunc] 94)).alloc (.cells zero20 109)).setRow (w.heap.size + 1) tabC := ⟨_, rfl⟩
  rw [← hW] at HF ⊢
  clear hW hK0 K0
  obtain ⟨TT, hTT⟩ : ∃ TT, TT = tabC := ⟨_, rfl⟩
  rw [← hTT]
  clear hTT
  have sz := HF.out.size
  have fz0 : W.frozen? ⟨w.heap.size, 0, none⟩ = false := frozen_of_row W w.heap.size 0 _ 94 HF.out.res
  have fz1 : W.frozen? ⟨w.heap.size, 1, none⟩ = false := frozen_of_row W w.heap.size 1 _ 94 HF.out.res
  have fz2 : W.frozen? ⟨w.heap.size, 2, none⟩ = false := frozen_of_row W w.heap.size 2 _ 94 HF.out.res
  have fz3 : W.frozen? ⟨w.heap.size, 3, none⟩ = false := frozen_of_row W w.heap.size 3 _ 94 HF.out.res
  have r0 : W.cell? ⟨w.heap.size, 0, none⟩ = some .nilFunc := (cell_of_row _ w.heap.size 0 _ 94 (0, 0) HF.out.res).trans rfl
  have r1 : W.cell? ⟨w.heap.size, 1, none⟩ = some .nilFunc := (cell_of_row _ w.heap.size 1 _ 94 (0, 0) HF.out.res).trans rfl
  have r2 : W.cell? ⟨w.heap.size, 2, none⟩ = some .nilFunc := (cell_of_row _ w.heap.size 2 _ 94 (0, 0) HF.out.res).trans rfl
  have r3 : W.cell? ⟨w.heap.size, 3, none⟩ = some .nilFunc := (cell_of_row _ w.heap.size 3 _ 94 (0, 0) HF.out.res).trans rfl
  go_wp2_with fail
  refine (inBounds_says k 1 4 _).mono ?_
  rintro e w1 ⟨b, rfl, HV, hw⟩
  obtain rfl : b = false := by
    cases b with
    | false => rfl
    | true => exact absurd (HV.out.1 rfl) HKK.out
  subst hw
  clear HV
  go_wp2
  have q0 := HF.out.res
  have q1 := heap_setCell_same _ w.heap.size 0 _ 94 .nilFunc q0
  have q2 := heap_setCell_same _ w.heap.size 1 _ 94 .nilFunc q1
  have q3 := heap_setCell_same _ w.heap.size 2 _ 94 .nilFunc q2
  have q4 := heap_setCell_same _ w.heap.size 3 _ 94 .nilFunc q3
  try simp only [Exit.inBlock, Exit.then]
  refine bodyPost_ret (results_gr rfl _ w.heap.size false rfl rfl _ _ _ _ _ q4) rfl ⟨rfl, ?_⟩
  exact (((HF.out.below.setCell (by simp) _).setCell (by simp) _).setCell (by simp) _).setCell (by simp) _

end Go.Proofs.YtilnjkbacaclbaaGreatDoor

namespace Go.Proofs.YtilnjkbacaclbaaGreatDoor
open Go.RowKit

theorem below_box (t : Nat) (w : World) (g : GT) (a : Option Addr) (n c : Nat) : Below w.heap.size w (w.alloc (.cells #[.int .i64 g.kind, .string g.text, .int .i64 g.addr, .int .i64 g.bits, .slice a n c] t)) := (Below.refl _ _).alloc (Nat.le_refl _) _

set_option maxRecDepth 10000 in
set_option maxHeartbeats 1000000 in
theorem onlyText_any (g : GT) (a : Option Addr) (n c : Nat) (w : World) : Calls Tryz.prog 37 #[gnv g a n c] w fun e w' => e = .returned (.bool (g.addr == 0 && g.bits == 0 && (n : Int) == 0)) ∧ Below w.heap.size w w' := by
  have hbl := below_box 38 w g a n c
  unfold gnv
  cases h1 : (g.addr == 0) <;> cases h2 : (g.bits == 0) <;> cases h3 : ((n : Int) == 0)
  all_goals
    go_enter Tryz.func37, Tryz.ntmps37
    go_wp2
    go_ret
    exact ⟨rfl, hbl⟩

set_option maxRecDepth 10000 in
set_option maxHeartbeats 1000000 in
theorem onlyAddr_any (g : GT) (a : Option Addr) (n c : Nat) (w : World) : Calls Tryz.prog 69 #[gnv g a n c] w fun e w' => e = .returned (.bool (g.text.toList.isEmpty && (n : Int) == 0)) ∧ Below w.heap.size w w' := by
  have hbl := below_box 38 w g a n c
  unfold gnv
  cases h1 : g.text.toList.isEmpty <;> cases h3 : ((n : Int) == 0)
  all_goals
    go_enter Tryz.func69, Tryz.ntmps69
    go_wp2
    go_ret
    exact ⟨rfl, hbl⟩

set_option maxRecDepth 10000 in
set_option maxHeartbeats 1000000 in
theorem onlyName_any (g : GT) (a : Option Addr) (n c : Nat) (w : World) : Calls Tryz.prog 73 #[gnv g a n c] w fun e w' => e = .returned (.bool (g.text.toList.isEmpty && g.addr == 0 && g.bits == 0)) ∧ Below w.heap.size w w' := by
  have hbl := below_box 38 w g a n c
  unfold gnv
  cases h1 : g.text.toList.isEmpty <;> cases h2 : (g.addr == 0) <;> cases h3 : (g.bits == 0)
  all_goals
    go_enter Tryz.func73, Tryz.ntmps73
    go_wp2
    go_ret
    exact ⟨rfl, hbl⟩

set_option maxRecDepth 10000 in
set_option maxHeartbeats 1000000 in
theorem hostName_any (g : GT) (a : Option Addr) (n c : Nat) (w : World) (hm : MaxW w) : Calls Tryz.prog 63 #[gnv g a n c] w (SaysB (hostP g.text true) w) := by
  have hbl := below_box 38 w g a n c
  have HM : Hid (MaxW w) := hm
  clear hm
  unfold gnv
  go_enter Tryz.func63, Tryz.ntmps63
  go_wp2_with fail
  refine (implHostOk_any g.text true _ (HM.out.kept hbl)).mono ?_
  rintro e w2 ⟨b, rfl, HV, hb2⟩
  go_wp2
  go_ret
  exact ⟨b, rfl, HV, hbl.trans (hb2.mono hbl.size)⟩

set_option maxRecDepth 10000 in
set_option maxHeartbeats 1000000 in
theorem hostBase_any (g : GT) (a : Option Addr) (n c : Nat) (w : World) (hm : MaxW w) : Calls Tryz.prog 64 #[gnv g a n c] w (SaysB (hostP g.text false) w) := by
  have hbl := below_box 38 w g a n c
  have HM : Hid (MaxW w) := hm
  clear hm
  unfold gnv
  go_enter Tryz.func64, Tryz.ntmps64
  go_wp2_with fail
  refine (implHostOk_any g.text false _ (HM.out.kept hbl)).mono ?_
  rintro e w2 ⟨b, rfl, HV, hb2⟩
  go_wp2
  go_ret
  exact ⟨b, rfl, HV, hbl.trans (hb2.mono hbl.size)⟩

/-- What strings.Cut gives at a sign. -/
theorem cut_says (s : ByteArray) (cb : UInt8) (w : World) (hs : s.size ≤ 1048576) (hm : MaxW w) : Calls Tryz.prog 82 #[.string s, .string ⟨#[cb]⟩] w fun e w' => ∃ x y ok, e = .returned (.tuple #[.string x, .string y, .bool ok]) ∧
    Hid ((ok = true ∧ ∃ t, t < s.size ∧ cAt s t = (cb.toNat : Int) ∧ (∀ j, j < t → cAt s j ≠ (cb.toNat : Int)) ∧ x = s.extract 0 t ∧ y = s.extract (t + 1) s.size) ∨ (ok = false ∧ (∀ j, j < s.size → cAt s j ≠ (cb.toNat : Int)) ∧ x = s ∧ y = ByteArray.empty)) ∧ Below w.heap.size w w' := by
  obtain ⟨m, hm⟩ := hm
  refine (Tryz.strings_Cut s ⟨#[cb]⟩ m w (by omega) hm).mono ?_
  rintro e w1 ⟨rfl, nn, rfl⟩
  refine ⟨_, _, _, rfl, ?_, below_drewM (Below.refl _ _) nn⟩
  rcases index_one s cb s.size 0 (by omega) (fun j h => absurd h (Nat.not_lt_zero _)) with ⟨h1, _, h3⟩ | ⟨t, h1, h2, h3, h4, _⟩
  · obtain ⟨e1, e2, e3⟩ := Lib.cutB_miss s ⟨#[cb]⟩ h1
    exact .inr ⟨e3, h3, e1, e2⟩
  · obtain ⟨e1, e2, e3⟩ := Lib.cutB_hit s ⟨#[cb]⟩ t h1
    exact .inl ⟨e3, t, h2, h3, h4, e1, e2⟩

set_option maxRecDepth 10000 in
set_option maxHeartbeats 1000000 in
theorem mailName_any (g : GT) (a : Option Addr) (n c : Nat) (w : World) (hm : MaxW w) (hs : g.text.size ≤ 1048576) : Calls Tryz.prog 66 #[gnv g a n c] w (SaysB (mailP g.text) w) := by
  have hbl := below_box 38 w g a n c
  have HM : Hid (MaxW w) := hm
  clear hm
  unfold gnv
  go_enter Tryz.func66, Tryz.ntmps66
  go_wp2_with fail
  refine (cut_says g.text 64 _ hs (HM.out.kept hbl)).mono ?_
  rintro e w1 ⟨x, y, ok, rfl, HR, hb1⟩
  have B1 := hbl.trans (hb1.mono hbl.size)
  cases ok with
  | false =>
    have HN : Hid (¬ mailP g.text) := by
      show ¬ _
      rcases HR.out with ⟨h, _⟩ | ⟨_, h, _⟩
      · cases h
      · exact mailP_none h
    clear HR
    go_wp2
    go_ret
    exact saysB_f HN.out B1
  | true =>
    have HI : Hid (mailP g.text ↔ localP x ∧ hostP y false) := by
      show _ ↔ _
      rcases HR.out with ⟨_, t, h1, h2, h3, rfl, rfl⟩ | ⟨h, _⟩
      · exact mailP_iff h1 h2 h3
      · cases h
    have hxs : x.size ≤ g.text.size := by
      rcases HR.out with ⟨_, t, _, _, _, rfl, _⟩ | ⟨h, _⟩
      · exact ext_le _ _ _
      · cases h
    clear HR
    go_wp2_with fail
    refine (wordMail_any x _ (by omega)).mono ?_
    rintro e w2 ⟨b1, rfl, HV1, hw2⟩
    subst hw2
    cases b1 with
    | false =>
      have HN : Hid (¬ mailP g.text) := fun h => Bool.false_ne_true (HV1.out.2 (HI.out.1 h).1)
      clear HV1 HI
      go_wp2
      go_ret
      exact saysB_f HN.out B1
    | true =>
      have HI2 : Hid (mailP g.text ↔ hostP y false) := ⟨fun h => (HI.out.1 h).2, fun h => HI.out.2 ⟨HV1.out.1 rfl, h⟩⟩
      clear HV1 HI
      go_wp2_with fail
      refine (implHostOk_any y false _ (HM.out.kept B1)).mono ?_
      rintro e w3 ⟨b2, rfl, HV2, hb2⟩
      have B3 := B1.trans (hb2.mono B1.size)
      cases b2 with
      | false =>
        have HN : Hid (¬ mailP g.text) := fun h => Bool.false_ne_true (HV2.out.2 (HI2.out.1 h))
        clear HV2 HI2
        go_wp2
        go_ret
        exact saysB_f HN.out B3
      | true =>
        have HN : Hid (mailP g.text) := HI2.out.2 (HV2.out.1 rfl)
        clear HV2 HI2
        go_wp2
        go_ret
        exact saysB_t HN.out B3

set_option maxRecDepth 10000 in
set_option maxHeartbeats 1000000 in
theorem addrName_any (g : GT) (a : Option Addr) (n c : Nat) (w : World) : Calls Tryz.prog 70 #[gnv g a n c] w (SaysB ((0 ≤ g.addr ∧ g.addr ≤ 4294967295) ∧ g.bits = 0) w) := by
  have hbl := below_box 38 w g a n c
  unfold gnv
  go_enter Tryz.func70, Tryz.ntmps70
  go_wp2_with fail
  refine (inBounds_says g.addr 0 4294967295 _).mono ?_
  rintro e w2 ⟨b, rfl, HV, hw2⟩
  subst hw2
  cases b with
  | false =>
    have HN : Hid (¬ ((0 ≤ g.addr ∧ g.addr ≤ 4294967295) ∧ g.bits = 0)) := fun h => Bool.false_ne_true (HV.out.2 h.1)
    clear HV
    go_wp2
    go_ret
    exact saysB_f HN.out hbl
  | true =>
    by_cases h0 : g.bits = 0
    · have HN : Hid ((0 ≤ g.addr ∧ g.addr ≤ 4294967295) ∧ g.bits = 0) := ⟨HV.out.1 rfl, h0⟩
      have z : (g.bits == 0) = true := beq_iff_eq.2 h0
      clear HV h0
      go_wp2
      go_ret
      exact saysB_t HN.out hbl
    · have HN : Hid (¬ ((0 ≤ g.addr ∧ g.addr ≤ 4294967295) ∧ g.bits = 0)) := fun h => h0 h.2
      have z : (g.bits == 0) = false := beq_false_of_ne h0
      clear HV h0
      go_wp2
      go_ret
      exact saysB_f HN.out hbl

set_option maxRecDepth 10000 in
set_option maxHeartbeats 1000000 in
theorem partsName_any (g : GT) (a : Option Addr) (n c : Nat) (xs : List PT) (w : World) (h : Pts w a n xs) (hz : ∀ k, k < n → (xs.getD k default).val.size ≤ 1048576) : Calls Tryz.prog 74 #[gnv g a n c] w (SaysB (nameP xs ∧ 0 < xs.length) w) := by
  have hbl := below_box 38 w g a n c
  have hbx := boxG_new 38 w g a n c
  have IN := implNameOk_any a n c xs _ (h.kept hbl) hz
  have hl := h.len
  clear h hz
  unfold gnv
  unfold nmv at IN
  go_enter Tryz.func74, Tryz.ntmps74
  go_wp2_with fail
  refine IN.mono ?_
  rintro e w2 ⟨b, rfl, HV, hb2⟩
  obtain ⟨_, _, _, _, p4⟩ := (hbx.kept hb2).cells
  have B2 := hbl.trans (hb2.mono hbl.size)
  clear IN hbx
  cases b with
  | false =>
    have HN : Hid (¬ (nameP xs ∧ 0 < xs.length)) := fun q => Bool.false_ne_true (HV.out.2 q.1)
    clear HV
    go_wp2
    go_ret
    exact saysB_f HN.out B2
  | true =>
    by_cases hn0 : 0 < n
    · have HN : Hid (nameP xs ∧ 0 < xs.length) := ⟨HV.out.1 rfl, by rw [hl]; exact hn0⟩
      have zn : decide ((0 : Int) < (n : Int)) = true := decide_eq_true (by omega)
      clear HV
      go_wp2
      go_ret
      exact saysB_t HN.out B2
    · have HN : Hid (¬ (nameP xs ∧ 0 < xs.length)) := fun q => hn0 (by rw [← hl]; exact q.2)
      have zn : decide ((0 : Int) < (n : Int)) = false := decide_eq_false (by omega)
      clear HV
      go_wp2
      go_ret
      exact saysB_f HN.out B2

set_option maxRecDepth 10000 in
set_option maxHeartbeats 1000000 in
theorem partsBase_any (g : GT) (a : Option Addr) (n c : Nat) (xs : List PT) (w : World) (h : Pts w a n xs) (hz : ∀ k, k < n → (xs.getD k default).val.size ≤ 1048576) : Calls Tryz.prog 75 #[gnv g a n c] w (SaysB (nameP xs) w) := by
  have hbl := below_box 38 w g a n c
  have IN := implNameOk_any a n c xs _ (h.kept hbl) hz
  clear h hz
  unfold gnv
  unfold nmv at IN
  go_enter Tryz.func75, Tryz.ntmps75
  go_wp2_with fail
  refine IN.mono ?_
  rintro e w2 ⟨b, rfl, HV, hb2⟩
  have B2 := hbl.trans (hb2.mono hbl.size)
  clear IN
  go_wp2
  go_ret
  exact ⟨b, rfl, HV, B2⟩

end Go.Proofs.YtilnjkbacaclbaaGreatDoor

namespace Go.Proofs.YtilnjkbacaclbaaGreatDoor
open Go.RowKit

theorem genP_is1 {g : GT} {xs : List PT} {n : Nat} (hl : xs.length = n) (hk : g.kind = 1) : genP g xs ↔ (g.addr == 0 && g.bits == 0 && (n : Int) == 0) = true ∧ hostP g.text true := by
  unfold genP
  simp only [Bool.and_eq_true, beq_iff_eq]
  constructor
  · rintro (⟨h, q⟩ | ⟨h, q⟩ | ⟨h, q⟩ | ⟨h, q⟩)
    · exact ⟨⟨⟨q.1.1, q.1.2.1⟩, by omega⟩, q.2⟩
    · omega
    · omega
    · omega
  · rintro ⟨q, r⟩
    exact .inl ⟨hk, ⟨q.1.1, q.1.2, by omega⟩, r⟩

theorem genP_is2 {g : GT} {xs : List PT} {n : Nat} (hl : xs.length = n) (hk : g.kind = 2) : genP g xs ↔ (g.addr == 0 && g.bits == 0 && (n : Int) == 0) = true ∧ mailP g.text := by
  unfold genP
  simp only [Bool.and_eq_true, beq_iff_eq]
  constructor
  · rintro (⟨h, q⟩ | ⟨h, q⟩ | ⟨h, q⟩ | ⟨h, q⟩)
    · omega
    · exact ⟨⟨⟨q.1.1, q.1.2.1⟩, by omega⟩, q.2⟩
    · omega
    · omega
  · rintro ⟨q, r⟩
    exact .inr (.inl ⟨hk, ⟨q.1.1, q.1.2, by omega⟩, r⟩)

theorem genP_is3 {g : GT} {xs : List PT} {n : Nat} (hl : xs.length = n) (hk : g.kind = 3) : genP g xs ↔ (g.text.toList.isEmpty && (n : Int) == 0) = true ∧ ((0 ≤ g.addr ∧ g.addr ≤ 4294967295) ∧ g.bits = 0) := by
  unfold genP
  simp only [Bool.and_eq_true, beq_iff_eq, empty_iff]
  constructor
  · rintro (⟨h, q⟩ | ⟨h, q⟩ | ⟨h, q⟩ | ⟨h, q⟩)
    · omega
    · omega
    · exact ⟨⟨q.1.1, by omega⟩, q.2⟩
    · omega
  · rintro ⟨q, r⟩
    exact .inr (.inr (.inl ⟨hk, ⟨q.1, by omega⟩, r⟩))

theorem genP_is4 {g : GT} {xs : List PT} {n : Nat} (_hl : xs.length = n) (hk : g.kind = 4) : genP g xs ↔ (g.text.toList.isEmpty && g.addr == 0 && g.bits == 0) = true ∧ (nameP xs ∧ 0 < xs.length) := by
  unfold genP
  simp only [Bool.and_eq_true, beq_iff_eq, empty_iff]
  constructor
  · rintro (⟨h, q⟩ | ⟨h, q⟩ | ⟨h, q⟩ | ⟨h, q⟩)
    · omega
    · omega
    · omega
    · exact ⟨⟨⟨q.1.1, q.1.2.1⟩, q.1.2.2⟩, q.2⟩
  · rintro ⟨q, r⟩
    exact .inr (.inr (.inr ⟨hk, ⟨q.1.1, q.1.2, q.2⟩, r⟩))

set_option maxRecDepth 10000 in
set_option maxHeartbeats 4000000 in
theorem implGenOk_any (g : GT) (a : Option Addr) (n c : Nat) (xs : List PT) (w : World) (hm : MaxW w) (h : Pts w a n xs) (hz : ∀ k, k < n → (xs.getD k default).val.size ≤ 1048576) (hs : g.text.size ≤ 1048576) :
    Calls Tryz.prog 38 #[gnv g a n c] w (SaysB (genP g xs) w) := by
  obtain ⟨P, hP⟩ : ∃ P, P = genP g xs := ⟨_, rfl⟩
  rw [← hP]
  have HP : Hid (P = genP g xs) := hP
  have HK : Hid (Pts w a n xs) := h
  have HZ : Hid (_) := hz
  have HM : Hid (MaxW w) := hm
  have hl := h.len
  have hmx := h.max
  clear hP h hz hm
  have hbl := below_box 38 w g a n c
  have hbx := boxG_new 38 w g a n c
  by_cases k1 : g.kind = 1
  · have GR : ∀ w, Calls Tryz.prog 55 #[.int .i64 g.kind] w fun e w' => e = .returned (.tuple #[.agg #[.func (Fn.func 37) #[] #[], .func (Fn.func 63) #[] #[], .func (Fn.func 64) #[] #[], .func (Fn.func 65) #[] #[]], .bool true]) ∧ Below w.heap.size w w' := fun w => by rw [k1]; exact genRulesOf_1 w
    have HI : Hid (P ↔ (g.addr == 0 && g.bits == 0 && (n : Int) == 0) = true ∧ hostP g.text true) := by show P ↔ _; rw [HP.out]; exact genP_is1 hl k1
    clear k1 HP
    have HO := onlyText_any g a n c
    unfold gnv at HO ⊢
    go_enter Tryz.func38, Tryz.ntmps38
    go_wp2_with fail
    refine (GR _).mono ?_
    rintro e w1 ⟨rfl, hb1⟩
    have B1 := hbl.trans (hb1.mono hbl.size)
    obtain ⟨p0, p1, p2, p3, p4⟩ := (hbx.kept hb1).cells
    have hlt : w.heap.size < w1.heap.size := Nat.lt_of_lt_of_le (by simp) hb1.size
    have hbk := hbx.kept hb1
    obtain ⟨W1, hW1⟩ : ∃ W1, W1 = w1.alloc (.cells #[.func (Fn.func 37) #[] #[], .func (Fn.func 63) #[] #[], .func (Fn.func 64) #[] #[], .func (Fn.func 65) #[] #[]] 94) := ⟨_, rfl⟩
    have hb2 : Below w1.heap.size w1 W1 := by rw [hW1]; exact (Below.refl _ _).alloc (Nat.le_refl _) _
    have B2 := B1.trans (hb2.mono B1.size)
    have hru : W1.heap[w1.heap.size]? = some (.cells #[.func (Fn.func 37) #[] #[], .func (Fn.func 63) #[] #[], .func (Fn.func 64) #[] #[], .func (Fn.func 65) #[] #[]] 94 (0, 0)) := by rw [hW1]; exact heap_alloc_new w1 _
    have HRU : Hid (_) := hru
    have HBK : Hid (_) := hbk.kept hb2
    clear GR hbl hbx hbk hru
    obtain ⟨O, hO⟩ : ∃ O, O = (g.addr == 0 && g.bits == 0 && (n : Int) == 0) := ⟨_, rfl⟩
    go_wp2_with fail
    rw [← hW1]
    refine (HO _).mono ?_
    rintro e w3 ⟨rfl, hb3⟩
    rw [← hO] at HI ⊢
    have B3 := B2.trans (hb3.mono B2.size)
    clear HO hO hW1 p0 p1 p2 p3 p4
    cases O with
    | false =>
      have HN : Hid (¬ P) := fun q => Bool.false_ne_true (HI.out.1 q).1
      clear HI
      go_wp2
      go_ret
      exact saysB_f HN.out B3
    | true =>
      have HI2 : Hid (P ↔ hostP g.text true) := ⟨fun q => (HI.out.1 q).2, fun q => HI.out.2 ⟨rfl, q⟩⟩
      clear HI
      obtain ⟨p0, p1, p2, p3, p4⟩ := (HBK.out.kept hb3).cells
      have hr3 : w3.heap[w1.heap.size]? = some (.cells #[.func (Fn.func 37) #[] #[], .func (Fn.func 63) #[] #[], .func (Fn.func 64) #[] #[], .func (Fn.func 65) #[] #[]] 94 (0, 0)) := (hb3.block _ (Array.getElem?_eq_some_iff.1 HRU.out).1).trans HRU.out
      have f1 : w3.cell? ⟨w1.heap.size, 1, none⟩ = some (.func (Fn.func 63) #[] #[]) := (cell_of_row _ w1.heap.size 1 _ 94 (0, 0) hr3).trans rfl
      clear hr3 HRU HBK
      have NM := hostName_any g a n c w3 (HM.out.kept B3)
      unfold gnv at NM
      go_wp2_with fail
      refine NM.mono ?_
      rintro e w4 ⟨b, rfl, HV, hb4⟩
      have B4 := B3.trans (hb4.mono B3.size)
      clear NM
      cases b with
      | false =>
        have HN : Hid (¬ P) := fun q => Bool.false_ne_true (HV.out.2 (HI2.out.1 q))
        clear HV HI2
        go_wp2
        go_ret
        exact saysB_f HN.out B4
      | true =>
        have HN : Hid P := HI2.out.2 (HV.out.1 rfl)
        clear HV HI2
        go_wp2
        go_ret
        exact saysB_t HN.out B4
  by_cases k2 : g.kind = 2
  · have GR : ∀ w, Calls Tryz.prog 55 #[.int .i64 g.kind] w fun e w' => e = .returned (.tuple #[.agg #[.func (Fn.func 37) #[] #[], .func (Fn.func 66) #[] #[], .func (Fn.func 67) #[] #[], .func (Fn.func 68) #[] #[]], .bool true]) ∧ Below w.heap.size w w' := fun w => by rw [k2]; exact genRulesOf_2 w
    have HI : Hid (P ↔ (g.addr == 0 && g.bits == 0 && (n : Int) == 0) = true ∧ mailP g.text) := by show P ↔ _; rw [HP.out]; exact genP_is2 hl k2
    clear k1 k2 HP
    have HO := onlyText_any g a n c
    unfold gnv at HO ⊢
    go_enter Tryz.func38, Tryz.ntmps38
    go_wp2_with fail
    refine (GR _).mono ?_
    rintro e w1 ⟨rfl, hb1⟩
    have B1 := hbl.trans (hb1.mono hbl.size)
    obtain ⟨p0, p1, p2, p3, p4⟩ := (hbx.kept hb1).cells
    have hlt : w.heap.size < w1.heap.size := Nat.lt_of_lt_of_le (by simp) hb1.size
    have hbk := hbx.kept hb1
    obtain ⟨W1, hW1⟩ : ∃ W1, W1 = w1.alloc (.cells #[.func (Fn.func 37) #[] #[], .func (Fn.func 66) #[] #[], .func (Fn.func 67) #[] #[], .func (Fn.func 68) #[] #[]] 94) := ⟨_, rfl⟩
    have hb2 : Below w1.heap.size w1 W1 := by rw [hW1]; exact (Below.refl _ _).alloc (Nat.le_refl _) _
    have B2 := B1.trans (hb2.mono B1.size)
    have hru : W1.heap[w1.heap.size]? = some (.cells #[.func (Fn.func 37) #[] #[], .func (Fn.func 66) #[] #[], .func (Fn.func 67) #[] #[], .func (Fn.func 68) #[] #[]] 94 (0, 0)) := by rw [hW1]; exact heap_alloc_new w1 _
    have HRU : Hid (_) := hru
    have HBK : Hid (_) := hbk.kept hb2
    clear GR hbl hbx hbk hru
    obtain ⟨O, hO⟩ : ∃ O, O = (g.addr == 0 && g.bits == 0 && (n : Int) == 0) := ⟨_, rfl⟩
    go_wp2_with fail
    rw [← hW1]
    refine (HO _).mono ?_
    rintro e w3 ⟨rfl, hb3⟩
    rw [← hO] at HI ⊢
    have B3 := B2.trans (hb3.mono B2.size)
    clear HO hO hW1 p0 p1 p2 p3 p4
    cases O with
    | false =>
      have HN : Hid (¬ P) := fun q => Bool.false_ne_true (HI.out.1 q).1
      clear HI
      go_wp2
      go_ret
      exact saysB_f HN.out B3
    | true =>
      have HI2 : Hid (P ↔ mailP g.text) := ⟨fun q => (HI.out.1 q).2, fun q => HI.out.2 ⟨rfl, q⟩⟩
      clear HI
      obtain ⟨p0, p1, p2, p3, p4⟩ := (HBK.out.kept hb3).cells
      have hr3 : w3.heap[w1.heap.size]? = some (.cells #[.func (Fn.func 37) #[] #[], .func (Fn.func 66) #[] #[], .func (Fn.func 67) #[] #[], .func (Fn.func 68) #[] #[]] 94 (0, 0)) := (hb3.block _ (Array.getElem?_eq_some_iff.1 HRU.out).1).trans HRU.out
      have f1 : w3.cell? ⟨w1.heap.size, 1, none⟩ = some (.func (Fn.func 66) #[] #[]) := (cell_of_row _ w1.heap.size 1 _ 94 (0, 0) hr3).trans rfl
      clear hr3 HRU HBK
      have NM := mailName_any g a n c w3 (HM.out.kept B3) hs
      unfold gnv at NM
      go_wp2_with fail
      refine NM.mono ?_
      rintro e w4 ⟨b, rfl, HV, hb4⟩
      have B4 := B3.trans (hb4.mono B3.size)
      clear NM
      cases b with
      | false =>
        have HN : Hid (¬ P) := fun q => Bool.false_ne_true (HV.out.2 (HI2.out.1 q))
        clear HV HI2
        go_wp2
        go_ret
        exact saysB_f HN.out B4
      | true =>
        have HN : Hid P := HI2.out.2 (HV.out.1 rfl)
        clear HV HI2
        go_wp2
        go_ret
        exact saysB_t HN.out B4
  by_cases k3 : g.kind = 3
  · have GR : ∀ w, Calls Tryz.prog 55 #[.int .i64 g.kind] w fun e w' => e = .returned (.tuple #[.agg #[.func (Fn.func 69) #[] #[], .func (Fn.func 70) #[] #[], .func (Fn.func 71) #[] #[], .func (Fn.func 72) #[] #[]], .bool true]) ∧ Below w.heap.size w w' := fun w => by rw [k3]; exact genRulesOf_3 w
    have HI : Hid (P ↔ (g.text.toList.isEmpty && (n : Int) == 0) = true ∧ ((0 ≤ g.addr ∧ g.addr ≤ 4294967295) ∧ g.bits = 0)) := by show P ↔ _; rw [HP.out]; exact genP_is3 hl k3
    clear k1 k2 k3 HP
    have HO := onlyAddr_any g a n c
    unfold gnv at HO ⊢
    go_enter Tryz.func38, Tryz.ntmps38
    go_wp2_with fail
    refine (GR _).mono ?_
    rintro e w1 ⟨rfl, hb1⟩
    have B1 := hbl.trans (hb1.mono hbl.size)
    obtain ⟨p0, p1, p2, p3, p4⟩ := (hbx.kept hb1).cells
    have hlt : w.heap.size < w1.heap.size := Nat.lt_of_lt_of_le (by simp) hb1.size
    have hbk := hbx.kept hb1
    obtain ⟨W1, hW1⟩ : ∃ W1, W1 = w1.alloc (.cells #[.func (Fn.func 69) #[] #[], .func (Fn.func 70) #[] #[], .func (Fn.func 71) #[] #[], .func (Fn.func 72) #[] #[]] 94) := ⟨_, rfl⟩
    have hb2 : Below w1.heap.size w1 W1 := by rw [hW1]; exact (Below.refl _ _).alloc (Nat.le_refl _) _
    have B2 := B1.trans (hb2.mono B1.size)
    have hru : W1.heap[w1.heap.size]? = some (.cells #[.func (Fn.func 69) #[] #[], .func (Fn.func 70) #[] #[], .func (Fn.func 71) #[] #[], .func (Fn.func 72) #[] #[]] 94 (0, 0)) := by rw [hW1]; exact heap_alloc_new w1 _
    have HRU : Hid (_) := hru
    have HBK : Hid (_) := hbk.kept hb2
    clear GR hbl hbx hbk hru
    obtain ⟨O, hO⟩ : ∃ O, O = (g.text.toList.isEmpty && (n : Int) == 0) := ⟨_, rfl⟩
    go_wp2_with fail
    rw [← hW1]
    refine (HO _).mono ?_
    rintro e w3 ⟨rfl, hb3⟩
    rw [← hO] at HI ⊢
    have B3 := B2.trans (hb3.mono B2.size)
    clear HO hO hW1 p0 p1 p2 p3 p4
    cases O with
    | false =>
      have HN : Hid (¬ P) := fun q => Bool.false_ne_true (HI.out.1 q).1
      clear HI
      go_wp2
      go_ret
      exact saysB_f HN.out B3
    | true =>
      have HI2 : Hid (P ↔ ((0 ≤ g.addr ∧ g.addr ≤ 4294967295) ∧ g.bits = 0)) := ⟨fun q => (HI.out.1 q).2, fun q => HI.out.2 ⟨rfl, q⟩⟩
      clear HI
      obtain ⟨p0, p1, p2, p3, p4⟩ := (HBK.out.kept hb3).cells
      have hr3 : w3.heap[w1.heap.size]? = some (.cells #[.func (Fn.func 69) #[] #[], .func (Fn.func 70) #[] #[], .func (Fn.func 71) #[] #[], .func (Fn.func 72) #[] #[]] 94 (0, 0)) := (hb3.block _ (Array.getElem?_eq_some_iff.1 HRU.out).1).trans HRU.out
      have f1 : w3.cell? ⟨w1.heap.size, 1, none⟩ = some (.func (Fn.func 70) #[] #[]) := (cell_of_row _ w1.heap.size 1 _ 94 (0, 0) hr3).trans rfl
      clear hr3 HRU HBK
      have NM := addrName_any g a n c w3
      unfold gnv at NM
      go_wp2_with fail
      refine NM.mono ?_
      rintro e w4 ⟨b, rfl, HV, hb4⟩
      have B4 := B3.trans (hb4.mono B3.size)
      clear NM
      cases b with
      | false =>
        have HN : Hid (¬ P) := fun q => Bool.false_ne_true (HV.out.2 (HI2.out.1 q))
        clear HV HI2
        go_wp2
        go_ret
        exact saysB_f HN.out B4
      | true =>
        have HN : Hid P := HI2.out.2 (HV.out.1 rfl)
        clear HV HI2
        go_wp2
        go_ret
        exact saysB_t HN.out B4
  by_cases k4 : g.kind = 4
  · have GR : ∀ w, Calls Tryz.prog 55 #[.int .i64 g.kind] w fun e w' => e = .returned (.tuple #[.agg #[.func (Fn.func 73) #[] #[], .func (Fn.func 74) #[] #[], .func (Fn.func 75) #[] #[], .func (Fn.func 76) #[] #[]], .bool true]) ∧ Below w.heap.size w w' := fun w => by rw [k4]; exact genRulesOf_4 w
    have HI : Hid (P ↔ (g.text.toList.isEmpty && g.addr == 0 && g.bits == 0) = true ∧ (nameP xs ∧ 0 < xs.length)) := by show P ↔ _; rw [HP.out]; exact genP_is4 hl k4
    clear k1 k2 k3 k4 HP
    have HO := onlyName_any g a n c
    unfold gnv at HO ⊢
    go_enter Tryz.func38, Tryz.ntmps38
    go_wp2_with fail
    refine (GR _).mono ?_
    rintro e w1 ⟨rfl, hb1⟩
    have B1 := hbl.trans (hb1.mono hbl.size)
    obtain ⟨p0, p1, p2, p3, p4⟩ := (hbx.kept hb1).cells
    have hlt : w.heap.size < w1.heap.size := Nat.lt_of_lt_of_le (by simp) hb1.size
    have hbk := hbx.kept hb1
    obtain ⟨W1, hW1⟩ : ∃ W1, W1 = w1.alloc (.cells #[.func (Fn.func 73) #[] #[], .func (Fn.func 74) #[] #[], .func (Fn.func 75) #[] #[], .func (Fn.func 76) #[] #[]] 94) := ⟨_, rfl⟩
    have hb2 : Below w1.heap.size w1 W1 := by rw [hW1]; exact (Below.refl _ _).alloc (Nat.le_refl _) _
    have B2 := B1.trans (hb2.mono B1.size)
    have hru : W1.heap[w1.heap.size]? = some (.cells #[.func (Fn.func 73) #[] #[], .func (Fn.func 74) #[] #[], .func (Fn.func 75) #[] #[], .func (Fn.func 76) #[] #[]] 94 (0, 0)) := by rw [hW1]; exact heap_alloc_new w1 _
    have HRU : Hid (_) := hru
    have HBK : Hid (_) := hbk.kept hb2
    clear GR hbl hbx hbk hru
    obtain ⟨O, hO⟩ : ∃ O, O = (g.text.toList.isEmpty && g.addr == 0 && g.bits == 0) := ⟨_, rfl⟩
    go_wp2_with fail
    rw [← hW1]
    refine (HO _).mono ?_
    rintro e w3 ⟨rfl, hb3⟩
    rw [← hO] at HI ⊢
    have B3 := B2.trans (hb3.mono B2.size)
    clear HO hO hW1 p0 p1 p2 p3 p4
    cases O with
    | false =>
      have HN : Hid (¬ P) := fun q => Bool.false_ne_true (HI.out.1 q).1
      clear HI
      go_wp2
      go_ret
      exact saysB_f HN.out B3
    | true =>
      have HI2 : Hid (P ↔ (nameP xs ∧ 0 < xs.length)) := ⟨fun q => (HI.out.1 q).2, fun q => HI.out.2 ⟨rfl, q⟩⟩
      clear HI
      obtain ⟨p0, p1, p2, p3, p4⟩ := (HBK.out.kept hb3).cells
      have hr3 : w3.heap[w1.heap.size]? = some (.cells #[.func (Fn.func 73) #[] #[], .func (Fn.func 74) #[] #[], .func (Fn.func 75) #[] #[], .func (Fn.func 76) #[] #[]] 94 (0, 0)) := (hb3.block _ (Array.getElem?_eq_some_iff.1 HRU.out).1).trans HRU.out
      have f1 : w3.cell? ⟨w1.heap.size, 1, none⟩ = some (.func (Fn.func 74) #[] #[]) := (cell_of_row _ w1.heap.size 1 _ 94 (0, 0) hr3).trans rfl
      clear hr3 HRU HBK
      have NM := partsName_any g a n c xs w3 (HK.out.kept B3) HZ.out
      unfold gnv at NM
      go_wp2_with fail
      refine NM.mono ?_
      rintro e w4 ⟨b, rfl, HV, hb4⟩
      have B4 := B3.trans (hb4.mono B3.size)
      clear NM
      cases b with
      | false =>
        have HN : Hid (¬ P) := fun q => Bool.false_ne_true (HV.out.2 (HI2.out.1 q))
        clear HV HI2
        go_wp2
        go_ret
        exact saysB_f HN.out B4
      | true =>
        have HN : Hid P := HI2.out.2 (HV.out.1 rfl)
        clear HV HI2
        go_wp2
        go_ret
        exact saysB_t HN.out B4
  have HN : Hid (¬ P) := by show ¬ P; rw [HP.out]; intro q; rcases genP_kind q with q | q | q | q <;> omega
  have GR := genRulesOf_none g.kind (w.alloc (.cells #[.int .i64 g.kind, .string g.text, .int .i64 g.addr, .int .i64 g.bits, .slice a n c] 38)) (by omega)
  clear HP HK HZ HM k1 k2 k3 k4
  unfold gnv
  go_enter Tryz.func38, Tryz.ntmps38
  go_wp2_with fail
  refine GR.mono ?_
  rintro e w1 ⟨rfl, hb1⟩
  have B1 := hbl.trans (hb1.mono hbl.size)
  have B2 := B1.alloc B1.size (.cells #[.nilFunc, .nilFunc, .nilFunc, .nilFunc] 94 (0, 0))
  go_wp2
  go_ret
  exact saysB_f HN.out B2

end Go.Proofs.YtilnjkbacaclbaaGreatDoor

namespace Go.Proofs.YtilnjkbacaclbaaGreatDoor
open Go.RowKit

set_option maxRecDepth 10000 in
set_option maxHeartbeats 1000000 in
theorem highestBits_any (x b : Int) (w : World) (h2 : 0 ≤ b) (h3 : b ≤ 32) : Calls Tryz.prog 88 #[.int .i64 x, .int .i64 b] w fun e w' => e = .returned (.int .i64 (x / (2 : Int) ^ (32 - b).toNat)) ∧ w' = w := by
  go_enter Tryz.func88, Tryz.ntmps88
  go_wp2
  go_ret
  exact ⟨rfl, rfl⟩

set_option maxRecDepth 10000 in
set_option maxHeartbeats 200000 in
theorem inB_t (x lo hi : Int) (w : World) (h : lo ≤ x ∧ x ≤ hi) : Calls Tryz.prog 22 #[.int .i64 x, .int .i64 lo, .int .i64 hi] w fun e w' => e = .returned (.bool true) ∧ w' = w :=
  (inBounds_says x lo hi w).mono fun e w' ⟨b, h1, h2, h3⟩ => by
    obtain rfl : b = true := h2.out.2 h
    exact ⟨h1, h3.symm⟩
theorem inB_f (x lo hi : Int) (w : World) (h : ¬ (lo ≤ x ∧ x ≤ hi)) : Calls Tryz.prog 22 #[.int .i64 x, .int .i64 lo, .int .i64 hi] w fun e w' => e = .returned (.bool false) ∧ w' = w :=
  (inBounds_says x lo hi w).mono fun e w' ⟨b, h1, h2, h3⟩ => by
    cases b with
    | false => exact ⟨h1, h3.symm⟩
    | true => exact absurd (h2.out.1 rfl) h

theorem back_iff (x : Int) (k : Nat) (h0 : 0 ≤ x) (h1 : x ≤ 4294967295) : (wrap64 (x / (2 : Int) ^ k * (2 : Int) ^ k) == x) = true ↔ x % (2 : Int) ^ k = 0 := by
  obtain ⟨m, hm⟩ : ∃ m : Int, m = (2 : Int) ^ k := ⟨_, rfl⟩
  have hp : 0 < m := by rw [hm]; exact Int.pow_pos (by decide)
  rw [← hm]
  have e := Int.mul_ediv_add_emod x m
  have e1 := Int.emod_nonneg x (Int.ne_of_gt hp)
  have e2 : 0 ≤ m * (x / m) := Int.mul_nonneg (Int.le_of_lt hp) (Int.ediv_nonneg h0 (Int.le_of_lt hp))
  rw [Int.mul_comm m] at e e2
  obtain ⟨y, hy⟩ : ∃ y, y = x / m * m := ⟨_, rfl⟩
  rw [← hy] at e e2 ⊢
  have hw : wrap64 y = y := by unfold wrap64; omega
  rw [hw, beq_iff_eq]
  omega

set_option maxRecDepth 10000 in
set_option maxHeartbeats 2000000 in
theorem addrBase_any (g : GT) (a : Option Addr) (n c : Nat) (w : World) : Calls Tryz.prog 71 #[gnv g a n c] w (SaysB ((0 ≤ g.addr ∧ g.addr ≤ 4294967295) ∧ (0 ≤ g.bits ∧ g.bits ≤ 32) ∧ g.addr % (2 : Int) ^ (32 - g.bits).toNat = 0) w) := by
  have hbl := below_box 38 w g a n c
  unfold gnv
  obtain ⟨P, hP⟩ : ∃ P, P = ((0 ≤ g.addr ∧ g.addr ≤ 4294967295) ∧ (0 ≤ g.bits ∧ g.bits ≤ 32) ∧ g.addr % (2 : Int) ^ (32 - g.bits).toNat = 0) := ⟨_, rfl⟩
  rw [← hP]
  have HP : Hid (P ↔ ((0 ≤ g.addr ∧ g.addr ≤ 4294967295) ∧ (0 ≤ g.bits ∧ g.bits ≤ 32) ∧ g.addr % (2 : Int) ^ (32 - g.bits).toNat = 0)) := by show P ↔ _; rw [hP]
  clear hP
  by_cases h1 : 0 ≤ g.addr ∧ g.addr ≤ 4294967295
  · have C1 := fun w => inB_t g.addr 0 4294967295 w h1
    by_cases h2 : 0 ≤ g.bits ∧ g.bits ≤ 32
    · have C2 := fun w => inB_t g.bits 0 32 w h2
      have C3 := fun w => highestBits_any g.addr g.bits w h2.1 h2.2
      have HI : Hid ((wrap64 (g.addr / (2 : Int) ^ (32 - g.bits).toNat * (2 : Int) ^ (32 - g.bits).toNat) == g.addr) = true ↔ P) := by
        show _ ↔ P
        rw [back_iff g.addr _ h1.1 h1.2, HP.out]
        exact ⟨fun q => ⟨h1, h2, q⟩, fun q => q.2.2⟩
      obtain ⟨h10, h11⟩ := h1
      obtain ⟨h20, h21⟩ := h2
      clear HP
      go_enter Tryz.func71, Tryz.ntmps71
      go_wp2_with fail
      go_quiet (first
        | (go_at_call_of 22 g.addr; refine Calls.quiet_of_same (C1 _))
        | (go_at_call_of 22 g.bits; refine Calls.quiet_of_same (C2 _))
        | (go_at_call 88; refine Calls.quiet_of_same (C3 _)))
      clear C1 C2 C3
      go_wp2
      go_ret
      exact ⟨_, rfl, HI, below_drewM hbl _⟩
    · have C2 := fun w => inB_f g.bits 0 32 w h2
      have HN : Hid (¬ P) := by show ¬ P; rw [HP.out]; exact fun q => h2 q.2.1
      clear HP h2 h1
      go_enter Tryz.func71, Tryz.ntmps71
      go_wp2_with fail
      go_quiet (first
        | (go_at_call_of 22 g.addr; refine Calls.quiet_of_same (C1 _))
        | (go_at_call_of 22 g.bits; refine Calls.quiet_of_same (C2 _)))
      clear C1 C2
      go_wp2
      go_ret
      exact saysB_f HN.out (below_drewM hbl _)
  · have C1 := fun w => inB_f g.addr 0 4294967295 w h1
    have HN : Hid (¬ P) := by show ¬ P; rw [HP.out]; exact fun q => h1 q.1
    clear HP h1
    go_enter Tryz.func71, Tryz.ntmps71
    go_wp2_with fail
    go_quiet ((go_at_call_of 22 g.addr; refine Calls.quiet_of_same (C1 _)))
    clear C1
    go_wp2
    go_ret
    exact saysB_f HN.out (below_drewM hbl _)

theorem host_nodot {s : ByteArray} {wild : Bool} (h : hostP s wild) : cAt s 0 ≠ 46 := by
  intro h0
  have hp := hostP_pos h
  obtain ⟨j, r, e, hj, hno, hr⟩ := cut_head s 46
  have hj0 : j = 0 := by
    rcases Nat.eq_zero_or_pos j with hz | hz
    · exact hz
    · exact absurd h0 (hno 0 hz)
  subst hj0
  have hsz : (s.extract 0 0).size = 0 := ext_sz s 0 0 (Nat.zero_le _)
  have h2 := h.2.2 0 (cutAt_len s 46).1
  rw [e] at h2
  have hg : (s.extract 0 0 :: r).getD 0 ByteArray.empty = s.extract 0 0 := rfl
  rcases h2 with ⟨_, _, h3, _⟩ | ⟨⟨h3, _⟩, _⟩
  · rw [hg] at h3
    have h4 : (s.extract 0 0).size = 1 := by rw [h3]; rfl
    omega
  · rw [hg] at h3
    omega
theorem pre_dot (s : ByteArray) : Lib.hasPrefix s.data.toList [46] = true ↔ 0 < s.size ∧ cAt s 0 = 46 := by
  unfold Lib.hasPrefix cAt
  rw [Lib.size_eq]
  rcases h : s.data.toList with _ | ⟨a, l⟩
  · simp
  · simp only [List.isPrefixOf, Bool.and_true, beq_iff_eq, List.length_cons, List.getD_cons_zero]
    constructor
    · intro h1
      subst h1
      exact ⟨by omega, rfl⟩
    · rintro ⟨_, h1⟩
      exact UInt8.toNat_inj.1 (by have : (46 : UInt8).toNat = 46 := rfl; omega)
theorem trim_dot (s : ByteArray) : (⟨(Lib.trimPrefix s.data.toList [46]).toArray⟩ : ByteArray) = if 0 < s.size ∧ cAt s 0 = 46 then s.extract 1 s.size else s := by
  unfold Lib.trimPrefix
  by_cases h : Lib.hasPrefix s.data.toList [46] = true
  · rw [if_pos h, if_pos ((pre_dot s).1 h), Lib.extract_eq, Lib.size_eq]
    congr 2
    rw [List.take_of_length_le (by rw [List.length_drop]; omega)]
    rfl
  · rw [if_neg h, if_neg (fun q => h ((pre_dot s).2 q)), Lib.mk_data]
theorem mbase_iff (s : ByteArray) : mbaseP s ↔ mailP s ∨ hostP ⟨(Lib.trimPrefix s.data.toList [46]).toArray⟩ false := by
  unfold mbaseP
  rw [trim_dot]
  by_cases h : 0 < s.size ∧ cAt s 0 = 46
  · rw [if_pos h]
    constructor
    · rintro (q | q | q)
      · exact .inl q
      · exact absurd h.2 (host_nodot q)
      · exact .inr q.2.2
    · rintro (q | q)
      · exact .inl q
      · exact .inr (.inr ⟨h.1, h.2, q⟩)
  · rw [if_neg h]
    constructor
    · rintro (q | q | q)
      · exact .inl q
      · exact .inr q
      · exact absurd ⟨q.1, q.2.1⟩ h
    · rintro (q | q)
      · exact .inl q
      · exact .inr (.inl q)

set_option maxRecDepth 10000 in
set_option maxHeartbeats 1000000 in
theorem mailBase_any (g : GT) (a : Option Addr) (n c : Nat) (w : World) (hm : MaxW w) (hs : g.text.size ≤ 1048576) : Calls Tryz.prog 67 #[gnv g a n c] w (SaysB (mbaseP g.text) w) := by
  have hbl := below_box 38 w g a n c
  have hbx := boxG_new 38 w g a n c
  have HM : Hid (MaxW w) := hm
  clear hm
  obtain ⟨P, hP⟩ : ∃ P, P = mbaseP g.text := ⟨_, rfl⟩
  rw [← hP]
  have HI : Hid (P ↔ mailP g.text ∨ hostP ⟨(Lib.trimPrefix g.text.data.toList [46]).toArray⟩ false) := by show P ↔ _; rw [hP]; exact mbase_iff _
  clear hP
  have MN := mailName_any g a n c _ (HM.out.kept hbl) hs
  unfold gnv at MN ⊢
  go_enter Tryz.func67, Tryz.ntmps67
  go_wp2_with fail
  refine MN.mono ?_
  rintro e w1 ⟨b, rfl, HV, hb1⟩
  have B1 := hbl.trans (hb1.mono hbl.size)
  clear MN
  cases b with
  | true =>
    have HN : Hid P := HI.out.2 (.inl (HV.out.1 rfl))
    clear HV HI
    go_wp2
    go_ret
    exact saysB_t HN.out B1
  | false =>
    obtain ⟨p0, p1, p2, p3, p4⟩ := (hbx.kept hb1).cells
    obtain ⟨y, hy⟩ : ∃ y : ByteArray, y = ⟨(Lib.trimPrefix g.text.data.toList [46]).toArray⟩ := ⟨_, rfl⟩
    rw [← hy] at HI
    have HI2 : Hid (P ↔ hostP y false) := ⟨fun q => (HI.out.1 q).resolve_left (fun h => Bool.false_ne_true (HV.out.2 h)), fun q => HI.out.2 (.inr q)⟩
    clear HI HV
    go_wp2_with fail
    refine (Tryz.strings_TrimPrefix g.text ⟨#[46]⟩ _).mono ?_
    rintro e w2 ⟨rfl, hw2⟩
    replace hw2 := hw2.symm
    subst hw2
    have hy2 : (⟨(Lib.trimPrefix g.text.data.toList (⟨#[46]⟩ : ByteArray).data.toList).toArray⟩ : ByteArray) = y := hy.symm
    rw [hy2]
    clear hy hy2
    go_wp2_with fail
    refine (implHostOk_any y false _ (HM.out.kept B1)).mono ?_
    rintro e w3 ⟨b2, rfl, HV2, hb3⟩
    have B3 := B1.trans (hb3.mono B1.size)
    go_wp2
    go_ret
    exact ⟨b2, rfl, HV2.out.trans HI2.out.symm, B3⟩

end Go.Proofs.YtilnjkbacaclbaaGreatDoor

namespace Go.Proofs.YtilnjkbacaclbaaGreatDoor
open Go.RowKit

/-- A name that is right and not empty. -/
def calledP (xs : List PT) : Prop := nameP xs ∧ xs ≠ []
def timeP (t : Int) : Prop := 0 ≤ t ∧ t ≤ 253402300799
def likeP (x y : GP) : Prop := x.ser = y.ser ∧ sameP x.parts y.parts

set_option maxRecDepth 10000 in
set_option maxHeartbeats 1000000 in
theorem l10Time_any (t : Int) (w : World) : Calls Tryz.prog 13 #[.int .i64 t] w fun e w' => e = .returned (.bool (decide (0 ≤ t ∧ t ≤ 253402300799))) ∧ w = w' := by
  go_enter Tryz.func13, Tryz.ntmps13
  go_wp2_with fail
  refine (l1In_any t 0 253402300799 _).mono ?_
  rintro e w1 ⟨rfl, rfl⟩
  obtain ⟨v, hv⟩ : ∃ v, decide (0 ≤ t ∧ t ≤ 253402300799) = v := ⟨_, rfl⟩
  rw [hv]
  have HV : Hid (decide (0 ≤ t ∧ t ≤ 253402300799) = v) := hv
  clear hv
  go_wp2
  go_ret
  exact ⟨by rw [HV.out]; rfl, rfl⟩

end Go.Proofs.YtilnjkbacaclbaaGreatDoor

namespace Go.Proofs.YtilnjkbacaclbaaGreatDoor
open Go.RowKit

def noB (g : GT) (n : Nat) : Bool := g.kind == 0 && (g.text.toList.isEmpty && (g.addr == 0 && (g.bits == 0 && (n : Int) == 0)))
def wantP (g : GE) : Prop := noB g.g g.parts.length = true ∨ genP g.g g.parts
def askP (q : List Int) : Prop := (1 ≤ q.length ∧ q.length ≤ 20) ∧ ∀ j, j < q.length → 0 ≤ q.getD j 0 ∧ q.getD j 0 ≤ 1000
def askOkP (x : QP) (nk nl ni : Nat) : Prop := timeP x.tm ∧ (0 ≤ x.uses ∧ x.uses ≤ 255) ∧ wantP x.want ∧ askP x.pol ∧ nk ≤ 20 ∧ nl ≤ 20 ∧ ni ≤ 20

set_option maxRecDepth 10000 in
set_option maxHeartbeats 1000000 in
theorem l13NoName_any (g : GT) (a : Option Addr) (n c : Nat) (w : World) :
    Calls Tryz.prog 15 #[gnv g a n c] w fun e w' => e = .returned (.bool (noB g n)) ∧ Below w.heap.size w w' := by
  have hbl := below_box 38 w g a n c
  unfold gnv noB
  cases h0 : (g.kind == 0) with
  | false =>
    go_enter Tryz.func15, Tryz.ntmps15
    go_wp2
    go_ret
    exact ⟨rfl, hbl⟩
  | true =>
    cases h1 : (g.text.toList.isEmpty) with
    | false =>
      go_enter Tryz.func15, Tryz.ntmps15
      go_wp2
      go_ret
      exact ⟨rfl, hbl⟩
    | true =>
      cases h2 : (g.addr == 0) with
      | false =>
        go_enter Tryz.func15, Tryz.ntmps15
        go_wp2
        go_ret
        exact ⟨rfl, hbl⟩
      | true =>
        cases h3 : (g.bits == 0) with
        | false =>
          go_enter Tryz.func15, Tryz.ntmps15
          go_wp2
          go_ret
          exact ⟨rfl, hbl⟩
        | true =>
          cases h4 : ((n : Int) == 0) with
          | false =>
            go_enter Tryz.func15, Tryz.ntmps15
            go_wp2
            go_ret
            exact ⟨rfl, hbl⟩
          | true =>
            go_enter Tryz.func15, Tryz.ntmps15
            go_wp2
            go_ret
            exact ⟨rfl, hbl⟩

set_option maxRecDepth 10000 in
set_option maxHeartbeats 1000000 in
theorem isTime_any (t : Int) (w : World) : Calls Tryz.prog 21 #[.int .i64 t] w fun e w' => e = .returned (.bool (decide (0 ≤ t ∧ t ≤ 253402300799))) ∧ w = w' := by
  go_enter Tryz.func21, Tryz.ntmps21
  go_wp2_with fail
  refine (inBounds_any t 0 253402300799 _).mono ?_
  rintro e w1 ⟨rfl, rfl⟩
  obtain ⟨v, hv⟩ : ∃ v, decide (0 ≤ t ∧ t ≤ 253402300799) = v := ⟨_, rfl⟩
  rw [hv]
  have HV : Hid (decide (0 ≤ t ∧ t ≤ 253402300799) = v) := hv
  clear hv
  go_wp2
  go_ret
  exact ⟨by rw [HV.out]; rfl, rfl⟩

set_option maxRecDepth 10000 in
set_option maxHeartbeats 2000000 in
theorem wantOk_any (g : GT) (a : Option Addr) (n c : Nat) (xs : List PT) (w : World) (hm : MaxW w) (h : Pts w a n xs) (hz : ∀ k, k < n → (xs.getD k default).val.size ≤ 1048576) (hs : g.text.size ≤ 1048576) :
    Calls Tryz.prog 23 #[gnv g a n c] w (SaysB (wantP ⟨g, xs⟩) w) := by
  have hbl := below_box 38 w g a n c
  have hbx := boxG_new 38 w g a n c
  obtain ⟨q0, q1, q2, q3, q4⟩ := hbx.cells
  have HK : Hid (Pts _ a n xs) := h.kept hbl
  have HL : Hid (xs.length = n) := h.len
  have HM : Hid (MaxW _) := hm.kept hbl
  have HZ : Hid (_) := hz
  have HB : Hid (Below _ _ _) := hbl
  obtain ⟨w0, hw0⟩ : ∃ w0, w0 = w.alloc (.cells #[.int .i64 g.kind, .string g.text, .int .i64 g.addr, .int .i64 g.bits, .slice a n c] 38) := ⟨_, rfl⟩
  rw [← hw0] at q0 q1 q2 q3 q4 HK HM HB hbx
  clear h hz hm hbl
  have OT := onlyText_any g a n c
  have GO := fun W => implGenOk_any g a n c xs W
  by_cases hk : g.kind = 0
  · have hk0 : (g.kind == 0) = true := by rw [hk]; rfl
    have HG : Hid (¬ genP g xs) := fun q => by have := genP_kind q; omega
    have HN : Hid (wantP ⟨g, xs⟩ ↔ (g.text.toList.isEmpty && (g.addr == 0 && (g.bits == 0 && (n : Int) == 0))) = true) := by
      show _ ↔ _
      unfold wantP noB
      rw [HL.out, hk0, Bool.true_and]
      exact ⟨fun q => q.elim id (fun q => absurd q HG.out), .inl⟩
    clear hk
    unfold gnv at OT ⊢
    go_enter Tryz.func23, Tryz.ntmps23
    go_upto_region 1 with fail
    rw [← hw0]
    clear hw0 GO
    go_wp2_with fail
    refine (OT _).mono ?_
    rintro e w1 ⟨rfl, hb1⟩
    have HB1 : Hid (Below w.heap.size w w1) := HB.out.trans (hb1.mono HB.out.size)
    obtain ⟨z0, z1, z2, z3, z4⟩ := (hbx.kept hb1).cells
    clear hb1 q0 q1 q2 q3 q4 hbx OT
    cases h1 : (g.addr == 0 && g.bits == 0 && (n : Int) == 0) with
    | false =>
      have HF : Hid (¬ wantP ⟨g, xs⟩) := fun q => by
        have := HN.out.1 q
        rw [← Bool.and_assoc (g.addr == 0), h1] at this
        simp at this
      go_wp2
      go_ret
      exact saysB_f HF.out HB1.out
    | true =>
      cases h2 : g.text.toList.isEmpty with
      | false =>
        have HF : Hid (¬ wantP ⟨g, xs⟩) := fun q => by
          have := HN.out.1 q
          rw [h2] at this
          simp at this
        clear h1
        go_wp2
        go_ret
        exact saysB_f HF.out HB1.out
      | true =>
        have HF : Hid (wantP ⟨g, xs⟩) := HN.out.2 (by rw [h2, ← Bool.and_assoc (g.addr == 0), h1]; rfl)
        clear h1
        go_wp2
        go_ret
        exact saysB_t HF.out HB1.out
  · have hk0 : (g.kind == 0) = false := beq_false_of_ne hk
    have HN : Hid (wantP ⟨g, xs⟩ ↔ genP g xs) := by
      show _ ↔ _
      unfold wantP noB
      rw [hk0]
      exact ⟨fun q => q.elim (fun q => by simp at q) id, .inr⟩
    clear hk
    unfold gnv at GO ⊢
    go_enter Tryz.func23, Tryz.ntmps23
    go_upto_region 1 with fail
    rw [← hw0]
    clear hw0 OT
    go_wp2_with fail
    refine (GO _ HM.out HK.out HZ.out hs).mono ?_
    rintro e w1 ⟨v, rfl, hv, hb1⟩
    have HB1 : Hid (Below w.heap.size w w1) := HB.out.trans (hb1.mono HB.out.size)
    have HV : Hid (v = true ↔ wantP ⟨g, xs⟩) := hv.out.trans HN.out.symm
    clear hb1 hv q0 q1 q2 q3 q4 hbx GO
    go_wp2
    go_ret
    exact ⟨v, rfl, HV, HB1.out⟩

set_option maxRecDepth 10000 in
set_option maxHeartbeats 400000 in
theorem isPolicyOrAny_any (x : Int) (w : World) : Calls Tryz.prog 40 #[.int .i64 x] w fun e w' => e = .returned (.bool (decide (0 ≤ x ∧ x ≤ 1000))) ∧ w' = w := by
  by_cases h : 0 ≤ x ∧ x ≤ 1000
  · rw [decide_eq_true h]
    go_enter Tryz.func40, Tryz.ntmps40
    go_wp2_with fail
    refine (inB_t x 0 1000 _ h).mono ?_
    rintro e w1 ⟨rfl, rfl⟩
    go_wp2
    go_ret
    exact ⟨rfl, rfl⟩
  · rw [decide_eq_false h]
    go_enter Tryz.func40, Tryz.ntmps40
    go_wp2_with fail
    refine (inB_f x 0 1000 _ h).mono ?_
    rintro e w1 ⟨rfl, rfl⟩
    go_wp2
    go_ret
    exact ⟨rfl, rfl⟩

set_option maxRecDepth 10000 in
set_option maxHeartbeats 2000000 in
theorem everyPol_any (a : Option Addr) (n c : Nat) (zs : List Int) (w : World) (h : Row64 w a n zs) (hn : n ≤ 9223372036854775807) :
    Calls Tryz.prog 39 #[.slice a n c, .func (Fn.func 40) #[] #[]] w (SaysB (∀ j, j < zs.length → 0 ≤ zs.getD j 0 ∧ zs.getD j 0 ≤ 1000) w) := by
  have H0 : Hid (Row64 w a n zs) := h
  have HL : Hid (zs.length = n) := h.len
  clear h
  go_enter Tryz.func39, Tryz.ntmps39
  go_wp2
  go_loopw [9] (fun i wr => ∃ k : Nat, k ≤ n ∧ i = .int .i64 k ∧ Hid (∀ j, j < k → 0 ≤ zs.getD j 0 ∧ zs.getD j 0 ≤ 1000) ∧ w = wr) (fun i _ => n - (intOf i).toNat)
  case atStart => exact ⟨0, Nat.zero_le _, rfl, fun k hk => absurd hk (Nat.not_lt_zero _), rfl⟩
  case round =>
    obtain ⟨k, hk, rfl, HE, rfl⟩ := hrel
    by_cases hlt : k < n
    · obtain ⟨b, off, rfl, hb, hc⟩ := H0.out.get k hlt
      obtain ⟨z, hz⟩ : ∃ z, z = zs.getD k 0 := ⟨_, rfl⟩
      rw [← hz] at hc
      have HZ : Hid (z = zs.getD k 0) := hz
      have hlti : (k : Int) < (n : Int) := by omega
      clear hz
      go_wp2_with fail
      refine (isPolicyOrAny_any z _).mono ?_
      rintro e w2 ⟨rfl, rfl⟩
      by_cases h0 : 0 ≤ z ∧ z ≤ 1000
      · rw [decide_eq_true h0]
        have HN : Hid (∀ j, j < k + 1 → 0 ≤ zs.getD j 0 ∧ zs.getD j 0 ≤ 1000) := fun j hj => by
          by_cases e : j < k
          · exact HE.out j e
          · obtain rfl : j = k := by omega
            rw [← HZ.out]; exact h0
        clear h0 HE
        go_wp2
        go_roundw
        case rel => exact ⟨k + 1, by omega, by go_num, HN, by trivial⟩
        case measure => simp [intOf]; omega
      · rw [decide_eq_false h0]
        have HN : Hid (¬ (∀ j, j < zs.length → 0 ≤ zs.getD j 0 ∧ zs.getD j 0 ≤ 1000)) := fun e => h0 (by rw [HZ.out]; exact e k (by rw [HL.out]; exact hlt))
        clear h0 HE
        go_wp2
        go_ret
        exact saysB_f HN.out (Below.refl _ _)
    · obtain rfl : k = n := by omega
      go_wp2
      go_ret
      exact saysB_t (fun j hj => HE.out j (by rw [HL.out] at hj; exact hj)) (Below.refl _ _)

set_option maxRecDepth 10000 in
set_option maxHeartbeats 1000000 in
theorem askedOk_any (a : Option Addr) (n c : Nat) (q : List Int) (w : World) (h : Row64 w a n q) (hn : n ≤ 9223372036854775807) :
    Calls Tryz.prog 24 #[.slice a n c] w (SaysB (askP q) w) := by
  have H0 : Hid (Row64 w a n q) := h
  have HL : Hid (q.length = n) := h.len
  clear h
  by_cases hb : 1 ≤ (n : Int) ∧ (n : Int) ≤ 20
  · go_enter Tryz.func24, Tryz.ntmps24
    go_wp2_with fail
    refine (inB_t _ 1 20 _ hb).mono ?_
    rintro e w1 ⟨rfl, hw1⟩; have hw2 := hw1.symm; subst hw2
    go_wp2_with fail
    refine (everyPol_any a n c q _ H0.out hn).mono ?_
    rintro e w1 ⟨b, rfl, HB, hb1⟩
    have FIN : Hid (b = true ↔ askP q) := ⟨fun e => ⟨by rw [HL.out]; omega, HB.out.1 e⟩, fun e => HB.out.2 e.2⟩
    clear HB
    go_wp2
    go_ret
    exact ⟨_, rfl, FIN, hb1⟩
  · have HN : Hid (¬ askP q) := fun e => hb (by have := e.1; rw [HL.out] at this; omega)
    go_enter Tryz.func24, Tryz.ntmps24
    go_wp2_with fail
    refine (inB_f _ 1 20 _ hb).mono ?_
    rintro e w1 ⟨rfl, hw1⟩; have hw2 := hw1.symm; subst hw2
    go_wp2
    go_ret
    exact saysB_f HN.out (Below.refl _ _)

set_option maxRecDepth 10000 in
set_option maxHeartbeats 4000000 in
theorem specAskOk_any (aw : Option Addr) (nw cw : Nat) (ap : Option Addr) (np cp : Nat) (ak : Option Addr) (nk ck : Nat) (al : Option Addr) (nl cl : Nat) (ai : Option Addr) (ni ci : Nat) (x : QP) (w : World) (h : Asks w aw nw ap np ak nk al nl ai ni x) (hz : AskZ nw np nk nl ni x) :
    Calls Tryz.prog 5 #[aqv aw nw cw ap np cp ak nk ck al nl cl ai ni ci x] w (SaysB (askOkP x nk nl ni) w) := by
  have HK : Hid (Asks w aw nw ap np ak nk al nl ai ni x) := h
  have HZ : Hid (AskZ nw np nk nl ni x) := hz
  have HLW : Hid (x.want.parts.length = nw) := h.nm.len
  have HLP : Hid (x.pol.length = np) := h.po.len
  have hxp := h.xp
  have hxk := h.xk
  have hxl := h.li.max
  have hxi := h.xi
  clear h hz
  unfold aqv
  obtain ⟨w0, hw0⟩ : ∃ w0, w0 = w.alloc (.cells #[.int .i64 x.tm, .int .i64 x.uses, .int .i64 x.want.g.kind, .string x.want.g.text, .int .i64 x.want.g.addr, .int .i64 x.want.g.bits, .slice aw nw cw, .slice ap np cp, .bool x.need, .bool x.nomap, .bool x.noany, .slice ak nk ck, .slice al nl cl, .bool x.hard, .slice ai ni ci] 41) := ⟨_, rfl⟩
  have B0 : Hid (Below w.heap.size w w0) := by show Below w.heap.size w w0; rw [hw0]; exact (Below.refl _ _).alloc (Nat.le_refl _) _
  have hh0 : w0.heap[w.heap.size]? = some (.cells #[.int .i64 x.tm, .int .i64 x.uses, .int .i64 x.want.g.kind, .string x.want.g.text, .int .i64 x.want.g.addr, .int .i64 x.want.g.bits, .slice aw nw cw, .slice ap np cp, .bool x.need, .bool x.nomap, .bool x.noany, .slice ak nk ck, .slice al nl cl, .bool x.hard, .slice ai ni ci] 41) := by rw [hw0]; exact heap_alloc_new w _
  have Y0 : Hid (_ = _) := hh0
  have l0 : w.heap.size < w0.heap.size := (Array.getElem?_eq_some_iff.1 hh0).1
  have p0 : w0.cell? ⟨w.heap.size, 0, none⟩ = some (.int .i64 x.tm) := (cell_of_row _ _ 0 _ 41 (0, 0) hh0).trans rfl
  have p1 : w0.cell? ⟨w.heap.size, 1, none⟩ = some (.int .i64 x.uses) := (cell_of_row _ _ 1 _ 41 (0, 0) hh0).trans rfl
  have p2 : w0.cell? ⟨w.heap.size, 2, none⟩ = some (.int .i64 x.want.g.kind) := (cell_of_row _ _ 2 _ 41 (0, 0) hh0).trans rfl
  have p3 : w0.cell? ⟨w.heap.size, 3, none⟩ = some (.string x.want.g.text) := (cell_of_row _ _ 3 _ 41 (0, 0) hh0).trans rfl
  have p4 : w0.cell? ⟨w.heap.size, 4, none⟩ = some (.int .i64 x.want.g.addr) := (cell_of_row _ _ 4 _ 41 (0, 0) hh0).trans rfl
  have p5 : w0.cell? ⟨w.heap.size, 5, none⟩ = some (.int .i64 x.want.g.bits) := (cell_of_row _ _ 5 _ 41 (0, 0) hh0).trans rfl
  have p6 : w0.cell? ⟨w.heap.size, 6, none⟩ = some (.slice aw nw cw) := (cell_of_row _ _ 6 _ 41 (0, 0) hh0).trans rfl
  clear hh0
  go_enter Tryz.func5, Tryz.ntmps5
  go_upto_region 1 with fail
  rw [← hw0]
  clear hw0
  go_wp2_with fail
  refine (l10Time_any x.tm _).mono ?_
  rintro e w9 ⟨rfl, hw9⟩; subst hw9
  obtain ⟨v1, hd1⟩ : ∃ v, v = decide (0 ≤ x.tm ∧ x.tm ≤ 253402300799) := ⟨_, rfl⟩
  rw [← hd1]
  have HV1 : Hid (v1 = true ↔ 0 ≤ x.tm ∧ x.tm ≤ 253402300799) := by show _ ↔ _; rw [hd1]; exact decide_eq_true_iff
  clear hd1
  cases v1 with
  | false =>
    have HN : Hid (¬ askOkP x nk nl ni) := fun q => by have := HV1.out.2 q.1; simp at this
    go_wp2
    go_ret
    exact saysB_f HN.out B0.out
  | true =>
    go_wp2_with fail
    refine (l1In_any x.uses 0 255 _).mono ?_
    rintro e w9 ⟨rfl, hw9⟩; subst hw9
    obtain ⟨v2, hd2⟩ : ∃ v, v = decide (0 ≤ x.uses ∧ x.uses ≤ 255) := ⟨_, rfl⟩
    rw [← hd2]
    have HV2 : Hid (v2 = true ↔ 0 ≤ x.uses ∧ x.uses ≤ 255) := by show _ ↔ _; rw [hd2]; exact decide_eq_true_iff
    clear hd2
    cases v2 with
    | false =>
      have HN : Hid (¬ askOkP x nk nl ni) := fun q => by have := HV2.out.2 q.2.1; simp at this
      go_wp2
      go_ret
      exact saysB_f HN.out B0.out
    | true =>
      go_wp2_with fail
      refine (l13NoName_any x.want.g aw nw cw _).mono ?_
      rintro e w1 ⟨rfl, hb⟩
      have B1 : Hid (Below w.heap.size w w1) := B0.out.trans (hb.mono B0.out.size)
      have y := (hb.block _ l0).trans Y0.out
      have Y1 : Hid (_ = _) := y
      have l1 : w.heap.size < w1.heap.size := (Array.getElem?_eq_some_iff.1 y).1
      clear p0 p1 p2 p3 p4 p5 p6
      have p2 : w1.cell? ⟨w.heap.size, 2, none⟩ = some (.int .i64 x.want.g.kind) := (cell_of_row _ _ 2 _ 41 (0, 0) y).trans rfl
      have p3 : w1.cell? ⟨w.heap.size, 3, none⟩ = some (.string x.want.g.text) := (cell_of_row _ _ 3 _ 41 (0, 0) y).trans rfl
      have p4 : w1.cell? ⟨w.heap.size, 4, none⟩ = some (.int .i64 x.want.g.addr) := (cell_of_row _ _ 4 _ 41 (0, 0) y).trans rfl
      have p5 : w1.cell? ⟨w.heap.size, 5, none⟩ = some (.int .i64 x.want.g.bits) := (cell_of_row _ _ 5 _ 41 (0, 0) y).trans rfl
      have p6 : w1.cell? ⟨w.heap.size, 6, none⟩ = some (.slice aw nw cw) := (cell_of_row _ _ 6 _ 41 (0, 0) y).trans rfl
      have p7 : w1.cell? ⟨w.heap.size, 7, none⟩ = some (.slice ap np cp) := (cell_of_row _ _ 7 _ 41 (0, 0) y).trans rfl
      have p11 : w1.cell? ⟨w.heap.size, 11, none⟩ = some (.slice ak nk ck) := (cell_of_row _ _ 11 _ 41 (0, 0) y).trans rfl
      have p12 : w1.cell? ⟨w.heap.size, 12, none⟩ = some (.slice al nl cl) := (cell_of_row _ _ 12 _ 41 (0, 0) y).trans rfl
      have p14 : w1.cell? ⟨w.heap.size, 14, none⟩ = some (.slice ai ni ci) := (cell_of_row _ _ 14 _ 41 (0, 0) y).trans rfl
      obtain ⟨d, hd⟩ : ∃ d, d = noB x.want.g nw := ⟨_, rfl⟩
      rw [← hd]
      have HD : Hid (d = noB x.want.g nw) := hd
      clear hb y hd
      cases d with
      | true =>
        clear p2 p3 p4 p5 p6
        by_cases h : 1 ≤ np
        rotate_left
        · have hc : (np : Int) < 1 := by omega
          have HN : Hid (¬ askOkP x nk nl ni) := fun q => h (by have := q.2.2.2.1.1.1; rw [HLP.out] at this; exact this)
          clear h
          go_wp2
          go_ret
          exact saysB_f HN.out B1.out
        have hc0 : ¬ ((np : Int) < 1) := by omega
        have HL0 : Hid (1 ≤ np) := h
        clear h
        by_cases h : np ≤ 20
        rotate_left
        · have hc : 20 < (np : Int) := by omega
          have HN : Hid (¬ askOkP x nk nl ni) := fun q => h (by have := q.2.2.2.1.1.2; rw [HLP.out] at this; exact this)
          clear h
          go_wp2
          go_ret
          exact saysB_f HN.out B1.out
        have hc1 : ¬ (20 < (np : Int)) := by omega
        have HL1 : Hid (np ≤ 20) := h
        clear h
        by_cases h : nk ≤ 20
        rotate_left
        · have hc : 20 < (nk : Int) := by omega
          have HN : Hid (¬ askOkP x nk nl ni) := fun q => h q.2.2.2.2.1
          clear h
          go_wp2
          go_ret
          exact saysB_f HN.out B1.out
        have hc2 : ¬ (20 < (nk : Int)) := by omega
        have HL2 : Hid (nk ≤ 20) := h
        clear h
        by_cases h : nl ≤ 20
        rotate_left
        · have hc : 20 < (nl : Int) := by omega
          have HN : Hid (¬ askOkP x nk nl ni) := fun q => h q.2.2.2.2.2.1
          clear h
          go_wp2
          go_ret
          exact saysB_f HN.out B1.out
        have hc3 : ¬ (20 < (nl : Int)) := by omega
        have HL3 : Hid (nl ≤ 20) := h
        clear h
        by_cases h : ni ≤ 20
        rotate_left
        · have hc : 20 < (ni : Int) := by omega
          have HN : Hid (¬ askOkP x nk nl ni) := fun q => h q.2.2.2.2.2.2
          clear h
          go_wp2
          go_ret
          exact saysB_f HN.out B1.out
        have hc4 : ¬ (20 < (ni : Int)) := by omega
        have HL4 : Hid (ni ≤ 20) := h
        clear h
        have HROW : Hid (Row64 w1 ap np x.pol) := (HK.out.kept B1.out).po
        have HW : Hid (wantP x.want) := .inl (by rw [HLW.out]; exact HD.out.symm)
        have hs1 := B1.out.size
        go_wp2
        clear p11 p12 p14
        obtain ⟨wB, hwB⟩ : ∃ wB, wB = w1 := ⟨_, rfl⟩
        have HBB : Hid (Below w.heap.size w wB) := by show Below w.heap.size w wB; rw [hwB]; exact B1.out
        rw [← hwB] at p7 HROW ⊢
        clear hwB
        go_loopw [3] (fun i wr => ∃ k : Nat, k ≤ np ∧ i = .int .i64 (k : Int) ∧ Hid (∀ j, j < k → 0 ≤ x.pol.getD j 0 ∧ x.pol.getD j 0 ≤ 1000) ∧ wB = wr) (fun i _ => np - (intOf i).toNat)
        case atStart => exact ⟨0, Nat.zero_le _, rfl, fun k hk => absurd hk (Nat.not_lt_zero _), rfl⟩
        case round =>
          obtain ⟨k, hk, rfl, HE, hwr⟩ := hrel
          subst hwr
          by_cases hlt : k < np
          · obtain ⟨b, off, rfl, hb, hc⟩ := HROW.out.get k hlt
            obtain ⟨z, hz⟩ : ∃ z, z = x.pol.getD k 0 := ⟨_, rfl⟩
            rw [← hz] at hc
            have HZ2 : Hid (z = x.pol.getD k 0) := hz
            have hlti : (k : Int) < (np : Int) := by omega
            clear hz
            go_wp2_with fail
            refine (l1In_any z 0 1000 _).mono ?_
            rintro e w9 ⟨rfl, hw9⟩; subst hw9
            by_cases h0 : 0 ≤ z ∧ z ≤ 1000
            · rw [decide_eq_true h0]
              have HN : Hid (∀ j, j < k + 1 → 0 ≤ x.pol.getD j 0 ∧ x.pol.getD j 0 ≤ 1000) := fun j hj => by
                by_cases e : j < k
                · exact HE.out j e
                · obtain rfl : j = k := by omega
                  rw [← HZ2.out]; exact h0
              clear h0 HE
              go_wp2
              go_roundw
              case rel => exact ⟨k + 1, by omega, by go_num, HN, by simp⟩
              case measure => simp [intOf]; omega
            · rw [decide_eq_false h0]
              have HN : Hid (¬ askOkP x nk nl ni) := fun q => h0 (by rw [HZ2.out]; exact q.2.2.2.1.2 k (by rw [HLP.out]; exact hlt))
              clear h0 HE
              go_wp2
              go_ret
              exact saysB_f HN.out HBB.out
          · obtain rfl : k = np := by omega
            have FIN : Hid (askOkP x nk nl ni) := ⟨HV1.out.1 (by simp), HV2.out.1 (by simp), HW.out, ⟨by rw [HLP.out]; exact ⟨HL0.out, HL1.out⟩, fun j hj => HE.out j (by rw [HLP.out] at hj; exact hj)⟩, HL2.out, HL3.out, HL4.out⟩
            clear HE
            go_wp2
            go_ret
            exact saysB_t FIN.out HBB.out
      | false =>
        go_wp2_with fail
        refine (specGenOk_any x.want.g aw nw cw x.want.parts _ (HK.out.kept B1.out).nm HZ.out.2.2.1 HZ.out.1).mono ?_
        rintro e w2 ⟨v3, rfl, hv3, hb⟩
        have B2 : Hid (Below w.heap.size w w2) := B1.out.trans (hb.mono B1.out.size)
        have y := (hb.block _ l1).trans Y1.out
        have Y2 : Hid (_ = _) := y
        have l2 : w.heap.size < w2.heap.size := (Array.getElem?_eq_some_iff.1 y).1
        clear p2 p3 p4 p5 p6 p7 p11 p12 p14
        have p7 : w2.cell? ⟨w.heap.size, 7, none⟩ = some (.slice ap np cp) := (cell_of_row _ _ 7 _ 41 (0, 0) y).trans rfl
        have p11 : w2.cell? ⟨w.heap.size, 11, none⟩ = some (.slice ak nk ck) := (cell_of_row _ _ 11 _ 41 (0, 0) y).trans rfl
        have p12 : w2.cell? ⟨w.heap.size, 12, none⟩ = some (.slice al nl cl) := (cell_of_row _ _ 12 _ 41 (0, 0) y).trans rfl
        have p14 : w2.cell? ⟨w.heap.size, 14, none⟩ = some (.slice ai ni ci) := (cell_of_row _ _ 14 _ 41 (0, 0) y).trans rfl
        have HV3 : Hid _ := hv3
        clear hb y hv3
        cases v3 with
        | false =>
          have HN : Hid (¬ askOkP x nk nl ni) := fun q => by
            rcases q.2.2.1 with h | h
            · rw [HLW.out, ← HD.out] at h; simp at h
            · have := HV3.out.2 h; simp at this
          go_wp2
          go_ret
          exact saysB_f HN.out B2.out
        | true =>
          by_cases h : 1 ≤ np
          rotate_left
          · have hc : (np : Int) < 1 := by omega
            have HN : Hid (¬ askOkP x nk nl ni) := fun q => h (by have := q.2.2.2.1.1.1; rw [HLP.out] at this; exact this)
            clear h
            go_wp2
            go_ret
            exact saysB_f HN.out B2.out
          have hc0 : ¬ ((np : Int) < 1) := by omega
          have HL0 : Hid (1 ≤ np) := h
          clear h
          by_cases h : np ≤ 20
          rotate_left
          · have hc : 20 < (np : Int) := by omega
            have HN : Hid (¬ askOkP x nk nl ni) := fun q => h (by have := q.2.2.2.1.1.2; rw [HLP.out] at this; exact this)
            clear h
            go_wp2
            go_ret
            exact saysB_f HN.out B2.out
          have hc1 : ¬ (20 < (np : Int)) := by omega
          have HL1 : Hid (np ≤ 20) := h
          clear h
          by_cases h : nk ≤ 20
          rotate_left
          · have hc : 20 < (nk : Int) := by omega
            have HN : Hid (¬ askOkP x nk nl ni) := fun q => h q.2.2.2.2.1
            clear h
            go_wp2
            go_ret
            exact saysB_f HN.out B2.out
          have hc2 : ¬ (20 < (nk : Int)) := by omega
          have HL2 : Hid (nk ≤ 20) := h
          clear h
          by_cases h : nl ≤ 20
          rotate_left
          · have hc : 20 < (nl : Int) := by omega
            have HN : Hid (¬ askOkP x nk nl ni) := fun q => h q.2.2.2.2.2.1
            clear h
            go_wp2
            go_ret
            exact saysB_f HN.out B2.out
          have hc3 : ¬ (20 < (nl : Int)) := by omega
          have HL3 : Hid (nl ≤ 20) := h
          clear h
          by_cases h : ni ≤ 20
          rotate_left
          · have hc : 20 < (ni : Int) := by omega
            have HN : Hid (¬ askOkP x nk nl ni) := fun q => h q.2.2.2.2.2.2
            clear h
            go_wp2
            go_ret
            exact saysB_f HN.out B2.out
          have hc4 : ¬ (20 < (ni : Int)) := by omega
          have HL4 : Hid (ni ≤ 20) := h
          clear h
          have HROW : Hid (Row64 w2 ap np x.pol) := (HK.out.kept B2.out).po
          have HW : Hid (wantP x.want) := .inr (HV3.out.1 (by simp))
          have hs2 := B2.out.size
          go_wp2
          clear p11 p12 p14
          obtain ⟨wB, hwB⟩ : ∃ wB, wB = w2 := ⟨_, rfl⟩
          have HBB : Hid (Below w.heap.size w wB) := by show Below w.heap.size w wB; rw [hwB]; exact B2.out
          rw [← hwB] at p7 HROW ⊢
          clear hwB
          go_loopw [3] (fun i wr => ∃ k : Nat, k ≤ np ∧ i = .int .i64 (k : Int) ∧ Hid (∀ j, j < k → 0 ≤ x.pol.getD j 0 ∧ x.pol.getD j 0 ≤ 1000) ∧ wB = wr) (fun i _ => np - (intOf i).toNat)
          case atStart => exact ⟨0, Nat.zero_le _, rfl, fun k hk => absurd hk (Nat.not_lt_zero _), rfl⟩
          case round =>
            obtain ⟨k, hk, rfl, HE, hwr⟩ := hrel
            subst hwr
            by_cases hlt : k < np
            · obtain ⟨b, off, rfl, hb, hc⟩ := HROW.out.get k hlt
              obtain ⟨z, hz⟩ : ∃ z, z = x.pol.getD k 0 := ⟨_, rfl⟩
              rw [← hz] at hc
              have HZ2 : Hid (z = x.pol.getD k 0) := hz
              have hlti : (k : Int) < (np : Int) := by omega
              clear hz
              go_wp2_with fail
              refine (l1In_any z 0 1000 _).mono ?_
              rintro e w9 ⟨rfl, hw9⟩; subst hw9
              by_cases h0 : 0 ≤ z ∧ z ≤ 1000
              · rw [decide_eq_true h0]
                have HN : Hid (∀ j, j < k + 1 → 0 ≤ x.pol.getD j 0 ∧ x.pol.getD j 0 ≤ 1000) := fun j hj => by
                  by_cases e : j < k
                  · exact HE.out j e
                  · obtain rfl : j = k := by omega
                    rw [← HZ2.out]; exact h0
                clear h0 HE
                go_wp2
                go_roundw
                case rel => exact ⟨k + 1, by omega, by go_num, HN, by simp⟩
                case measure => simp [intOf]; omega
              · rw [decide_eq_false h0]
                have HN : Hid (¬ askOkP x nk nl ni) := fun q => h0 (by rw [HZ2.out]; exact q.2.2.2.1.2 k (by rw [HLP.out]; exact hlt))
                clear h0 HE
                go_wp2
                go_ret
                exact saysB_f HN.out HBB.out
            · obtain rfl : k = np := by omega
              have FIN : Hid (askOkP x nk nl ni) := ⟨HV1.out.1 (by simp), HV2.out.1 (by simp), HW.out, ⟨by rw [HLP.out]; exact ⟨HL0.out, HL1.out⟩, fun j hj => HE.out j (by rw [HLP.out] at hj; exact hj)⟩, HL2.out, HL3.out, HL4.out⟩
              clear HE
              go_wp2
              go_ret
              exact saysB_t FIN.out HBB.out

set_option maxRecDepth 10000 in
set_option maxHeartbeats 4000000 in
theorem implAskOk_any (aw : Option Addr) (nw cw : Nat) (ap : Option Addr) (np cp : Nat) (ak : Option Addr) (nk ck : Nat) (al : Option Addr) (nl cl : Nat) (ai : Option Addr) (ni ci : Nat) (x : QP) (w : World) (hm : MaxW w) (h : Asks w aw nw ap np ak nk al nl ai ni x) (hz : AskZ nw np nk nl ni x) :
    Calls Tryz.prog 7 #[aqv aw nw cw ap np cp ak nk ck al nl cl ai ni ci x] w (SaysB (askOkP x nk nl ni) w) := by
  have HK : Hid (Asks w aw nw ap np ak nk al nl ai ni x) := h
  have HZ : Hid (AskZ nw np nk nl ni x) := hz
  have HM : Hid (MaxW w) := hm
  have HLW : Hid (x.want.parts.length = nw) := h.nm.len
  have HLP : Hid (x.pol.length = np) := h.po.len
  have hxp := h.xp
  have hxk := h.xk
  have hxl := h.li.max
  have hxi := h.xi
  clear h hz hm
  unfold aqv
  obtain ⟨w0, hw0⟩ : ∃ w0, w0 = w.alloc (.cells #[.int .i64 x.tm, .int .i64 x.uses, .int .i64 x.want.g.kind, .string x.want.g.text, .int .i64 x.want.g.addr, .int .i64 x.want.g.bits, .slice aw nw cw, .slice ap np cp, .bool x.need, .bool x.nomap, .bool x.noany, .slice ak nk ck, .slice al nl cl, .bool x.hard, .slice ai ni ci] 41) := ⟨_, rfl⟩
  have B0 : Hid (Below w.heap.size w w0) := by show Below w.heap.size w w0; rw [hw0]; exact (Below.refl _ _).alloc (Nat.le_refl _) _
  have hh0 : w0.heap[w.heap.size]? = some (.cells #[.int .i64 x.tm, .int .i64 x.uses, .int .i64 x.want.g.kind, .string x.want.g.text, .int .i64 x.want.g.addr, .int .i64 x.want.g.bits, .slice aw nw cw, .slice ap np cp, .bool x.need, .bool x.nomap, .bool x.noany, .slice ak nk ck, .slice al nl cl, .bool x.hard, .slice ai ni ci] 41) := by rw [hw0]; exact heap_alloc_new w _
  have Y0 : Hid (_ = _) := hh0
  have l0 : w.heap.size < w0.heap.size := (Array.getElem?_eq_some_iff.1 hh0).1
  have p0 : w0.cell? ⟨w.heap.size, 0, none⟩ = some (.int .i64 x.tm) := (cell_of_row _ _ 0 _ 41 (0, 0) hh0).trans rfl
  have p1 : w0.cell? ⟨w.heap.size, 1, none⟩ = some (.int .i64 x.uses) := (cell_of_row _ _ 1 _ 41 (0, 0) hh0).trans rfl
  have p2 : w0.cell? ⟨w.heap.size, 2, none⟩ = some (.int .i64 x.want.g.kind) := (cell_of_row _ _ 2 _ 41 (0, 0) hh0).trans rfl
  have p3 : w0.cell? ⟨w.heap.size, 3, none⟩ = some (.string x.want.g.text) := (cell_of_row _ _ 3 _ 41 (0, 0) hh0).trans rfl
  have p4 : w0.cell? ⟨w.heap.size, 4, none⟩ = some (.int .i64 x.want.g.addr) := (cell_of_row _ _ 4 _ 41 (0, 0) hh0).trans rfl
  have p5 : w0.cell? ⟨w.heap.size, 5, none⟩ = some (.int .i64 x.want.g.bits) := (cell_of_row _ _ 5 _ 41 (0, 0) hh0).trans rfl
  have p6 : w0.cell? ⟨w.heap.size, 6, none⟩ = some (.slice aw nw cw) := (cell_of_row _ _ 6 _ 41 (0, 0) hh0).trans rfl
  clear hh0
  go_enter Tryz.func7, Tryz.ntmps7
  go_upto_region 1 with fail
  rw [← hw0]
  clear hw0
  go_wp2_with fail
  refine (isTime_any x.tm _).mono ?_
  rintro e w9 ⟨rfl, hw9⟩; subst hw9
  obtain ⟨v1, hd1⟩ : ∃ v, v = decide (0 ≤ x.tm ∧ x.tm ≤ 253402300799) := ⟨_, rfl⟩
  rw [← hd1]
  have HV1 : Hid (v1 = true ↔ 0 ≤ x.tm ∧ x.tm ≤ 253402300799) := by show _ ↔ _; rw [hd1]; exact decide_eq_true_iff
  clear hd1
  cases v1 with
  | false =>
    have HN : Hid (¬ askOkP x nk nl ni) := fun q => by have := HV1.out.2 q.1; simp at this
    go_wp2
    go_ret
    exact saysB_f HN.out B0.out
  | true =>
    go_wp2_with fail
    refine (inBounds_any x.uses 0 255 _).mono ?_
    rintro e w9 ⟨rfl, hw9⟩; subst hw9
    obtain ⟨v2, hd2⟩ : ∃ v, v = decide (0 ≤ x.uses ∧ x.uses ≤ 255) := ⟨_, rfl⟩
    rw [← hd2]
    have HV2 : Hid (v2 = true ↔ 0 ≤ x.uses ∧ x.uses ≤ 255) := by show _ ↔ _; rw [hd2]; exact decide_eq_true_iff
    clear hd2
    cases v2 with
    | false =>
      have HN : Hid (¬ askOkP x nk nl ni) := fun q => by have := HV2.out.2 q.2.1; simp at this
      go_wp2
      go_ret
      exact saysB_f HN.out B0.out
    | true =>
      go_wp2_with fail
      refine (wantOk_any x.want.g aw nw cw x.want.parts _ (HM.out.kept B0.out) (HK.out.kept B0.out).nm HZ.out.2.2.1 HZ.out.1).mono ?_
      rintro e w1 ⟨v3, rfl, hv3, hb⟩
      have B1 : Hid (Below w.heap.size w w1) := B0.out.trans (hb.mono B0.out.size)
      have y := (hb.block _ l0).trans Y0.out
      have Y1 : Hid (_ = _) := y
      have l1 : w.heap.size < w1.heap.size := (Array.getElem?_eq_some_iff.1 y).1
      clear p0 p1 p2 p3 p4 p5 p6
      have p7 : w1.cell? ⟨w.heap.size, 7, none⟩ = some (.slice ap np cp) := (cell_of_row _ _ 7 _ 41 (0, 0) y).trans rfl
      have HV3 : Hid _ := hv3
      clear hb y hv3
      cases v3 with
      | false =>
        have HN : Hid (¬ askOkP x nk nl ni) := fun q => by have := HV3.out.2 q.2.2.1; simp at this
        go_wp2
        go_ret
        exact saysB_f HN.out B1.out
      | true =>
        go_wp2_with fail
        refine (askedOk_any ap np cp x.pol _ (HK.out.kept B1.out).po hxp).mono ?_
        rintro e w2 ⟨v4, rfl, hv4, hb⟩
        have B2 : Hid (Below w.heap.size w w2) := B1.out.trans (hb.mono B1.out.size)
        have y := (hb.block _ l1).trans Y1.out
        have Y2 : Hid (_ = _) := y
        have l2 : w.heap.size < w2.heap.size := (Array.getElem?_eq_some_iff.1 y).1
        clear p7
        have p11 : w2.cell? ⟨w.heap.size, 11, none⟩ = some (.slice ak nk ck) := (cell_of_row _ _ 11 _ 41 (0, 0) y).trans rfl
        have p12 : w2.cell? ⟨w.heap.size, 12, none⟩ = some (.slice al nl cl) := (cell_of_row _ _ 12 _ 41 (0, 0) y).trans rfl
        have p14 : w2.cell? ⟨w.heap.size, 14, none⟩ = some (.slice ai ni ci) := (cell_of_row _ _ 14 _ 41 (0, 0) y).trans rfl
        have HV4 : Hid _ := hv4
        clear hb y hv4
        cases v4 with
        | false =>
          have HN : Hid (¬ askOkP x nk nl ni) := fun q => by have := HV4.out.2 q.2.2.2.1; simp at this
          go_wp2
          go_ret
          exact saysB_f HN.out B2.out
        | true =>
          by_cases h : nk ≤ 20
          rotate_left
          · have hc : ¬ ((nk : Int) ≤ 20) := by omega
            have HN : Hid (¬ askOkP x nk nl ni) := fun q => h q.2.2.2.2.1
            clear h
            go_wp2
            go_ret
            exact saysB_f HN.out B2.out
          have hc0 : (nk : Int) ≤ 20 := by omega
          have HL0 : Hid (nk ≤ 20) := h
          clear h
          by_cases h : nl ≤ 20
          rotate_left
          · have hc : ¬ ((nl : Int) ≤ 20) := by omega
            have HN : Hid (¬ askOkP x nk nl ni) := fun q => h q.2.2.2.2.2.1
            clear h
            go_wp2
            go_ret
            exact saysB_f HN.out B2.out
          have hc1 : (nl : Int) ≤ 20 := by omega
          have HL1 : Hid (nl ≤ 20) := h
          clear h
          have FIN : Hid (decide ((ni : Int) ≤ 20) = true ↔ askOkP x nk nl ni) := by
            show _ ↔ _
            rw [decide_eq_true_iff]
            exact ⟨fun h => ⟨HV1.out.1 (by simp), HV2.out.1 (by simp), HV3.out.1 (by simp), HV4.out.1 (by simp), HL0.out, HL1.out, by omega⟩, fun q => by have := q.2.2.2.2.2.2; omega⟩
          go_wp2
          go_ret
          exact ⟨_, rfl, FIN, B2.out⟩

end Go.Proofs.YtilnjkbacaclbaaGreatDoor

namespace Go.Proofs.YtilnjkbacaclbaaGreatDoor
open Go.RowKit

/-- A variable that holds an ask. -/
structure BoxQ (t b : Nat) (W : World) (aw : Option Addr) (nw cw : Nat) (ap : Option Addr) (np cp : Nat) (ak : Option Addr) (nk ck : Nat) (al : Option Addr) (nl cl : Nat) (ai : Option Addr) (ni ci : Nat) (x : QP) : Prop where
  heap : W.heap[b]? = some (.cells #[.int .i64 x.tm, .int .i64 x.uses, .int .i64 x.want.g.kind, .string x.want.g.text, .int .i64 x.want.g.addr, .int .i64 x.want.g.bits, .slice aw nw cw, .slice ap np cp, .bool x.need, .bool x.nomap, .bool x.noany, .slice ak nk ck, .slice al nl cl, .bool x.hard, .slice ai ni ci] t (0, 0))
theorem BoxQ.cells {t b : Nat} {W : World} {aw : Option Addr} {nw cw : Nat} {ap : Option Addr} {np cp : Nat} {ak : Option Addr} {nk ck : Nat} {al : Option Addr} {nl cl : Nat} {ai : Option Addr} {ni ci : Nat} {x : QP} (h : BoxQ t b W aw nw cw ap np cp ak nk ck al nl cl ai ni ci x) :
    W.cell? ⟨b, 0, none⟩ = some (.int .i64 x.tm) ∧ W.cell? ⟨b, 1, none⟩ = some (.int .i64 x.uses) ∧ W.cell? ⟨b, 2, none⟩ = some (.int .i64 x.want.g.kind) ∧ W.cell? ⟨b, 3, none⟩ = some (.string x.want.g.text) ∧ W.cell? ⟨b, 4, none⟩ = some (.int .i64 x.want.g.addr) ∧ W.cell? ⟨b, 5, none⟩ = some (.int .i64 x.want.g.bits) ∧ W.cell? ⟨b, 6, none⟩ = some (.slice aw nw cw) ∧ W.cell? ⟨b, 7, none⟩ = some (.slice ap np cp) ∧ W.cell? ⟨b, 8, none⟩ = some (.bool x.need) ∧ W.cell? ⟨b, 9, none⟩ = some (.bool x.nomap) ∧ W.cell? ⟨b, 10, none⟩ = some (.bool x.noany) ∧ W.cell? ⟨b, 11, none⟩ = some (.slice ak nk ck) ∧ W.cell? ⟨b, 12, none⟩ = some (.slice al nl cl) ∧ W.cell? ⟨b, 13, none⟩ = some (.bool x.hard) ∧ W.cell? ⟨b, 14, none⟩ = some (.slice ai ni ci) :=
  ⟨(cell_of_row _ _ 0 _ t (0, 0) h.heap).trans rfl, (cell_of_row _ _ 1 _ t (0, 0) h.heap).trans rfl, (cell_of_row _ _ 2 _ t (0, 0) h.heap).trans rfl, (cell_of_row _ _ 3 _ t (0, 0) h.heap).trans rfl, (cell_of_row _ _ 4 _ t (0, 0) h.heap).trans rfl, (cell_of_row _ _ 5 _ t (0, 0) h.heap).trans rfl, (cell_of_row _ _ 6 _ t (0, 0) h.heap).trans rfl, (cell_of_row _ _ 7 _ t (0, 0) h.heap).trans rfl, (cell_of_row _ _ 8 _ t (0, 0) h.heap).trans rfl, (cell_of_row _ _ 9 _ t (0, 0) h.heap).trans rfl, (cell_of_row _ _ 10 _ t (0, 0) h.heap).trans rfl, (cell_of_row _ _ 11 _ t (0, 0) h.heap).trans rfl, (cell_of_row _ _ 12 _ t (0, 0) h.heap).trans rfl, (cell_of_row _ _ 13 _ t (0, 0) h.heap).trans rfl, (cell_of_row _ _ 14 _ t (0, 0) h.heap).trans rfl⟩
theorem BoxQ.kept {t b : Nat} {W W' : World} {aw : Option Addr} {nw cw : Nat} {ap : Option Addr} {np cp : Nat} {ak : Option Addr} {nk ck : Nat} {al : Option Addr} {nl cl : Nat} {ai : Option Addr} {ni ci : Nat} {x : QP} (h : BoxQ t b W aw nw cw ap np cp ak nk ck al nl cl ai ni ci x) (hb : Below W.heap.size W W') : BoxQ t b W' aw nw cw ap np cp ak nk ck al nl cl ai ni ci x := ⟨(hb.block _ (Array.getElem?_eq_some_iff.1 h.heap).1).trans h.heap⟩
theorem boxQ_new (t : Nat) (w : World) (aw : Option Addr) (nw cw : Nat) (ap : Option Addr) (np cp : Nat) (ak : Option Addr) (nk ck : Nat) (al : Option Addr) (nl cl : Nat) (ai : Option Addr) (ni ci : Nat) (x : QP) : BoxQ t w.heap.size (w.alloc (.cells #[.int .i64 x.tm, .int .i64 x.uses, .int .i64 x.want.g.kind, .string x.want.g.text, .int .i64 x.want.g.addr, .int .i64 x.want.g.bits, .slice aw nw cw, .slice ap np cp, .bool x.need, .bool x.nomap, .bool x.noany, .slice ak nk ck, .slice al nl cl, .bool x.hard, .slice ai ni ci] t)) aw nw cw ap np cp ak nk ck al nl cl ai ni ci x := ⟨heap_alloc_new w _⟩

set_option maxRecDepth 10000 in
set_option maxHeartbeats 4000000 in
theorem lawAskOk_walk (aw : Option Addr) (nw cw : Nat) (ap : Option Addr) (np cp : Nat) (ak : Option Addr) (nk ck : Nat) (al : Option Addr) (nl cl : Nat) (ai : Option Addr) (ni ci : Nat) (x : QP) (w : World) (hm : MaxW w) (h : Asks w aw nw ap np ak nk al nl ai ni x) :
    Calls Tryz.prog 3 #[aqv aw nw cw ap np cp ak nk ck al nl cl ai ni ci x] w fun e w' => e = .returned (.bool true) ∧ Below w.heap.size w w' := by
  have HK : Hid (Asks w aw nw ap np ak nk al nl ai ni x) := h
  have HM : Hid (MaxW w) := hm
  clear h hm
  have hbl : Below w.heap.size w (w.alloc (.cells #[.int .i64 x.tm, .int .i64 x.uses, .int .i64 x.want.g.kind, .string x.want.g.text, .int .i64 x.want.g.addr, .int .i64 x.want.g.bits, .slice aw nw cw, .slice ap np cp, .bool x.need, .bool x.nomap, .bool x.noany, .slice ak nk ck, .slice al nl cl, .bool x.hard, .slice ai ni ci] 31)) := (Below.refl _ _).alloc (Nat.le_refl _) _
  have hbx := boxQ_new 31 w aw nw cw ap np cp ak nk ck al nl cl ai ni ci x
  have SZ := szAsk_any aw nw cw ap np cp ak nk ck al nl cl ai ni ci x 1048576 _ (HK.out.kept hbl) (by decide) (by decide)
  have TO := toAsk_any aw nw cw ap np cp ak nk ck al nl cl ai ni ci x
  unfold aqv at SZ ⊢
  go_enter Tryz.func3, Tryz.ntmps3
  go_wp2_with fail
  refine SZ.mono ?_
  rintro e w1 ⟨r, rfl, hr, hb1⟩
  have B1 : Below w.heap.size w w1 := hbl.trans (hb1.mono hbl.size)
  have HB1 : Hid (_) := hbx.kept hb1
  clear hb1 hbl hbx SZ
  by_cases hneg : r < 0
  · clear hr
    go_wp2
    go_ret
    exact ⟨rfl, B1⟩
  · have hr0 : 0 ≤ r ∧ r ≤ 1048576 := by omega
    have HZ : Hid (AskZ nw np nk nl ni x) := by rcases hr with h | h; exact absurd h hneg; exact h.2.2
    clear hr
    obtain ⟨q0, q1, q2, q3, q4, q5, q6, q7, q8, q9, q10, q11, q12, q13, q14⟩ := HB1.out.cells
    have T1 := TO w1 (HK.out.kept B1) HZ.out
    unfold aqv at T1
    go_wp2_with fail
    refine T1.mono ?_
    rintro e w2 ⟨uw, up, uk, ul, ui, rfl, hs2, hb2⟩
    have B2 : Below w.heap.size w w2 := B1.trans (hb2.mono B1.size)
    have HB2 : Hid (_) := HB1.out.kept hb2
    have S2 := specAskOk_any uw nw nw up np np uk nk nk ul nl nl ui ni ni x w2 hs2 HZ.out
    unfold aqv at S2
    clear q0 q1 q2 q3 q4 q5 q6 q7 q8 q9 q10 q11 q12 q13 q14 HB1 hs2 hb2 T1
    go_wp2_with fail
    refine S2.mono ?_
    rintro e w3 ⟨b1, rfl, hv1, hb3⟩
    have B3 : Below w.heap.size w w3 := B2.trans (hb3.mono B2.size)
    have HB3 : Hid (_) := HB2.out.kept hb3
    obtain ⟨q0, q1, q2, q3, q4, q5, q6, q7, q8, q9, q10, q11, q12, q13, q14⟩ := HB3.out.cells
    clear HB2 hb3 S2
    have T3 := TO w3 (HK.out.kept B3) HZ.out
    unfold aqv at T3
    go_wp2_with fail
    refine T3.mono ?_
    rintro e w4 ⟨pw, pp, pk, pl, pi, rfl, hs4, hb4⟩
    have B4 : Below w.heap.size w w4 := B3.trans (hb4.mono B3.size)
    have HB4 : Hid (_) := HB3.out.kept hb4
    have hal : Below w4.heap.size w4 (w4.alloc (.cells #[.int .i64 x.tm, .int .i64 x.uses, .int .i64 x.want.g.kind, .string x.want.g.text, .int .i64 x.want.g.addr, .int .i64 x.want.g.bits, .slice pw nw nw, .slice pp np np, .bool x.need, .bool x.nomap, .bool x.noany, .slice pk nk nk, .slice pl nl nl, .bool x.hard, .slice pi ni ni] 41)) := (Below.refl _ _).alloc (Nat.le_refl _) _
    have B5 : Below w.heap.size w (w4.alloc (.cells #[.int .i64 x.tm, .int .i64 x.uses, .int .i64 x.want.g.kind, .string x.want.g.text, .int .i64 x.want.g.addr, .int .i64 x.want.g.bits, .slice pw nw nw, .slice pp np np, .bool x.need, .bool x.nomap, .bool x.noany, .slice pk nk nk, .slice pl nl nl, .bool x.hard, .slice pi ni ni] 41)) := B4.alloc B4.size _
    have HX5 : Hid (_) := boxQ_new 41 w4 pw nw nw pp np np pk nk nk pl nl nl pi ni ni x
    have HS5 : Hid (_) := hs4.kept hal
    have HB5 : Hid (_) := HB4.out.kept hal
    have I5 := implAskOk_any pw nw nw pp np np pk nk nk pl nl nl pi ni ni x _ (HM.out.kept B5) HS5.out HZ.out
    unfold aqv at I5
    clear q0 q1 q2 q3 q4 q5 q6 q7 q8 q9 q10 q11 q12 q13 q14 HB3 HB4 hs4 hb4 hal T3
    go_wp2_with fail
    refine I5.mono ?_
    rintro e w6 ⟨b2, rfl, hv2, hb6⟩
    have B6 : Below w.heap.size w w6 := B5.trans (hb6.mono B5.size)
    obtain rfl : b2 = b1 := says_one hv2 hv1
    have t1 : (b2 != b2) = false := by simp
    have HX6 : Hid (_) := HX5.out.kept hb6
    obtain ⟨z0, z1, z2, z3, z4, z5, z6, z7, z8, z9, z10, z11, z12, z13, z14⟩ := HX6.out.cells
    obtain ⟨q0, q1, q2, q3, q4, q5, q6, q7, q8, q9, q10, q11, q12, q13, q14⟩ := (HB5.out.kept hb6).cells
    have HS6 : Hid (_) := HS5.out.kept hb6
    clear HX5 HS5 HB5 hb6 hv1 hv2 I5
    go_wp2_with fail
    have hsz6 := B6.size
    have Bd : Below w.heap.size w w6.drew := B6.drew
    have hdd : Below w6.heap.size w6 w6.drew := (Below.refl _ _).drew
    have TI0 := TO w6.drew (HK.out.kept Bd) HZ.out
    unfold aqv at TI0
    have TI : Hid (_) := TI0
    clear TI0 TO
    have EQ : ∀ (sw sp sk sl si : Option Addr) (w7 : World), Below w6.drew.heap.size w6.drew w7 → Asks w7 sw nw sp np sk nk sl nl si ni x → Hid (Calls Tryz.prog 8 #[.agg #[.int .i64 x.tm, .int .i64 x.uses, .int .i64 x.want.g.kind, .string x.want.g.text, .int .i64 x.want.g.addr, .int .i64 x.want.g.bits, .slice pw nw nw, .slice pp np np, .bool x.need, .bool x.nomap, .bool x.noany, .slice pk nk nk, .slice pl nl nl, .bool x.hard, .slice pi ni ni], .agg #[.int .i64 x.tm, .int .i64 x.uses, .int .i64 x.want.g.kind, .string x.want.g.text, .int .i64 x.want.g.addr, .int .i64 x.want.g.bits, .slice sw nw nw, .slice sp np np, .bool x.need, .bool x.nomap, .bool x.noany, .slice sk nk nk, .slice sl nl nl, .bool x.hard, .slice si ni ni]] w7 fun e w' => e = .returned (.bool true) ∧ Below w7.heap.size w7 w') := fun sw sp sk sl si w7 h7 r7 =>
      eqAsk_same pw nw nw pp np np pk nk nk pl nl nl pi ni ni x sw nw sp np sk nk sl nl si ni w7 ((HS6.out.kept hdd).kept h7) r7 HZ.out
    have HXD : ∀ (w7 : World), Below w6.drew.heap.size w6.drew w7 → w7.cell? ⟨w4.heap.size, 0, none⟩ = some (.int .i64 x.tm) ∧ w7.cell? ⟨w4.heap.size, 1, none⟩ = some (.int .i64 x.uses) ∧ w7.cell? ⟨w4.heap.size, 2, none⟩ = some (.int .i64 x.want.g.kind) ∧ w7.cell? ⟨w4.heap.size, 3, none⟩ = some (.string x.want.g.text) ∧ w7.cell? ⟨w4.heap.size, 4, none⟩ = some (.int .i64 x.want.g.addr) ∧ w7.cell? ⟨w4.heap.size, 5, none⟩ = some (.int .i64 x.want.g.bits) ∧ w7.cell? ⟨w4.heap.size, 6, none⟩ = some (.slice pw nw nw) ∧ w7.cell? ⟨w4.heap.size, 7, none⟩ = some (.slice pp np np) ∧ w7.cell? ⟨w4.heap.size, 8, none⟩ = some (.bool x.need) ∧ w7.cell? ⟨w4.heap.size, 9, none⟩ = some (.bool x.nomap) ∧ w7.cell? ⟨w4.heap.size, 10, none⟩ = some (.bool x.noany) ∧ w7.cell? ⟨w4.heap.size, 11, none⟩ = some (.slice pk nk nk) ∧ w7.cell? ⟨w4.heap.size, 12, none⟩ = some (.slice pl nl nl) ∧ w7.cell? ⟨w4.heap.size, 13, none⟩ = some (.bool x.hard) ∧ w7.cell? ⟨w4.heap.size, 14, none⟩ = some (.slice pi ni ni) := fun w7 h7 => ((HX6.out.kept hdd).kept h7).cells
    go_region_with (first
      | (go_at_call 6; refine Calls.mono TI.out ?_; rintro e w7 ⟨sw, sp, sk, sl, si, rfl, ok7, hb7⟩; obtain ⟨y0, y1, y2, y3, y4, y5, y6, y7, y8, y9, y10, y11, y12, y13, y14⟩ := HXD w7 hb7)
      | (go_at_call 8; refine Calls.mono (EQ sw sp sk sl si w7 hb7 ok7).out ?_; rintro e w8 ⟨rfl, hb8⟩))
    all_goals
      have B8 : Below w.heap.size w w8 := (Bd.trans (hb7.mono (by simpa using hsz6))).trans (hb8.mono (Nat.le_trans hsz6 hb7.size))
      go_wp2
      go_ret
      exact ⟨rfl, B8⟩

end Go.Proofs.YtilnjkbacaclbaaGreatDoor

