import Derived.Test.YtjkkokjojaknkaaDoorRR9
import Derived.Recover
import Derived.Defers
import Derived.Laws.Pointers
import Derived.Stop.Asserts
namespace Go.Proofs.YtjkkokjojaknkaaDoor
open Go.RowKit

theorem itemC_all (lax : Bool) (bs : List Int) (n cap : Nat) (a : Option Addr) (hn : n ≤ 20000) (hcap : n ≤ cap) : ∀ r, r ≤ 12 → ItemC lax bs n cap a r := by
  intro r
  induction r with
  | zero => exact fun _ => itemC_zero lax bs n cap a
  | succ r ih => exact fun h => itemC_next lax bs n cap a hn hcap r h (ih (by omega))

theorem Tryd.assertFault (fv : Value) (w : World) : (Instr.typeAssert (.iface 61 fv) 20 57 true).run Tryd.prog w = .ok (.tuple #[.iface 61 fv, .bool true]) w := by kernel_rfl
theorem Tryd.assertNil (w : World) : (Instr.typeAssert .nilIface 20 57 true).run Tryd.prog w = .ok (.tuple #[.nilIface, .bool false]) w := by kernel_rfl

set_option maxRecDepth 10000 in
set_option maxHeartbeats 2000000 in
theorem catch_panicking (X E : Nat) (_hXE : X ≠ E) (x0 x1 x2 x3 x4 y : Value) (fv : Value) (w : World) (hX : w.heap[X]? = some (.cells #[x0, x1, x2, x3, x4] 26 (0, 0))) (hE : w.heap[E]? = some (.cells #[y] 57 (0, 0))) :
    CallsD Tryd.prog 62 #[.pointer (some ⟨X, 0, none⟩), .pointer (some ⟨E, 0, none⟩)] (.panicking [{ v := .iface 61 fv, recovered := false }]) w fun e u' w' =>
      e = .returned (.tuple #[]) ∧ u' = .panicking [{ v := .iface 61 fv, recovered := true }] ∧ w' = (((((w.setCell ⟨X, 0, none⟩ (.int .i64 0)).setCell ⟨X, 1, none⟩ (.int .i64 0)).setCell ⟨X, 2, none⟩ (.bool false)).setCell ⟨X, 3, none⟩ (.slice none 0 0)).setCell ⟨X, 4, none⟩ (.slice none 0 0)).setCell ⟨E, 0, none⟩ (.iface 61 fv) := by
  have c0 : w.cell? ⟨X, 0, none⟩ = some x0 := (cell_of_row _ X 0 _ 26 (0, 0) hX).trans rfl
  have c1 : w.cell? ⟨X, 1, none⟩ = some x1 := (cell_of_row _ X 1 _ 26 (0, 0) hX).trans rfl
  have c2 : w.cell? ⟨X, 2, none⟩ = some x2 := (cell_of_row _ X 2 _ 26 (0, 0) hX).trans rfl
  have c3 : w.cell? ⟨X, 3, none⟩ = some x3 := (cell_of_row _ X 3 _ 26 (0, 0) hX).trans rfl
  have c4 : w.cell? ⟨X, 4, none⟩ = some x4 := (cell_of_row _ X 4 _ 26 (0, 0) hX).trans rfl
  have f0 := frozen_of_row w X 0 _ 26 hX
  have f1 := frozen_of_row w X 1 _ 26 hX
  have f2 := frozen_of_row w X 2 _ 26 hX
  have f3 := frozen_of_row w X 3 _ 26 hX
  have f4 := frozen_of_row w X 4 _ 26 hX
  have ce : w.cell? ⟨E, 0, none⟩ = some y := (cell_of_row _ E 0 _ 57 (0, 0) hE).trans rfl
  have fe := frozen_of_row w E 0 _ 57 hE
  clear hX hE
  refine callsD_of_wpS Tryd.func62 rfl fun c₀ cs hu => ?_
  apply wpS_seq
  apply wpS_region
  simp [wpOpsS, go_sem, recoverD, hu, Tryd.ntmps62, Exit.thenS, Tryd.assertFault]
  apply wpS_seq
  apply wpS_region
  simp [wpOpsS, go_sem, Exit.thenS]
  refine wpS_cond (t := true) (by simp [Act.eval, Array.replicate]) ?_
  simp only [if_true]
  apply wpS_region
  simp [wpOpsS, go_sem, c0, c1, c2, c3, c4, f0, f1, f2, f3, f4, ce, fe, bodyPostS, results, Tryd.results62]

set_option maxRecDepth 10000 in
set_option maxHeartbeats 2000000 in
theorem catch_idle (X E : Nat) (w : World) :
    CallsD Tryd.prog 62 #[.pointer (some ⟨X, 0, none⟩), .pointer (some ⟨E, 0, none⟩)] .returning w fun e u' w' => e = .returned (.tuple #[]) ∧ u' = .returning ∧ w = w' := by
  refine callsD_of_wpS Tryd.func62 rfl fun c₀ cs hu => ?_
  apply wpS_seq
  apply wpS_region
  simp [wpOpsS, go_sem, recoverD, hu, Tryd.ntmps62, Exit.thenS, Tryd.assertNil]
  apply wpS_seq
  apply wpS_region
  simp [wpOpsS, go_sem, Exit.thenS]
  refine wpS_cond (t := false) (by simp [Act.eval, Array.replicate]) ?_
  simp only [Bool.false_eq_true, if_false]
  refine wpS_of_wp (wp_skip ?_)
  cases c₀
  simp_all [bodyPostS, results, Tryd.results62]

/-- What readWhole answers. -/
def RwPost (R : Rs It) (w : World) (ev : Ending) (w' : World) : Prop := Below w.heap.size w w' ∧ match R with
  | .ok x _ => ∃ ab nb cb ak nk ck M, ev = .returned (.tuple #[itv x ab nb cb ak nk ck, .nilIface]) ∧ w.heap.size ≤ M ∧ M ≤ w'.heap.size ∧ OwnB w.heap.size M w' ab nb cb x.body ∧ OwnKids 12 M w'.heap.size w' ak nk x.kids
  | .no c p => ev = .returned (.tuple #[itv zeroIt none 0 0 none 0 0, .iface 61 (.agg #[.int .i64 (c : Int), .int .i64 (p : Int)])])

/-- The door behind a fault. -/
theorem door_fault (X E : Nat) (hXE : X ≠ E) (x0 x1 x2 x3 x4 y : Value) (fv : Value) (W w'' : World) (hX : W.heap[X]? = some (.cells #[x0, x1, x2, x3, x4] 26 (0, 0))) (hE : W.heap[E]? = some (.cells #[y] 57 (0, 0)))
    (hw : w'' = (((((W.setCell ⟨X, 0, none⟩ (.int .i64 0)).setCell ⟨X, 1, none⟩ (.int .i64 0)).setCell ⟨X, 2, none⟩ (.bool false)).setCell ⟨X, 3, none⟩ (.slice none 0 0)).setCell ⟨X, 4, none⟩ (.slice none 0 0)).setCell ⟨E, 0, none⟩ fv) :
    w''.heap[X]? = some (.cells #[.int .i64 0, .int .i64 0, .bool false, .slice none 0 0, .slice none 0 0] 26 (0, 0)) ∧ w''.heap[E]? = some (.cells #[fv] 57 (0, 0)) ∧ ∀ B, B ≤ X → B ≤ E → Below B W w'' := by
  have q0 := heap_setCell_same W X 0 _ 26 (.int .i64 0) hX
  have q1 := heap_setCell_same _ X 1 _ 26 (.int .i64 0) q0
  have q2 := heap_setCell_same _ X 2 _ 26 (.bool false) q1
  have q3 := heap_setCell_same _ X 3 _ 26 (.slice none 0 0) q2
  have q4 := heap_setCell_same _ X 4 _ 26 (.slice none 0 0) q3
  have q5 := (heap_setCell_other _ ⟨E, 0, none⟩ X fv (by simp; omega)).trans q4
  have e0 := (heap_setCell_other W ⟨X, 0, none⟩ E (.int .i64 0) (by simp; omega)).trans hE
  have e1 := (heap_setCell_other _ ⟨X, 1, none⟩ E (.int .i64 0) (by simp; omega)).trans e0
  have e2 := (heap_setCell_other _ ⟨X, 2, none⟩ E (.bool false) (by simp; omega)).trans e1
  have e3 := (heap_setCell_other _ ⟨X, 3, none⟩ E (.slice none 0 0) (by simp; omega)).trans e2
  have e4 := (heap_setCell_other _ ⟨X, 4, none⟩ E (.slice none 0 0) (by simp; omega)).trans e3
  have e5 := heap_setCell_same _ E 0 _ 57 fv e4
  rw [hw]
  exact ⟨q5, e5, fun B h1 h2 => ((((((Below.refl B W).setCell h1 _).setCell h1 _).setCell h1 _).setCell h1 _).setCell h1 _).setCell h2 _⟩

theorem readR_long {lax : Bool} {bs : List Int} (h : 20000 < bs.length) : readR lax bs = .no 7 0 := by unfold readR; rw [if_pos h]
theorem readR_no {lax : Bool} {bs : List Int} {c p : Nat} (h : ¬ 20000 < bs.length) (hi : itemR lax bs 12 0 bs.length = .no c p) : readR lax bs = .no c p := by unfold readR; rw [if_neg h, hi]
theorem readR_ok {lax : Bool} {bs : List Int} {x : It} {nx : Nat} (h : ¬ 20000 < bs.length) (hi : itemR lax bs 12 0 bs.length = .ok x nx) : readR lax bs = if nx < bs.length then .no 6 nx else .ok x nx := by unfold readR; rw [if_neg h, hi]

set_option maxRecDepth 10000 in
set_option maxHeartbeats 2000000 in
theorem door_done {lax : Bool} {bs : List Int} {c p : Nat} (hf : Hid (readR lax bs = .no c p)) {w W : World} {x0 x1 x2 x3 x4 y : Value} (b0 : W.heap[w.heap.size]? = some (.cells #[x0, x1, x2, x3, x4] 26 (0, 0))) (b1 : W.heap[w.heap.size + 1]? = some (.cells #[y] 57 (0, 0)))
    (hB0 : Below w.heap.size w W) (tmps : Array Value) (h4 : tmps[4]?.getD undef = .pointer (some ⟨w.heap.size, 0, none⟩)) (h5 : tmps[5]?.getD undef = .pointer (some ⟨w.heap.size + 1, 0, none⟩)) :
    bodyPostD Tryd.prog Tryd.f40 (fun ev w' => RwPost (readR lax bs) w ev w') (.panic (gvUp c p)) { tmps := tmps, defers := [{ target := .fn (.func 62) #[.pointer (some ⟨w.heap.size, 0, none⟩), .pointer (some ⟨w.heap.size + 1, 0, none⟩)], args := #[] }] } W := by
  refine leaves_cons (f := 62) (args := #[.pointer (some ⟨w.heap.size, 0, none⟩), .pointer (some ⟨w.heap.size + 1, 0, none⟩)]) (by simp) (by simp [go_sem]) ?_
  refine (catch_panicking w.heap.size (w.heap.size + 1) (by omega) _ _ _ _ _ _ (.agg #[.int .i64 (c : Int), .int .i64 (p : Int)]) W b0 b1).mono ?_
  rintro e u' w2 ⟨rfl, rfl, hw2⟩
  obtain ⟨rX, rE, rb⟩ := door_fault w.heap.size (w.heap.size + 1) (by omega) _ _ _ _ _ _ _ W w2 b0 b1 hw2
  clear hw2
  have d0 : w2.cell? ⟨w.heap.size, 0, none⟩ = some (.int .i64 0) := (cell_of_row _ w.heap.size 0 _ 26 (0, 0) rX).trans rfl
  have d1 : w2.cell? ⟨w.heap.size, 1, none⟩ = some (.int .i64 0) := (cell_of_row _ w.heap.size 1 _ 26 (0, 0) rX).trans rfl
  have d2 : w2.cell? ⟨w.heap.size, 2, none⟩ = some (.bool false) := (cell_of_row _ w.heap.size 2 _ 26 (0, 0) rX).trans rfl
  have d3 : w2.cell? ⟨w.heap.size, 3, none⟩ = some (.slice none 0 0) := (cell_of_row _ w.heap.size 3 _ 26 (0, 0) rX).trans rfl
  have d4 : w2.cell? ⟨w.heap.size, 4, none⟩ = some (.slice none 0 0) := (cell_of_row _ w.heap.size 4 _ 26 (0, 0) rX).trans rfl
  have dE : w2.cell? ⟨w.heap.size + 1, 0, none⟩ = some (.iface 61 (.agg #[.int .i64 (c : Int), .int .i64 (p : Int)])) := (cell_of_row _ (w.heap.size + 1) 0 _ 57 (0, 0) rE).trans rfl
  have hbz : Below w.heap.size w w2 := hB0.trans (rb w.heap.size (Nat.le_refl _) (by omega))
  clear rX rE rb b0 b1
  simp [Leaves, settle, results, Tryd.results40, go_sem, d0, d1, d2, d3, d4, dE, h4, h5]
  refine ⟨hbz, ?_⟩
  rw [hf.out]
  rfl

set_option maxRecDepth 10000 in
set_option maxHeartbeats 4000000 in
theorem readWhole_any (a : Option Addr) (n cap : Nat) (lax : Bool) (bs : List Int) (w : World) (h : Row w a n bs) (hcap : n ≤ cap) (hn63 : n ≤ 9223372036854775807) :
    Calls Tryd.prog 40 #[.slice a n cap, .bool lax] w fun ev w' => RwPost (readR lax bs) w ev w' := by
  have hmf : ∀ (fn : Fn) (first cap : Array Value) (w : World), (Instr.makeFunc fn first cap).run Tryd.prog w = .ok (.func fn first cap) w := fun _ _ _ _ => rfl
  have hlen := h.len
  have HR : Hid (Row w a n bs) := h
  clear h
  obtain ⟨b0, b1⟩ := two_blocks w (.cells #[.int .i64 0, .int .i64 0, .bool false, .slice none 0 0, .slice none 0 0] 26) (.cells #[.nilIface] 57)
  have hB0 : Below w.heap.size w ((w.alloc (.cells #[.int .i64 0, .int .i64 0, .bool false, .slice none 0 0, .slice none 0 0] 26)).alloc (.cells #[.nilIface] 57)) := ((Below.refl _ _).alloc (Nat.le_refl _) _).alloc (by simp) _
  have hS0 : ((w.alloc (.cells #[.int .i64 0, .int .i64 0, .bool false, .slice none 0 0, .slice none 0 0] 26)).alloc (.cells #[.nilIface] 57)).heap.size = w.heap.size + 2 := by simp
  by_cases hlong : 20000 < n
  · have hf : Hid (readR lax bs = .no 7 0) := readR_long (by omega)
    have hli : (20000 : Int) < (n : Int) := by omega
    go_enter_defers Tryd.func40, Tryd.ntmps40
    go_wp2_with (go_at_call 63; refine (giveUp_any 7 0 _).mono ?_; rintro e w1 ⟨rfl, rfl⟩)
    obtain ⟨W0, hW0⟩ : ∃ W0, W0 = ((w.alloc (.cells #[.int .i64 0, .int .i64 0, .bool false, .slice none 0 0, .slice none 0 0] 26)).alloc (.cells #[.nilIface] 57)) := ⟨_, rfl⟩
    rw [← hW0] at b0 b1 hB0 hS0 ⊢
    clear hW0
    exact door_done hf b0 b1 hB0 _ rfl rfl
  have hli : ¬ (20000 : Int) < (n : Int) := by omega
  have HI := itemC_all lax bs n cap a (by omega) hcap 12 (Nat.le_refl _)
  go_enter_defers Tryd.func40, Tryd.ntmps40
  go_upto_region 5 with fail
  obtain ⟨W0, hW0⟩ : ∃ W0, W0 = ((w.alloc (.cells #[.int .i64 0, .int .i64 0, .bool false, .slice none 0 0, .slice none 0 0] 26)).alloc (.cells #[.nilIface] 57)) := ⟨_, rfl⟩
  rw [← hW0] at b0 b1 hB0 hS0 ⊢
  clear hW0
  have HC := HI 0 n W0 (HR.out.kept hB0) (Nat.zero_le _) (Nat.le_refl _)
  cases hit : itemR lax bs 12 0 n with
  | no c p =>
    rw [hit] at HC
    have hf : Hid (readR lax bs = .no c p) := readR_no (by omega) (by rw [hlen]; exact hit)
    go_wp2_with (go_at_call 64; refine HC.mono ?_; rintro ev w3 ⟨hb3, hh⟩; obtain rfl : ev = .panicked (gvUp c p) := hh)
    exact door_done hf (heap_kept hb3 (by omega) b0) (heap_kept hb3 (by omega) b1) (hB0.trans (hb3.mono (by omega))) _ rfl rfl
  | ok x nx =>
    rw [hit] at HC
    have hR : Hid (readR lax bs = if nx < bs.length then .no 6 nx else .ok x nx) := readR_ok (by omega) (by rw [hlen]; exact hit)
    -- OKARM
    have hs0 := hS0
    clear hit
    go_upto_region 6 with (go_at_call 64; refine HC.mono ?_; rintro ev w3 ⟨hb3, ab, nb, cb, ak, nk, ck, M, rfl, m1, m2, ob, ok⟩; have r0 := heap_kept hb3 (by omega) b0; have r1 := heap_kept hb3 (by omega) b1; unfold itv; have c0 : w3.cell? ⟨w.heap.size, 0, none⟩ = some (.int .i64 0) := (cell_of_row _ w.heap.size 0 _ 26 (0, 0) r0).trans rfl; have f0 : w3.frozen? ⟨w.heap.size, 0, none⟩ = false := frozen_of_row w3 w.heap.size 0 _ 26 r0; have c1 : w3.cell? ⟨w.heap.size, 1, none⟩ = some (.int .i64 0) := (cell_of_row _ w.heap.size 1 _ 26 (0, 0) r0).trans rfl; have f1 : w3.frozen? ⟨w.heap.size, 1, none⟩ = false := frozen_of_row w3 w.heap.size 1 _ 26 r0; have c2 : w3.cell? ⟨w.heap.size, 2, none⟩ = some (.bool false) := (cell_of_row _ w.heap.size 2 _ 26 (0, 0) r0).trans rfl; have f2 : w3.frozen? ⟨w.heap.size, 2, none⟩ = false := frozen_of_row w3 w.heap.size 2 _ 26 r0; have c3 : w3.cell? ⟨w.heap.size, 3, none⟩ = some (.slice none 0 0) := (cell_of_row _ w.heap.size 3 _ 26 (0, 0) r0).trans rfl; have f3 : w3.frozen? ⟨w.heap.size, 3, none⟩ = false := frozen_of_row w3 w.heap.size 3 _ 26 r0; have c4 : w3.cell? ⟨w.heap.size, 4, none⟩ = some (.slice none 0 0) := (cell_of_row _ w.heap.size 4 _ 26 (0, 0) r0).trans rfl; have f4 : w3.frozen? ⟨w.heap.size, 4, none⟩ = false := frozen_of_row w3 w.heap.size 4 _ 26 r0)
    have q0 := heap_setCell_same (w3) w.heap.size 0 _ 26 (.int .i64 x.cls) r0
    have q1 := heap_setCell_same ((w3).setCell ⟨w.heap.size, 0, none⟩ (.int .i64 x.cls)) w.heap.size 1 _ 26 (.int .i64 x.tag) q0
    have q2 := heap_setCell_same (((w3).setCell ⟨w.heap.size, 0, none⟩ (.int .i64 x.cls)).setCell ⟨w.heap.size, 1, none⟩ (.int .i64 x.tag)) w.heap.size 2 _ 26 (.bool x.cons) q1
    have q3 := heap_setCell_same ((((w3).setCell ⟨w.heap.size, 0, none⟩ (.int .i64 x.cls)).setCell ⟨w.heap.size, 1, none⟩ (.int .i64 x.tag)).setCell ⟨w.heap.size, 2, none⟩ (.bool x.cons)) w.heap.size 3 _ 26 (.slice ab nb cb) q2
    have q4 := heap_setCell_same (((((w3).setCell ⟨w.heap.size, 0, none⟩ (.int .i64 x.cls)).setCell ⟨w.heap.size, 1, none⟩ (.int .i64 x.tag)).setCell ⟨w.heap.size, 2, none⟩ (.bool x.cons)).setCell ⟨w.heap.size, 3, none⟩ (.slice ab nb cb)) w.heap.size 4 _ 26 (.slice ak nk ck) q3
    have hs3 := hb3.size
    have tt : Touch w.heap.size (w.heap.size + 1) w3 ((((((w3).setCell ⟨w.heap.size, 0, none⟩ (.int .i64 x.cls)).setCell ⟨w.heap.size, 1, none⟩ (.int .i64 x.tag)).setCell ⟨w.heap.size, 2, none⟩ (.bool x.cons)).setCell ⟨w.heap.size, 3, none⟩ (.slice ab nb cb)).setCell ⟨w.heap.size, 4, none⟩ (.slice ak nk ck)) := ((((touch_set _ _ _ _ (by omega) (by omega)).trans (touch_set _ _ _ _ (by omega) (by omega))).trans (touch_set _ _ _ _ (by omega) (by omega))).trans (touch_set _ _ _ _ (by omega) (by omega))).trans (touch_set _ _ _ _ (by omega) (by omega))
    have tse : ((((((w3).setCell ⟨w.heap.size, 0, none⟩ (.int .i64 x.cls)).setCell ⟨w.heap.size, 1, none⟩ (.int .i64 x.tag)).setCell ⟨w.heap.size, 2, none⟩ (.bool x.cons)).setCell ⟨w.heap.size, 3, none⟩ (.slice ab nb cb)).setCell ⟨w.heap.size, 4, none⟩ (.slice ak nk ck)).heap.size = w3.heap.size := by simp
    have RX : Hid (((((((w3).setCell ⟨w.heap.size, 0, none⟩ (.int .i64 x.cls)).setCell ⟨w.heap.size, 1, none⟩ (.int .i64 x.tag)).setCell ⟨w.heap.size, 2, none⟩ (.bool x.cons)).setCell ⟨w.heap.size, 3, none⟩ (.slice ab nb cb)).setCell ⟨w.heap.size, 4, none⟩ (.slice ak nk ck)).heap[w.heap.size]? = some (.cells #[.int .i64 x.cls, .int .i64 x.tag, .bool x.cons, .slice ab nb cb, .slice ak nk ck] 26 (0, 0))) := q4
    obtain ⟨W1, hW1⟩ : ∃ W1, W1 = (((((w3).setCell ⟨w.heap.size, 0, none⟩ (.int .i64 x.cls)).setCell ⟨w.heap.size, 1, none⟩ (.int .i64 x.tag)).setCell ⟨w.heap.size, 2, none⟩ (.bool x.cons)).setCell ⟨w.heap.size, 3, none⟩ (.slice ab nb cb)).setCell ⟨w.heap.size, 4, none⟩ (.slice ak nk ck) := ⟨_, rfl⟩
    rw [← hW1] at tt tse RX ⊢
    clear hW1 q0 q1 q2 q3 q4 c0 c1 c2 c3 c4 f0 f1 f2 f3 f4
    have RE : Hid (W1.heap[w.heap.size + 1]? = some (.cells #[.nilIface] 57 (0, 0))) := (tt.block _ (by omega) (.inr (Nat.le_refl _))).trans r1
    have HB : Hid (Below w.heap.size w W1) := (hB0.trans (hb3.mono (by omega))).trans (tt.below (Nat.le_refl _) (by omega))
    have HOB : Hid (OwnB W0.heap.size M W1 ab nb cb x.body) := ob.touch (.inr (by omega)) tt
    have HOK : Hid (OwnKids 12 M w3.heap.size W1 ak nk x.kids) := ownKids_moves 12 _ _ _ _ _ _ _ _ _ ok (.inr (by omega)) tt
    have hs1 : w.heap.size + 2 ≤ W1.heap.size := by omega
    clear r0 r1 b0 b1 hB0 hb3 ob ok tt HC HI
    by_cases hlt : nx < n
    · have hf : Hid (readR lax bs = .no 6 nx) := by show _ = _; rw [hR.out, if_pos (by omega)]
      have hlti : (nx : Int) < (n : Int) := by omega
      go_wp2_with (go_at_call 63; refine (giveUp_any 6 nx _).mono ?_; rintro e w4 ⟨rfl, rfl⟩)
      exact door_done hf RX.out RE.out HB.out _ rfl rfl
    · have hf : Hid (readR lax bs = .ok x nx) := by show _ = _; rw [hR.out, if_neg (by omega)]
      have hlti : ¬ (nx : Int) < (n : Int) := by omega
      have c0 : W1.cell? ⟨w.heap.size, 0, none⟩ = some (.int .i64 x.cls) := (cell_of_row _ w.heap.size 0 _ 26 (0, 0) RX.out).trans rfl
      have f0 : W1.frozen? ⟨w.heap.size, 0, none⟩ = false := frozen_of_row W1 w.heap.size 0 _ 26 RX.out
      have c1 : W1.cell? ⟨w.heap.size, 1, none⟩ = some (.int .i64 x.tag) := (cell_of_row _ w.heap.size 1 _ 26 (0, 0) RX.out).trans rfl
      have f1 : W1.frozen? ⟨w.heap.size, 1, none⟩ = false := frozen_of_row W1 w.heap.size 1 _ 26 RX.out
      have c2 : W1.cell? ⟨w.heap.size, 2, none⟩ = some (.bool x.cons) := (cell_of_row _ w.heap.size 2 _ 26 (0, 0) RX.out).trans rfl
      have f2 : W1.frozen? ⟨w.heap.size, 2, none⟩ = false := frozen_of_row W1 w.heap.size 2 _ 26 RX.out
      have c3 : W1.cell? ⟨w.heap.size, 3, none⟩ = some (.slice ab nb cb) := (cell_of_row _ w.heap.size 3 _ 26 (0, 0) RX.out).trans rfl
      have f3 : W1.frozen? ⟨w.heap.size, 3, none⟩ = false := frozen_of_row W1 w.heap.size 3 _ 26 RX.out
      have c4 : W1.cell? ⟨w.heap.size, 4, none⟩ = some (.slice ak nk ck) := (cell_of_row _ w.heap.size 4 _ 26 (0, 0) RX.out).trans rfl
      have f4 : W1.frozen? ⟨w.heap.size, 4, none⟩ = false := frozen_of_row W1 w.heap.size 4 _ 26 RX.out
      have ce : W1.cell? ⟨w.heap.size + 1, 0, none⟩ = some .nilIface := (cell_of_row _ (w.heap.size + 1) 0 _ 57 (0, 0) RE.out).trans rfl
      have fe : W1.frozen? ⟨w.heap.size + 1, 0, none⟩ = false := frozen_of_row W1 (w.heap.size + 1) 0 _ 57 RE.out
      go_wp2
      have q0 := heap_setCell_same (W1) w.heap.size 0 _ 26 (.int .i64 x.cls) RX.out
      have e0 := (heap_setCell_other (W1) ⟨w.heap.size, 0, none⟩ (w.heap.size + 1) (.int .i64 x.cls) (by simp)).trans (RE.out)
      have q1 := heap_setCell_same ((W1).setCell ⟨w.heap.size, 0, none⟩ (.int .i64 x.cls)) w.heap.size 1 _ 26 (.int .i64 x.tag) q0
      have e1 := (heap_setCell_other ((W1).setCell ⟨w.heap.size, 0, none⟩ (.int .i64 x.cls)) ⟨w.heap.size, 1, none⟩ (w.heap.size + 1) (.int .i64 x.tag) (by simp)).trans (e0)
      have q2 := heap_setCell_same (((W1).setCell ⟨w.heap.size, 0, none⟩ (.int .i64 x.cls)).setCell ⟨w.heap.size, 1, none⟩ (.int .i64 x.tag)) w.heap.size 2 _ 26 (.bool x.cons) q1
      have e2 := (heap_setCell_other (((W1).setCell ⟨w.heap.size, 0, none⟩ (.int .i64 x.cls)).setCell ⟨w.heap.size, 1, none⟩ (.int .i64 x.tag)) ⟨w.heap.size, 2, none⟩ (w.heap.size + 1) (.bool x.cons) (by simp)).trans (e1)
      have q3 := heap_setCell_same ((((W1).setCell ⟨w.heap.size, 0, none⟩ (.int .i64 x.cls)).setCell ⟨w.heap.size, 1, none⟩ (.int .i64 x.tag)).setCell ⟨w.heap.size, 2, none⟩ (.bool x.cons)) w.heap.size 3 _ 26 (.slice ab nb cb) q2
      have e3 := (heap_setCell_other ((((W1).setCell ⟨w.heap.size, 0, none⟩ (.int .i64 x.cls)).setCell ⟨w.heap.size, 1, none⟩ (.int .i64 x.tag)).setCell ⟨w.heap.size, 2, none⟩ (.bool x.cons)) ⟨w.heap.size, 3, none⟩ (w.heap.size + 1) (.slice ab nb cb) (by simp)).trans (e2)
      have q4 := heap_setCell_same (((((W1).setCell ⟨w.heap.size, 0, none⟩ (.int .i64 x.cls)).setCell ⟨w.heap.size, 1, none⟩ (.int .i64 x.tag)).setCell ⟨w.heap.size, 2, none⟩ (.bool x.cons)).setCell ⟨w.heap.size, 3, none⟩ (.slice ab nb cb)) w.heap.size 4 _ 26 (.slice ak nk ck) q3
      have e4 := (heap_setCell_other (((((W1).setCell ⟨w.heap.size, 0, none⟩ (.int .i64 x.cls)).setCell ⟨w.heap.size, 1, none⟩ (.int .i64 x.tag)).setCell ⟨w.heap.size, 2, none⟩ (.bool x.cons)).setCell ⟨w.heap.size, 3, none⟩ (.slice ab nb cb)) ⟨w.heap.size, 4, none⟩ (w.heap.size + 1) (.slice ak nk ck) (by simp)).trans (e3)
      have q5 := (heap_setCell_other ((((((W1).setCell ⟨w.heap.size, 0, none⟩ (.int .i64 x.cls)).setCell ⟨w.heap.size, 1, none⟩ (.int .i64 x.tag)).setCell ⟨w.heap.size, 2, none⟩ (.bool x.cons)).setCell ⟨w.heap.size, 3, none⟩ (.slice ab nb cb)).setCell ⟨w.heap.size, 4, none⟩ (.slice ak nk ck)) ⟨w.heap.size + 1, 0, none⟩ w.heap.size .nilIface (by simp)).trans q4
      have e5 := heap_setCell_same ((((((W1).setCell ⟨w.heap.size, 0, none⟩ (.int .i64 x.cls)).setCell ⟨w.heap.size, 1, none⟩ (.int .i64 x.tag)).setCell ⟨w.heap.size, 2, none⟩ (.bool x.cons)).setCell ⟨w.heap.size, 3, none⟩ (.slice ab nb cb)).setCell ⟨w.heap.size, 4, none⟩ (.slice ak nk ck)) (w.heap.size + 1) 0 _ 57 .nilIface e4
      have tt : Touch w.heap.size (w.heap.size + 2) W1 (((((((W1).setCell ⟨w.heap.size, 0, none⟩ (.int .i64 x.cls)).setCell ⟨w.heap.size, 1, none⟩ (.int .i64 x.tag)).setCell ⟨w.heap.size, 2, none⟩ (.bool x.cons)).setCell ⟨w.heap.size, 3, none⟩ (.slice ab nb cb)).setCell ⟨w.heap.size, 4, none⟩ (.slice ak nk ck)).setCell ⟨w.heap.size + 1, 0, none⟩ (.nilIface)) := (((((touch_set _ _ _ _ (by omega) (by omega)).trans (touch_set _ _ _ _ (by omega) (by omega))).trans (touch_set _ _ _ _ (by omega) (by omega))).trans (touch_set _ _ _ _ (by omega) (by omega))).trans (touch_set _ _ _ _ (by omega) (by omega))).trans (touch_set _ _ _ _ (by omega) (by omega))
      have tse2 : (((((((W1).setCell ⟨w.heap.size, 0, none⟩ (.int .i64 x.cls)).setCell ⟨w.heap.size, 1, none⟩ (.int .i64 x.tag)).setCell ⟨w.heap.size, 2, none⟩ (.bool x.cons)).setCell ⟨w.heap.size, 3, none⟩ (.slice ab nb cb)).setCell ⟨w.heap.size, 4, none⟩ (.slice ak nk ck)).setCell ⟨w.heap.size + 1, 0, none⟩ (.nilIface)).heap.size = W1.heap.size := by simp
      obtain ⟨W2, hW2⟩ : ∃ W2, W2 = ((((((W1).setCell ⟨w.heap.size, 0, none⟩ (.int .i64 x.cls)).setCell ⟨w.heap.size, 1, none⟩ (.int .i64 x.tag)).setCell ⟨w.heap.size, 2, none⟩ (.bool x.cons)).setCell ⟨w.heap.size, 3, none⟩ (.slice ab nb cb)).setCell ⟨w.heap.size, 4, none⟩ (.slice ak nk ck)).setCell ⟨w.heap.size + 1, 0, none⟩ (.nilIface) := ⟨_, rfl⟩
      rw [← hW2] at tt tse2 q5 e5 ⊢
      clear hW2 q0 q1 q2 q3 q4 e0 e1 e2 e3 e4 c0 c1 c2 c3 c4 f0 f1 f2 f3 f4 ce fe
      refine leaves_cons (f := 62) (args := #[.pointer (some ⟨w.heap.size, 0, none⟩), .pointer (some ⟨w.heap.size + 1, 0, none⟩)]) (by simp) (by simp [go_sem]) ?_
      refine (catch_idle w.heap.size (w.heap.size + 1) W2).mono ?_
      rintro e u' w2 ⟨rfl, rfl, rfl⟩
      have d0 : W2.cell? ⟨w.heap.size, 0, none⟩ = some (.int .i64 x.cls) := (cell_of_row _ w.heap.size 0 _ 26 (0, 0) q5).trans rfl
      have d1 : W2.cell? ⟨w.heap.size, 1, none⟩ = some (.int .i64 x.tag) := (cell_of_row _ w.heap.size 1 _ 26 (0, 0) q5).trans rfl
      have d2 : W2.cell? ⟨w.heap.size, 2, none⟩ = some (.bool x.cons) := (cell_of_row _ w.heap.size 2 _ 26 (0, 0) q5).trans rfl
      have d3 : W2.cell? ⟨w.heap.size, 3, none⟩ = some (.slice ab nb cb) := (cell_of_row _ w.heap.size 3 _ 26 (0, 0) q5).trans rfl
      have d4 : W2.cell? ⟨w.heap.size, 4, none⟩ = some (.slice ak nk ck) := (cell_of_row _ w.heap.size 4 _ 26 (0, 0) q5).trans rfl
      have dE : W2.cell? ⟨w.heap.size + 1, 0, none⟩ = some .nilIface := (cell_of_row _ (w.heap.size + 1) 0 _ 57 (0, 0) e5).trans rfl
      clear q5 e5
      simp [Leaves, settle, results, Tryd.results40, go_sem, d0, d1, d2, d3, d4, dE]
      refine ⟨HB.out.trans (tt.below (Nat.le_refl _) (by omega)), ?_⟩
      rw [hf.out]
      refine ⟨ab, nb, cb, ak, nk, ck, M, rfl, by omega, by omega, (HOB.out.touch (.inr (by omega)) tt).mono (by omega) (Nat.le_refl _), ?_⟩
      rw [tse2, tse]
      exact ownKids_moves 12 _ _ _ _ _ _ _ _ _ HOK.out (.inr (by omega)) tt

end Go.Proofs.YtjkkokjojaknkaaDoor
