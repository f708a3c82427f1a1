import Derived.Test.YtjkkokjojaknkaaDoorRR10
import Derived.Test.YtjkkokjojaknkaaDoorEA1
namespace Go.Proofs.YtjkkokjojaknkaaDoor
open Go.RowKit

theorem results_item3 {fn : Func} {t u v : Tmp} (h : fn.results = #[.cell t 26, .tmp u, .tmp v]) (tmps : Array Value) (g : Nat) (ht : tmps.getD t undef = .pointer (some ⟨g, 0, none⟩)) (w : World) (c0 c1 c2 c3 c4 : Value)
    (hb : w.heap[g]? = some (.cells #[c0, c1, c2, c3, c4] 26 (0, 0))) : (results fn tmps).run Tryd.prog w = .ok (.tuple #[.agg #[c0, c1, c2, c3, c4], tmps.getD u undef, tmps.getD v undef]) w := by
  have d0 : w.cell? ⟨g, 0, none⟩ = some c0 := (cell_of_row _ g 0 _ 26 (0, 0) hb).trans rfl
  have d1 : w.cell? ⟨g, 1, none⟩ = some c1 := (cell_of_row _ g 1 _ 26 (0, 0) hb).trans rfl
  have d2 : w.cell? ⟨g, 2, none⟩ = some c2 := (cell_of_row _ g 2 _ 26 (0, 0) hb).trans rfl
  have d3 : w.cell? ⟨g, 3, none⟩ = some c3 := (cell_of_row _ g 3 _ 26 (0, 0) hb).trans rfl
  have d4 : w.cell? ⟨g, 4, none⟩ = some c4 := (cell_of_row _ g 4 _ 26 (0, 0) hb).trans rfl
  clear hb
  have ht' : tmps[t]?.getD undef = .pointer (some ⟨g, 0, none⟩) := by rw [← ht]; simp
  simp [results, h, go_sem, ht', d0, d1, d2, d3, d4]

theorem OwnKids.wide {d lo hi hi' : Nat} {w : World} {a : Option Addr} {n : Nat} {xs : List It} (h : OwnKids d lo hi w a n xs) (hh : hi ≤ hi') : OwnKids d lo hi' w a n xs := by
  cases d with
  | zero => exact h
  | succ d =>
    refine ⟨h.1, h.2.1, ?_⟩
    rcases h.2.2 with h0 | ⟨g, cap, vs, rfl, g1, g2, hr, hp⟩
    · exact .inl h0
    · exact .inr ⟨g, cap, vs, rfl, g1, by omega, hr, hp.wide hh⟩

/-- What ReadItem answers. -/
def RiPost (R : Rs It) (w : World) (ev : Ending) (w' : World) : Prop := Below w.heap.size w w' ∧ match R with
  | .ok x _ => ∃ ab nb cb ak nk ck M, ev = .returned (.tuple #[itv x ab nb cb ak nk ck, .int .i64 0, .int .i64 0]) ∧ w.heap.size ≤ M ∧ M ≤ w'.heap.size ∧ OwnB w.heap.size M w' ab nb cb x.body ∧ OwnKids 12 M w'.heap.size w' ak nk x.kids
  | .no c p => ev = .returned (.tuple #[itv zeroIt none 0 0 none 0 0, .int .i64 (c : Int), .int .i64 (p : Int)])

set_option maxRecDepth 10000 in
set_option maxHeartbeats 4000000 in
theorem implReadItem_any (a : Option Addr) (n cap : Nat) (lax : Bool) (bs : List Int) (w : World) (hE : ErrT w) (h : Row w a n bs) (hcap : n ≤ cap) (hn63 : n ≤ 9223372036854775807) :
    Calls Tryd.prog 14 #[.slice a n cap, .bool lax] w fun ev w' => RiPost (readR lax bs) w ev w' := by
  have HR : Hid (Row w a n bs) := h
  have HE : Hid (ErrT w) := hE
  have hw0 : 0 < w.heap.size := hE.1
  clear h hE
  have hB0 : Below w.heap.size w (w.alloc (.cells #[.int .i64 0, .int .i64 0, .bool false, .slice none 0 0, .slice none 0 0] 26)) := (Below.refl _ _).alloc (Nat.le_refl _) _
  have b0 := heap_alloc_new w (.cells #[.int .i64 0, .int .i64 0, .bool false, .slice none 0 0, .slice none 0 0] 26)
  have hS0 : (w.alloc (.cells #[.int .i64 0, .int .i64 0, .bool false, .slice none 0 0, .slice none 0 0] 26)).heap.size = w.heap.size + 1 := by simp
  go_enter Tryd.func14, Tryd.ntmps14
  go_upto_region 1 with fail
  obtain ⟨W0, hW0⟩ : ∃ W0, W0 = w.alloc (.cells #[.int .i64 0, .int .i64 0, .bool false, .slice none 0 0, .slice none 0 0] 26) := ⟨_, rfl⟩
  rw [← hW0] at b0 hB0 hS0 ⊢
  clear hW0
  have HC := readWhole_any a n cap lax bs W0 (HR.out.kept hB0) hcap hn63
  cases hrd : readR lax bs with
  | no c p =>
    rw [hrd] at HC
    have hf : Hid (readR lax bs = .no c p) := hrd
    clear hrd
    go_upto_region 3 with (go_at_call 40; refine HC.mono ?_; rintro ev w3 ⟨hb3, hh⟩; obtain rfl : ev = .returned (.tuple #[.agg #[.int .i64 0, .int .i64 0, .bool false, .slice none 0 0, .slice none 0 0], .iface 61 (.agg #[.int .i64 (c : Int), .int .i64 (p : Int)])]) := hh)
    have hs3 := hb3.size
    obtain ⟨r1, r2⟩ := two_blocks w3 (.cells #[.int .i64 0, .int .i64 0, .bool false, .slice none 0 0, .slice none 0 0] 26) (.cells #[.int .i64 0, .int .i64 0] 61)
    have hal : Below w3.heap.size w3 ((w3.alloc (.cells #[.int .i64 0, .int .i64 0, .bool false, .slice none 0 0, .slice none 0 0] 26)).alloc (.cells #[.int .i64 0, .int .i64 0] 61)) := ((Below.refl _ _).alloc (Nat.le_refl _) _).alloc (by simp) _
    have hS3 : ((w3.alloc (.cells #[.int .i64 0, .int .i64 0, .bool false, .slice none 0 0, .slice none 0 0] 26)).alloc (.cells #[.int .i64 0, .int .i64 0] 61)).heap.size = w3.heap.size + 2 := by simp
    obtain ⟨W3, hW3⟩ : ∃ W3, W3 = ((w3.alloc (.cells #[.int .i64 0, .int .i64 0, .bool false, .slice none 0 0, .slice none 0 0] 26)).alloc (.cells #[.int .i64 0, .int .i64 0] 61)) := ⟨_, rfl⟩
    rw [← hW3] at r1 r2 hal hS3 ⊢
    clear hW3
    have hB3 : Below w.heap.size w W3 := (hB0.trans (hb3.mono (by omega))).trans (hal.mono (by omega))
    have r0 := heap_kept hal (by omega) (heap_kept hb3 (by omega) b0)
    have HA := as_hit c p (w3.heap.size + 1) _ _ W3 (HE.out.below hw0 hB3) r2
    go_upto_region 4 with (go_at_call 41; refine HA.mono ?_; rintro ev w4 ⟨rfl, rF, t4⟩)
    have hs4 := t4.size
    have r04 : w4.heap[w.heap.size]? = _ := (t4.block _ (by omega) (by omega)).trans r0
    have hB4 : Below w.heap.size w w4 := hB3.trans (t4.below (by omega) (by omega))
    clear HA HC r0 r1 r2 t4 hal hb3 b0 hB0 hB3
    have zc0 : w4.cell? ⟨w.heap.size, 0, none⟩ = some (.int .i64 0) := (cell_of_row _ (w.heap.size) 0 _ 26 (0, 0) r04).trans rfl
    have zf0 : w4.frozen? ⟨w.heap.size, 0, none⟩ = false := frozen_of_row w4 (w.heap.size) 0 _ 26 r04
    have zc1 : w4.cell? ⟨w.heap.size, 1, none⟩ = some (.int .i64 0) := (cell_of_row _ (w.heap.size) 1 _ 26 (0, 0) r04).trans rfl
    have zf1 : w4.frozen? ⟨w.heap.size, 1, none⟩ = false := frozen_of_row w4 (w.heap.size) 1 _ 26 r04
    have zc2 : w4.cell? ⟨w.heap.size, 2, none⟩ = some (.bool false) := (cell_of_row _ (w.heap.size) 2 _ 26 (0, 0) r04).trans rfl
    have zf2 : w4.frozen? ⟨w.heap.size, 2, none⟩ = false := frozen_of_row w4 (w.heap.size) 2 _ 26 r04
    have zc3 : w4.cell? ⟨w.heap.size, 3, none⟩ = some (.slice none 0 0) := (cell_of_row _ (w.heap.size) 3 _ 26 (0, 0) r04).trans rfl
    have zf3 : w4.frozen? ⟨w.heap.size, 3, none⟩ = false := frozen_of_row w4 (w.heap.size) 3 _ 26 r04
    have zc4 : w4.cell? ⟨w.heap.size, 4, none⟩ = some (.slice none 0 0) := (cell_of_row _ (w.heap.size) 4 _ 26 (0, 0) r04).trans rfl
    have zf4 : w4.frozen? ⟨w.heap.size, 4, none⟩ = false := frozen_of_row w4 (w.heap.size) 4 _ 26 r04
    have g0 : w4.cell? ⟨w3.heap.size + 1, 0, none⟩ = some (.int .i64 (c : Int)) := (cell_of_row _ (w3.heap.size + 1) 0 _ 61 (0, 0) rF).trans rfl
    have g1 : w4.cell? ⟨w3.heap.size + 1, 1, none⟩ = some (.int .i64 (p : Int)) := (cell_of_row _ (w3.heap.size + 1) 1 _ 61 (0, 0) rF).trans rfl
    have hne : ¬ w3.heap.size + 1 = w.heap.size := by omega
    have R04 : Hid (_ = _) := r04
    clear rF r04
    go_region
    go_wp2
    have q0 := heap_setCell_same (w4) w.heap.size 0 _ 26 (.int .i64 0) R04.out
    have q1 := heap_setCell_same ((w4).setCell ⟨w.heap.size, 0, none⟩ (.int .i64 0)) w.heap.size 1 _ 26 (.int .i64 0) q0
    have q2 := heap_setCell_same (((w4).setCell ⟨w.heap.size, 0, none⟩ (.int .i64 0)).setCell ⟨w.heap.size, 1, none⟩ (.int .i64 0)) w.heap.size 2 _ 26 (.bool false) q1
    have q3 := heap_setCell_same ((((w4).setCell ⟨w.heap.size, 0, none⟩ (.int .i64 0)).setCell ⟨w.heap.size, 1, none⟩ (.int .i64 0)).setCell ⟨w.heap.size, 2, none⟩ (.bool false)) w.heap.size 3 _ 26 (.slice none 0 0) q2
    have q4 := heap_setCell_same (((((w4).setCell ⟨w.heap.size, 0, none⟩ (.int .i64 0)).setCell ⟨w.heap.size, 1, none⟩ (.int .i64 0)).setCell ⟨w.heap.size, 2, none⟩ (.bool false)).setCell ⟨w.heap.size, 3, none⟩ (.slice none 0 0)) w.heap.size 4 _ 26 (.slice none 0 0) q3
    have tt : Touch w.heap.size (w.heap.size + 1) w4 ((((((w4).setCell ⟨w.heap.size, 0, none⟩ (.int .i64 0)).setCell ⟨w.heap.size, 1, none⟩ (.int .i64 0)).setCell ⟨w.heap.size, 2, none⟩ (.bool false)).setCell ⟨w.heap.size, 3, none⟩ (.slice none 0 0)).setCell ⟨w.heap.size, 4, none⟩ (.slice none 0 0)) := ((((touch_set _ _ _ _ (by omega) (by omega)).trans (touch_set _ _ _ _ (by omega) (by omega))).trans (touch_set _ _ _ _ (by omega) (by omega))).trans (touch_set _ _ _ _ (by omega) (by omega))).trans (touch_set _ _ _ _ (by omega) (by omega))
    have tse : ((((((w4).setCell ⟨w.heap.size, 0, none⟩ (.int .i64 0)).setCell ⟨w.heap.size, 1, none⟩ (.int .i64 0)).setCell ⟨w.heap.size, 2, none⟩ (.bool false)).setCell ⟨w.heap.size, 3, none⟩ (.slice none 0 0)).setCell ⟨w.heap.size, 4, none⟩ (.slice none 0 0)).heap.size = w4.heap.size := by simp
    try simp only [Exit.inBlock, Exit.then]
    refine bodyPost_ret (results_item3 rfl _ w.heap.size rfl _ _ _ _ _ _ q4) rfl ?_
    refine ⟨hB4.trans (tt.below (Nat.le_refl _) (by omega)).drew, ?_⟩
    rw [hf.out]
    rfl
  | ok x nx =>
    rw [hrd] at HC
    have hf : Hid (readR lax bs = .ok x nx) := hrd
    clear hrd
    go_upto_region 3 with (go_at_call 40; refine HC.mono ?_; rintro ev w3 ⟨hb3, ab, nb, cb, ak, nk, ck, M, rfl, m1, m2, ob, ok⟩; unfold itv)
    have hs3 := hb3.size
    obtain ⟨r1, r2⟩ := two_blocks w3 (.cells #[.int .i64 x.cls, .int .i64 x.tag, .bool x.cons, .slice ab nb cb, .slice ak nk ck] 26) (.cells #[.int .i64 0, .int .i64 0] 61)
    have hal : Below w3.heap.size w3 ((w3.alloc (.cells #[.int .i64 x.cls, .int .i64 x.tag, .bool x.cons, .slice ab nb cb, .slice ak nk ck] 26)).alloc (.cells #[.int .i64 0, .int .i64 0] 61)) := ((Below.refl _ _).alloc (Nat.le_refl _) _).alloc (by simp) _
    have hS3 : ((w3.alloc (.cells #[.int .i64 x.cls, .int .i64 x.tag, .bool x.cons, .slice ab nb cb, .slice ak nk ck] 26)).alloc (.cells #[.int .i64 0, .int .i64 0] 61)).heap.size = w3.heap.size + 2 := by simp
    obtain ⟨W3, hW3⟩ : ∃ W3, W3 = ((w3.alloc (.cells #[.int .i64 x.cls, .int .i64 x.tag, .bool x.cons, .slice ab nb cb, .slice ak nk ck] 26)).alloc (.cells #[.int .i64 0, .int .i64 0] 61)) := ⟨_, rfl⟩
    rw [← hW3] at r1 r2 hal hS3 ⊢
    clear hW3
    have hB3 : Below w.heap.size w W3 := (hB0.trans (hb3.mono (by omega))).trans (hal.mono (by omega))
    have r0 := heap_kept hal (by omega) (heap_kept hb3 (by omega) b0)
    have HOB : Hid (OwnB W0.heap.size M W3 ab nb cb x.body) := ob.kept hal
    have HOK : Hid (OwnKids 12 M w3.heap.size W3 ak nk x.kids) := ok.kept hal
    have zc0 : W3.cell? ⟨w.heap.size, 0, none⟩ = some (.int .i64 0) := (cell_of_row _ (w.heap.size) 0 _ 26 (0, 0) r0).trans rfl
    have zf0 : W3.frozen? ⟨w.heap.size, 0, none⟩ = false := frozen_of_row W3 (w.heap.size) 0 _ 26 r0
    have zc1 : W3.cell? ⟨w.heap.size, 1, none⟩ = some (.int .i64 0) := (cell_of_row _ (w.heap.size) 1 _ 26 (0, 0) r0).trans rfl
    have zf1 : W3.frozen? ⟨w.heap.size, 1, none⟩ = false := frozen_of_row W3 (w.heap.size) 1 _ 26 r0
    have zc2 : W3.cell? ⟨w.heap.size, 2, none⟩ = some (.bool false) := (cell_of_row _ (w.heap.size) 2 _ 26 (0, 0) r0).trans rfl
    have zf2 : W3.frozen? ⟨w.heap.size, 2, none⟩ = false := frozen_of_row W3 (w.heap.size) 2 _ 26 r0
    have zc3 : W3.cell? ⟨w.heap.size, 3, none⟩ = some (.slice none 0 0) := (cell_of_row _ (w.heap.size) 3 _ 26 (0, 0) r0).trans rfl
    have zf3 : W3.frozen? ⟨w.heap.size, 3, none⟩ = false := frozen_of_row W3 (w.heap.size) 3 _ 26 r0
    have zc4 : W3.cell? ⟨w.heap.size, 4, none⟩ = some (.slice none 0 0) := (cell_of_row _ (w.heap.size) 4 _ 26 (0, 0) r0).trans rfl
    have zf4 : W3.frozen? ⟨w.heap.size, 4, none⟩ = false := frozen_of_row W3 (w.heap.size) 4 _ 26 r0
    have kc0 : W3.cell? ⟨w3.heap.size, 0, none⟩ = some (.int .i64 x.cls) := (cell_of_row _ (w3.heap.size) 0 _ 26 (0, 0) r1).trans rfl
    have kc1 : W3.cell? ⟨w3.heap.size, 1, none⟩ = some (.int .i64 x.tag) := (cell_of_row _ (w3.heap.size) 1 _ 26 (0, 0) r1).trans rfl
    have kc2 : W3.cell? ⟨w3.heap.size, 2, none⟩ = some (.bool x.cons) := (cell_of_row _ (w3.heap.size) 2 _ 26 (0, 0) r1).trans rfl
    have kc3 : W3.cell? ⟨w3.heap.size, 3, none⟩ = some (.slice ab nb cb) := (cell_of_row _ (w3.heap.size) 3 _ 26 (0, 0) r1).trans rfl
    have kc4 : W3.cell? ⟨w3.heap.size, 4, none⟩ = some (.slice ak nk ck) := (cell_of_row _ (w3.heap.size) 4 _ 26 (0, 0) r1).trans rfl
    have R0 : Hid (_ = _) := r0
    have HB3 : Hid (_) := hB3
    clear r0 r1 r2 hal hb3 b0 hB0 hB3 ob ok HC
    go_wp2_with (go_at_call 41; refine (as_nil _ _).mono ?_; rintro ev w4 ⟨rfl, rfl⟩)
    have q0 := heap_setCell_same (W3) w.heap.size 0 _ 26 (.int .i64 x.cls) R0.out
    have q1 := heap_setCell_same ((W3).setCell ⟨w.heap.size, 0, none⟩ (.int .i64 x.cls)) w.heap.size 1 _ 26 (.int .i64 x.tag) q0
    have q2 := heap_setCell_same (((W3).setCell ⟨w.heap.size, 0, none⟩ (.int .i64 x.cls)).setCell ⟨w.heap.size, 1, none⟩ (.int .i64 x.tag)) w.heap.size 2 _ 26 (.bool x.cons) q1
    have q3 := heap_setCell_same ((((W3).setCell ⟨w.heap.size, 0, none⟩ (.int .i64 x.cls)).setCell ⟨w.heap.size, 1, none⟩ (.int .i64 x.tag)).setCell ⟨w.heap.size, 2, none⟩ (.bool x.cons)) w.heap.size 3 _ 26 (.slice ab nb cb) q2
    have q4 := heap_setCell_same (((((W3).setCell ⟨w.heap.size, 0, none⟩ (.int .i64 x.cls)).setCell ⟨w.heap.size, 1, none⟩ (.int .i64 x.tag)).setCell ⟨w.heap.size, 2, none⟩ (.bool x.cons)).setCell ⟨w.heap.size, 3, none⟩ (.slice ab nb cb)) w.heap.size 4 _ 26 (.slice ak nk ck) q3
    have tt : Touch w.heap.size (w.heap.size + 1) W3 ((((((W3).setCell ⟨w.heap.size, 0, none⟩ (.int .i64 x.cls)).setCell ⟨w.heap.size, 1, none⟩ (.int .i64 x.tag)).setCell ⟨w.heap.size, 2, none⟩ (.bool x.cons)).setCell ⟨w.heap.size, 3, none⟩ (.slice ab nb cb)).setCell ⟨w.heap.size, 4, none⟩ (.slice ak nk ck)) := ((((touch_set _ _ _ _ (by omega) (by omega)).trans (touch_set _ _ _ _ (by omega) (by omega))).trans (touch_set _ _ _ _ (by omega) (by omega))).trans (touch_set _ _ _ _ (by omega) (by omega))).trans (touch_set _ _ _ _ (by omega) (by omega))
    have tse : ((((((W3).setCell ⟨w.heap.size, 0, none⟩ (.int .i64 x.cls)).setCell ⟨w.heap.size, 1, none⟩ (.int .i64 x.tag)).setCell ⟨w.heap.size, 2, none⟩ (.bool x.cons)).setCell ⟨w.heap.size, 3, none⟩ (.slice ab nb cb)).setCell ⟨w.heap.size, 4, none⟩ (.slice ak nk ck)).heap.size = W3.heap.size := by simp
    try simp only [Exit.inBlock, Exit.then]
    refine bodyPost_ret (results_item3 rfl _ w.heap.size rfl _ _ _ _ _ _ q4) rfl ?_
    refine ⟨HB3.out.trans (tt.below (Nat.le_refl _) (by omega)), ?_⟩
    rw [hf.out]
    refine ⟨ab, nb, cb, ak, nk, ck, M, rfl, by omega, by omega, (HOB.out.touch (.inr (by omega)) tt).mono (by omega) (Nat.le_refl _), ?_⟩
    rw [tse, hS3]
    exact (ownKids_moves 12 _ _ _ _ _ _ _ _ _ HOK.out (.inr (by omega)) tt).wide (by omega)

end Go.Proofs.YtjkkokjojaknkaaDoor
