import Derived.Test.YtckdikgbigkilabWItem6
import Derived.Handy
namespace Go.Proofs.Ytckdikgbigkilab
open Go.RowKit

theorem Try.infoItem : (Try.prog.info? 34).map (fun i => (i.zero, i.size, i.bytes)) = some (some (.agg #[.int .i64 0, .int .i64 0, .bool false, .slice none 0 0, .slice none 0 0]), 5, 72) := by kernel_rfl

def ToS (d : Nat) : Prop := ∀ (a : Option Addr) (n cap : Nat) (xs : List It) (w : World), Kids d w a n xs → wtS d xs ≤ 1048576 →
    Calls Try.prog 30 #[.slice a n cap] w fun e w' => ∃ a', e = .returned (.slice a' n n) ∧ OwnKids d w.heap.size w'.heap.size w' a' n xs ∧ Below w.heap.size w w'

/-- What toItem answers. -/
def ToPost (d : Nat) (x : It) (nb nk : Nat) (w : World) (e : Ending) (w' : World) : Prop :=
  ∃ ab ak M, e = .returned (itv x ab nb nb ak nk nk) ∧ w.heap.size ≤ M ∧ M ≤ w'.heap.size ∧ OwnB w.heap.size M w' ab nb nb x.body ∧ OwnKids d M w'.heap.size w' ak nk x.kids ∧ Below w.heap.size w w'

theorem alloc_old (w : World) (o : Obj) (g : Nat) (hg : g < w.heap.size) : (w.alloc o).heap[g]? = w.heap[g]? := ((Below.refl w.heap.size w).alloc (Nat.le_refl _) o).block g hg
theorem three_blocks (w : World) (o0 o1 o2 : Obj) : (((w.alloc o0).alloc o1).alloc o2).heap[w.heap.size]? = some o0 ∧ (((w.alloc o0).alloc o1).alloc o2).heap[w.heap.size + 1]? = some o1 ∧ (((w.alloc o0).alloc o1).alloc o2).heap[w.heap.size + 2]? = some o2 := by
  have s1 : (w.alloc o0).heap.size = w.heap.size + 1 := by simp
  have s2 : ((w.alloc o0).alloc o1).heap.size = w.heap.size + 2 := by simp
  exact ⟨(alloc_old _ o2 _ (by omega)).trans ((alloc_old _ o1 _ (by omega)).trans (heap_alloc_new w o0)), (alloc_old _ o2 _ (by omega)).trans (by rw [← s1]; exact heap_alloc_new _ o1), by rw [← s2]; exact heap_alloc_new _ o2⟩
theorem touch_set {p q : Nat} (w : World) (g j : Nat) (u : Value) (h1 : p ≤ g) (h2 : g < q) : Touch p q w (w.setCell ⟨g, j, none⟩ u) :=
  ⟨rfl, rfl, rfl, by simp, fun k _ hk => heap_setCell_other w ⟨g, j, none⟩ k u (by simp; omega)⟩
theorem OwnB.mono {lo hi lo' hi' : Nat} {w : World} {a : Option Addr} {n cap : Nat} {bs : List Int} (h : OwnB lo hi w a n cap bs) (h1 : lo' ≤ lo) (h2 : hi ≤ hi') : OwnB lo' hi' w a n cap bs := ⟨h.own.mono h1, fun x hx => Nat.lt_of_lt_of_le (h.lt x hx) h2⟩

theorem results_item {fn : Func} {t : Tmp} (h : fn.results = #[.cell t 34]) (tmps : Array Value) (g : Nat) (ht : tmps.getD t undef = .pointer (some ⟨g, 0, none⟩)) (w : World) (c0 c1 c2 c3 c4 : Value)
    (hb : w.heap[g]? = some (.cells #[c0, c1, c2, c3, c4] 34 (0, 0))) : (results fn tmps).run Try.prog w = .ok (.agg #[c0, c1, c2, c3, c4]) w := by
  have d0 : w.cell? ⟨g, 0, none⟩ = some c0 := (cell_of_row _ g 0 _ 34 (0, 0) hb).trans rfl
  have d1 : w.cell? ⟨g, 1, none⟩ = some c1 := (cell_of_row _ g 1 _ 34 (0, 0) hb).trans rfl
  have d2 : w.cell? ⟨g, 2, none⟩ = some c2 := (cell_of_row _ g 2 _ 34 (0, 0) hb).trans rfl
  have d3 : w.cell? ⟨g, 3, none⟩ = some c3 := (cell_of_row _ g 3 _ 34 (0, 0) hb).trans rfl
  have d4 : w.cell? ⟨g, 4, none⟩ = some c4 := (cell_of_row _ g 4 _ 34 (0, 0) hb).trans rfl
  clear hb
  have ht' : tmps[t]?.getD undef = .pointer (some ⟨g, 0, none⟩) := by rw [← ht]; simp
  simp [results, h, go_sem, ht', d0, d1, d2, d3, d4]

theorem heap_kept {B : Nat} {w w' : World} (h : Below B w w') {g : Nat} (hg : g < B) {o : Obj} (e : w.heap[g]? = some o) : w'.heap[g]? = some o := (h.block g hg).trans e

set_option maxHeartbeats 1000000 in
theorem toItem_any (d : Nat) (ih : ToS d) (x : It) (ab : Option Addr) (nb cb : Nat) (ak : Option Addr) (nk ck : Nat) (w : World) (hr : Row w ab nb x.body) (hk : Kids d w ak nk x.kids) (hb : nb ≤ 1048576) (hw : wtS d x.kids ≤ 1048576) :
    Calls Try.prog 15 #[itv x ab nb cb ak nk ck] w fun e w' => ToPost d x nb nk w e w' := by
  have HK : Hid (Kids d w ak nk x.kids) := hk
  have HR : Hid (Row w ab nb x.body) := hr
  have HW : Hid (wtS d x.kids ≤ 1048576) := hw
  clear hk hr hw
  unfold itv
  go_enter Try.func15, Try.ntmps15
  go_wp2_with fail
  obtain ⟨W0, hW0⟩ : ∃ W0, W0 = (((w.alloc (.cells #[.int .i64 x.cls, .int .i64 x.tag, .bool x.cons, .slice ab nb cb, .slice ak nk ck] 29)).alloc (.cells #[.int .i64 0, .int .i64 0, .bool false, .slice none 0 0, .slice none 0 0] 34)).alloc (.cells #[.int .i64 x.cls, .int .i64 x.tag, .bool x.cons, .slice none 0 0, .slice none 0 0] 34)) := ⟨_, rfl⟩
  have hB0 : Below w.heap.size w W0 := by rw [hW0]; exact (((Below.refl _ _).alloc (Nat.le_refl _) _).alloc (by simp) _).alloc (by simp; omega) _
  have hS0 : W0.heap.size = w.heap.size + 3 := by rw [hW0]; simp
  obtain ⟨b0, b1, b2⟩ := three_blocks w (.cells #[.int .i64 x.cls, .int .i64 x.tag, .bool x.cons, .slice ab nb cb, .slice ak nk ck] 29) (.cells #[.int .i64 0, .int .i64 0, .bool false, .slice none 0 0, .slice none 0 0] 34) (.cells #[.int .i64 x.cls, .int .i64 x.tag, .bool x.cons, .slice none 0 0, .slice none 0 0] 34)
  rw [← hW0] at b0 b1 b2
  rw [← hW0]
  clear hW0
  refine (toByteS_any ab nb cb x.body _ (HR.out.kept hB0) hb).mono ?_
  rintro e w1 ⟨a1, rfl, ho1, hb1⟩
  have hs1 := hb1.size
  replace b0 := heap_kept hb1 (by omega) b0
  replace b1 := heap_kept hb1 (by omega) b1
  replace b2 := heap_kept hb1 (by omega) b2
  have hB1 : Below w.heap.size w w1 := hB0.trans (hb1.mono (by omega))
  have hB2 : Below w.heap.size w (w1.setCell ⟨w.heap.size + 1 + 1, 3, none⟩ (.slice a1 nb nb)) := hB1.setCell (by simp; omega) _
  have c23 : w1.cell? ⟨w.heap.size + 1 + 1, 3, none⟩ = some (.slice none 0 0) := (cell_of_row _ (w.heap.size + 1 + 1) 3 _ 34 (0, 0) b2).trans rfl
  have f23 : w1.frozen? ⟨w.heap.size + 1 + 1, 3, none⟩ = false := frozen_of_row w1 (w.heap.size + 1 + 1) 3 _ 34 b2
  have c04 : w1.cell? ⟨w.heap.size, 4, none⟩ = some (.slice ak nk ck) := (cell_of_row _ w.heap.size 4 _ 29 (0, 0) b0).trans rfl
  go_wp2_with fail
  have hsz : (w1.setCell ⟨w.heap.size + 1 + 1, 3, none⟩ (.slice a1 nb nb)).heap.size = w1.heap.size := by simp
  have t1 : Touch (w.heap.size + 1) (w.heap.size + 3) w1 (w1.setCell ⟨w.heap.size + 1 + 1, 3, none⟩ (.slice a1 nb nb)) := touch_set w1 _ 3 _ (by omega) (by omega)
  have e2 : (w1.setCell ⟨w.heap.size + 1 + 1, 3, none⟩ (.slice a1 nb nb)).heap[w.heap.size + 2]? = some (.cells #[.int .i64 x.cls, .int .i64 x.tag, .bool x.cons, .slice a1 nb nb, .slice none 0 0] 34 (0, 0)) := (heap_setCell_same w1 (w.heap.size + 2) 3 _ 34 (.slice a1 nb nb) b2).trans rfl
  have e1 : (w1.setCell ⟨w.heap.size + 1 + 1, 3, none⟩ (.slice a1 nb nb)).heap[w.heap.size + 1]? = some (.cells #[.int .i64 0, .int .i64 0, .bool false, .slice none 0 0, .slice none 0 0] 34 (0, 0)) := (heap_setCell_other w1 ⟨w.heap.size + 1 + 1, 3, none⟩ (w.heap.size + 1) (.slice a1 nb nb) (by simp)).trans b1
  clear b0 b1 b2 c23 f23 c04
  obtain ⟨W1, hW1⟩ : ∃ W1, W1 = w1.setCell ⟨w.heap.size + 1 + 1, 3, none⟩ (.slice a1 nb nb) := ⟨_, rfl⟩
  rw [← hW1] at hB2 hsz t1 e1 e2 ⊢
  clear hW1
  refine (ih ak nk ck x.kids W1 (HK.out.kept (hB2.mono (Nat.le_refl _))) HW.out).mono ?_
  rintro e w2 ⟨a2, rfl, ho2, hb2⟩
  have hs2 := hb2.size
  replace e1 := heap_kept hb2 (by omega) e1
  replace e2 := heap_kept hb2 (by omega) e2
  have cr0 : w2.cell? ⟨w.heap.size + 1 + 1, 0, none⟩ = some (.int .i64 x.cls) := (cell_of_row _ (w.heap.size + 1 + 1) 0 _ 34 (0, 0) e2).trans rfl
  have cr1 : w2.cell? ⟨w.heap.size + 1 + 1, 1, none⟩ = some (.int .i64 x.tag) := (cell_of_row _ (w.heap.size + 1 + 1) 1 _ 34 (0, 0) e2).trans rfl
  have cr2 : w2.cell? ⟨w.heap.size + 1 + 1, 2, none⟩ = some (.bool x.cons) := (cell_of_row _ (w.heap.size + 1 + 1) 2 _ 34 (0, 0) e2).trans rfl
  have cr3 : w2.cell? ⟨w.heap.size + 1 + 1, 3, none⟩ = some (.slice a1 nb nb) := (cell_of_row _ (w.heap.size + 1 + 1) 3 _ 34 (0, 0) e2).trans rfl
  have cr4 : w2.cell? ⟨w.heap.size + 1 + 1, 4, none⟩ = some (.slice none 0 0) := (cell_of_row _ (w.heap.size + 1 + 1) 4 _ 34 (0, 0) e2).trans rfl
  have fr4 : w2.frozen? ⟨w.heap.size + 1 + 1, 4, none⟩ = false := frozen_of_row w2 (w.heap.size + 1 + 1) 4 _ 34 e2
  have cs0 : w2.cell? ⟨w.heap.size + 1, 0, none⟩ = some (.int .i64 0) := (cell_of_row _ (w.heap.size + 1) 0 _ 34 (0, 0) e1).trans rfl
  have cs1 : w2.cell? ⟨w.heap.size + 1, 1, none⟩ = some (.int .i64 0) := (cell_of_row _ (w.heap.size + 1) 1 _ 34 (0, 0) e1).trans rfl
  have cs2 : w2.cell? ⟨w.heap.size + 1, 2, none⟩ = some (.bool false) := (cell_of_row _ (w.heap.size + 1) 2 _ 34 (0, 0) e1).trans rfl
  have cs3 : w2.cell? ⟨w.heap.size + 1, 3, none⟩ = some (.slice none 0 0) := (cell_of_row _ (w.heap.size + 1) 3 _ 34 (0, 0) e1).trans rfl
  have cs4 : w2.cell? ⟨w.heap.size + 1, 4, none⟩ = some (.slice none 0 0) := (cell_of_row _ (w.heap.size + 1) 4 _ 34 (0, 0) e1).trans rfl
  have fs0 : w2.frozen? ⟨w.heap.size + 1, 0, none⟩ = false := frozen_of_row w2 (w.heap.size + 1) 0 _ 34 e1
  have fs1 : w2.frozen? ⟨w.heap.size + 1, 1, none⟩ = false := frozen_of_row w2 (w.heap.size + 1) 1 _ 34 e1
  have fs2 : w2.frozen? ⟨w.heap.size + 1, 2, none⟩ = false := frozen_of_row w2 (w.heap.size + 1) 2 _ 34 e1
  have fs3 : w2.frozen? ⟨w.heap.size + 1, 3, none⟩ = false := frozen_of_row w2 (w.heap.size + 1) 3 _ 34 e1
  have fs4 : w2.frozen? ⟨w.heap.size + 1, 4, none⟩ = false := frozen_of_row w2 (w.heap.size + 1) 4 _ 34 e1
  have E1 : Hid (_ = _) := e1
  clear e1 e2
  have ob1 : OwnB W0.heap.size w1.heap.size w1 a1 nb nb x.body := ho1.ownB
  have OB : Hid (OwnB W0.heap.size w1.heap.size w2 a1 nb nb x.body) := (ob1.touch (.inr (by omega)) t1).kept hb2
  have OK : Hid (OwnKids d w1.heap.size w2.heap.size w2 a2 nk x.kids) := by show OwnKids _ _ _ _ _ _ _; rw [← hsz]; exact ho2
  have HB3 : Hid (Below w.heap.size w w2) := hB2.trans (hb2.mono (by omega))
  clear ho1 ho2 ob1 hB0 hB1 hB2 hb1 hb2 t1
  go_wp2
  have q0 := heap_setCell_other w2 ⟨w.heap.size + 1 + 1, 4, none⟩ (w.heap.size + 1) (.slice a2 nk nk) (by simp)
  have q1 := heap_setCell_same _ (w.heap.size + 1) 0 _ 34 (.int .i64 x.cls) (q0.trans E1.out)
  have q2 := heap_setCell_same _ (w.heap.size + 1) 1 _ 34 (.int .i64 x.tag) q1
  have q3 := heap_setCell_same _ (w.heap.size + 1) 2 _ 34 (.bool x.cons) q2
  have q4 := heap_setCell_same _ (w.heap.size + 1) 3 _ 34 (.slice a1 nb nb) q3
  have q5 := heap_setCell_same _ (w.heap.size + 1) 4 _ 34 (.slice a2 nk nk) q4
  have tt : Touch (w.heap.size + 1) (w.heap.size + 3) w2 ((((((w2.setCell ⟨w.heap.size + 1 + 1, 4, none⟩ (.slice a2 nk nk)).setCell ⟨w.heap.size + 1, 0, none⟩ (.int .i64 x.cls)).setCell ⟨w.heap.size + 1, 1, none⟩ (.int .i64 x.tag)).setCell ⟨w.heap.size + 1, 2, none⟩ (.bool x.cons)).setCell ⟨w.heap.size + 1, 3, none⟩ (.slice a1 nb nb)).setCell ⟨w.heap.size + 1, 4, none⟩ (.slice a2 nk nk)) :=
    (((((touch_set _ _ _ _ (by omega) (by omega)).trans (touch_set _ _ _ _ (by omega) (by omega))).trans (touch_set _ _ _ _ (by omega) (by omega))).trans (touch_set _ _ _ _ (by omega) (by omega))).trans (touch_set _ _ _ _ (by omega) (by omega))).trans (touch_set _ _ _ _ (by omega) (by omega))
  have hsz3 : ((((((w2.setCell ⟨w.heap.size + 1 + 1, 4, none⟩ (.slice a2 nk nk)).setCell ⟨w.heap.size + 1, 0, none⟩ (.int .i64 x.cls)).setCell ⟨w.heap.size + 1, 1, none⟩ (.int .i64 x.tag)).setCell ⟨w.heap.size + 1, 2, none⟩ (.bool x.cons)).setCell ⟨w.heap.size + 1, 3, none⟩ (.slice a1 nb nb)).setCell ⟨w.heap.size + 1, 4, none⟩ (.slice a2 nk nk)).heap.size = w2.heap.size := by simp
  try simp only [Exit.inBlock, Exit.then]
  refine bodyPost_ret (results_item rfl _ (w.heap.size + 1) rfl _ _ _ _ _ _ q5) rfl ?_
  refine ⟨a1, a2, w1.heap.size, rfl, by omega, by rw [hsz3]; omega, (OB.out.touch (.inr (by omega)) tt).mono (by omega) (Nat.le_refl _), ?_, HB3.out.trans (tt.below (by omega) (by omega))⟩
  rw [hsz3]
  exact ownKids_moves d _ _ _ _ _ _ _ _ _ OK.out (.inr (by omega)) tt

end Go.Proofs.Ytckdikgbigkilab
