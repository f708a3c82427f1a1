import Derived.Test.YtlcojjcgaibbiaaTR2
import Derived.Handy
set_option linter.unusedVariables false
namespace Go.Proofs.Ytlcojjcgaibbiaa
open Go.RowKit

theorem Try.infoItem : (Try.prog.info? 59).map (fun i => (i.zero, i.size, i.bytes)) = some (some (.agg #[.int .u64 0, .int .i64 0, .slice none 0 0, .slice none 0 0]), 4, 64) := by kernel_rfl

def ToST (d : Nat) : Prop := ∀ (a : Option Addr) (n cap : Nat) (xs : List ItT) (w : World), KidsT d w a n xs → wtST d xs ≤ 1048576 →
    Calls Try.prog 19 #[.slice a n cap] w fun e w' => ∃ a', e = .returned (.slice a' n n) ∧ OwnKidsT d w.heap.size w'.heap.size w' a' n xs ∧ Below w.heap.size w w'

/-- What toSigner answers. -/
def ToPostT (d : Nat) (x : ItT) (nb nk : Nat) (w : World) (e : Ending) (w' : World) : Prop :=
  ∃ ab ak M, e = .returned (itvT x ab nb nb ak nk nk) ∧ w.heap.size ≤ M ∧ M ≤ w'.heap.size ∧ OwnBT w.heap.size M w' ab nb nb x.sg ∧ OwnKidsT d M w'.heap.size w' ak nk x.over ∧ Below w.heap.size w w'

theorem alloc_oldTr (w : World) (o : Obj) (g : Nat) (hg : g < w.heap.size) : (w.alloc o).heap[g]? = w.heap[g]? := ((Below.refl w.heap.size w).alloc (Nat.le_refl _) o).block g hg
theorem three_blocksTr (w : World) (o0 o1 o2 : Obj) : (((w.alloc o0).alloc o1).alloc o2).heap[w.heap.size]? = some o0 ∧ (((w.alloc o0).alloc o1).alloc o2).heap[w.heap.size + 1]? = some o1 ∧ (((w.alloc o0).alloc o1).alloc o2).heap[w.heap.size + 2]? = some o2 := by
  have s1 : (w.alloc o0).heap.size = w.heap.size + 1 := by simp
  have s2 : ((w.alloc o0).alloc o1).heap.size = w.heap.size + 2 := by simp
  exact ⟨(alloc_oldTr _ o2 _ (by omega)).trans ((alloc_oldTr _ o1 _ (by omega)).trans (heap_alloc_new w o0)), (alloc_oldTr _ o2 _ (by omega)).trans (by rw [← s1]; exact heap_alloc_new _ o1), by rw [← s2]; exact heap_alloc_new _ o2⟩
theorem touch_setT {p q : Nat} (w : World) (g j : Nat) (u : Value) (h1 : p ≤ g) (h2 : g < q) : Touch p q w (w.setCell ⟨g, j, none⟩ u) :=
  ⟨rfl, rfl, rfl, by simp, fun k _ hk => heap_setCell_other w ⟨g, j, none⟩ k u (by simp; omega)⟩
theorem OwnBT.mono {lo hi lo' hi' : Nat} {w : World} {a : Option Addr} {n cap : Nat} {bs : List Int} (h : OwnBT lo hi w a n cap bs) (h1 : lo' ≤ lo) (h2 : hi ≤ hi') : OwnBT lo' hi' w a n cap bs := ⟨h.own.mono h1, fun x hx => Nat.lt_of_lt_of_le (h.lt x hx) h2⟩

theorem results_itemT {fn : Func} {t : Tmp} (h : fn.results = #[.cell t 59]) (tmps : Array Value) (g : Nat) (ht : tmps.getD t undef = .pointer (some ⟨g, 0, none⟩)) (w : World) (c0 c1 c3 c4 : Value)
    (hb : w.heap[g]? = some (.cells #[c0, c1, c3, c4] 59 (0, 0))) : (results fn tmps).run Try.prog w = .ok (.agg #[c0, c1, c3, c4]) w := by
  have d0 : w.cell? ⟨g, 0, none⟩ = some c0 := (cell_of_row _ g 0 _ 59 (0, 0) hb).trans rfl
  have d1 : w.cell? ⟨g, 1, none⟩ = some c1 := (cell_of_row _ g 1 _ 59 (0, 0) hb).trans rfl
  have d3 : w.cell? ⟨g, 2, none⟩ = some c3 := (cell_of_row _ g 2 _ 59 (0, 0) hb).trans rfl
  have d4 : w.cell? ⟨g, 3, none⟩ = some c4 := (cell_of_row _ g 3 _ 59 (0, 0) hb).trans rfl
  clear hb
  have ht' : tmps[t]?.getD undef = .pointer (some ⟨g, 0, none⟩) := by rw [← ht]; simp
  simp [results, h, go_sem, ht', d0, d1, d3, d4]

theorem heap_keptT {B : Nat} {w w' : World} (h : Below B w w') {g : Nat} (hg : g < B) {o : Obj} (e : w.heap[g]? = some o) : w'.heap[g]? = some o := (h.block g hg).trans e

set_option maxRecDepth 10000 in
set_option maxHeartbeats 1000000 in
theorem toSigner_anyT (d : Nat) (ih : ToST d) (x : ItT) (ab : Option Addr) (nb cb : Nat) (ak : Option Addr) (nk ck : Nat) (w : World) (hr : Row w ab nb x.sg) (hk : KidsT d w ak nk x.over) (hb : nb ≤ 1048576) (hw : wtST d x.over ≤ 1048576) :
    Calls Try.prog 39 #[itvT x ab nb cb ak nk ck] w fun e w' => ToPostT d x nb nk w e w' := by
  have HK : Hid (KidsT d w ak nk x.over) := hk
  have HR : Hid (Row w ab nb x.sg) := hr
  have HW : Hid (wtST d x.over ≤ 1048576) := hw
  clear hk hr hw
  unfold itvT
  go_enter Try.func39, Try.ntmps39
  go_wp2_with fail
  obtain ⟨W0, hW0⟩ : ∃ W0, W0 = (((w.alloc (.cells #[.int .u64 x.ky, .int .i64 x.at2, .slice ab nb cb, .slice ak nk ck] 65)).alloc (.cells #[.int .u64 0, .int .i64 0, .slice none 0 0, .slice none 0 0] 59)).alloc (.cells #[.int .u64 x.ky, .int .i64 x.at2, .slice none 0 0, .slice none 0 0] 59)) := ⟨_, rfl⟩
  have hB0 : Below w.heap.size w W0 := by rw [hW0]; exact (((Below.refl _ _).alloc (Nat.le_refl _) _).alloc (by simp) _).alloc (by simp; omega) _
  have hS0 : W0.heap.size = w.heap.size + 3 := by rw [hW0]; simp
  obtain ⟨b0, b1, b2⟩ := three_blocksTr w (.cells #[.int .u64 x.ky, .int .i64 x.at2, .slice ab nb cb, .slice ak nk ck] 65) (.cells #[.int .u64 0, .int .i64 0, .slice none 0 0, .slice none 0 0] 59) (.cells #[.int .u64 x.ky, .int .i64 x.at2, .slice none 0 0, .slice none 0 0] 59)
  rw [← hW0] at b0 b1 b2
  rw [← hW0]
  clear hW0
  refine (toByteS_any ab nb cb x.sg _ (HR.out.kept hB0) hb).mono ?_
  rintro e w1 ⟨a1, rfl, ho1, hb1⟩
  have hs1 := hb1.size
  replace b0 := heap_keptT hb1 (by omega) b0
  replace b1 := heap_keptT hb1 (by omega) b1
  replace b2 := heap_keptT hb1 (by omega) b2
  have hB1 : Below w.heap.size w w1 := hB0.trans (hb1.mono (by omega))
  have hB2 : Below w.heap.size w (w1.setCell ⟨w.heap.size + 1 + 1, 2, none⟩ (.slice a1 nb nb)) := hB1.setCell (by simp; omega) _
  have c23 : w1.cell? ⟨w.heap.size + 1 + 1, 2, none⟩ = some (.slice none 0 0) := (cell_of_row _ (w.heap.size + 1 + 1) 2 _ 59 (0, 0) b2).trans rfl
  have f23 : w1.frozen? ⟨w.heap.size + 1 + 1, 2, none⟩ = false := frozen_of_row w1 (w.heap.size + 1 + 1) 2 _ 59 b2
  have c04 : w1.cell? ⟨w.heap.size, 3, none⟩ = some (.slice ak nk ck) := (cell_of_row _ w.heap.size 3 _ 65 (0, 0) b0).trans rfl
  go_wp2_with fail
  have hsz : (w1.setCell ⟨w.heap.size + 1 + 1, 2, none⟩ (.slice a1 nb nb)).heap.size = w1.heap.size := by simp
  have t1 : Touch (w.heap.size + 1) (w.heap.size + 3) w1 (w1.setCell ⟨w.heap.size + 1 + 1, 2, none⟩ (.slice a1 nb nb)) := touch_setT w1 _ 2 _ (by omega) (by omega)
  have e2 : (w1.setCell ⟨w.heap.size + 1 + 1, 2, none⟩ (.slice a1 nb nb)).heap[w.heap.size + 2]? = some (.cells #[.int .u64 x.ky, .int .i64 x.at2, .slice a1 nb nb, .slice none 0 0] 59 (0, 0)) := (heap_setCell_same w1 (w.heap.size + 2) 2 _ 59 (.slice a1 nb nb) b2).trans rfl
  have e1 : (w1.setCell ⟨w.heap.size + 1 + 1, 2, none⟩ (.slice a1 nb nb)).heap[w.heap.size + 1]? = some (.cells #[.int .u64 0, .int .i64 0, .slice none 0 0, .slice none 0 0] 59 (0, 0)) := (heap_setCell_other w1 ⟨w.heap.size + 1 + 1, 2, none⟩ (w.heap.size + 1) (.slice a1 nb nb) (by simp)).trans b1
  clear b0 b1 b2 c23 f23 c04
  obtain ⟨W1, hW1⟩ : ∃ W1, W1 = w1.setCell ⟨w.heap.size + 1 + 1, 2, none⟩ (.slice a1 nb nb) := ⟨_, rfl⟩
  rw [← hW1] at hB2 hsz t1 e1 e2 ⊢
  clear hW1
  refine (ih ak nk ck x.over W1 (HK.out.kept (hB2.mono (Nat.le_refl _))) HW.out).mono ?_
  rintro e w2 ⟨a2, rfl, ho2, hb2⟩
  have hs2 := hb2.size
  replace e1 := heap_keptT hb2 (by omega) e1
  replace e2 := heap_keptT hb2 (by omega) e2
  have cr0 : w2.cell? ⟨w.heap.size + 1 + 1, 0, none⟩ = some (.int .u64 x.ky) := (cell_of_row _ (w.heap.size + 1 + 1) 0 _ 59 (0, 0) e2).trans rfl
  have cr1 : w2.cell? ⟨w.heap.size + 1 + 1, 1, none⟩ = some (.int .i64 x.at2) := (cell_of_row _ (w.heap.size + 1 + 1) 1 _ 59 (0, 0) e2).trans rfl
  have cr3 : w2.cell? ⟨w.heap.size + 1 + 1, 2, none⟩ = some (.slice a1 nb nb) := (cell_of_row _ (w.heap.size + 1 + 1) 2 _ 59 (0, 0) e2).trans rfl
  have cr4 : w2.cell? ⟨w.heap.size + 1 + 1, 3, none⟩ = some (.slice none 0 0) := (cell_of_row _ (w.heap.size + 1 + 1) 3 _ 59 (0, 0) e2).trans rfl
  have fr4 : w2.frozen? ⟨w.heap.size + 1 + 1, 3, none⟩ = false := frozen_of_row w2 (w.heap.size + 1 + 1) 3 _ 59 e2
  have cs0 : w2.cell? ⟨w.heap.size + 1, 0, none⟩ = some (.int .u64 0) := (cell_of_row _ (w.heap.size + 1) 0 _ 59 (0, 0) e1).trans rfl
  have cs1 : w2.cell? ⟨w.heap.size + 1, 1, none⟩ = some (.int .i64 0) := (cell_of_row _ (w.heap.size + 1) 1 _ 59 (0, 0) e1).trans rfl
  have cs3 : w2.cell? ⟨w.heap.size + 1, 2, none⟩ = some (.slice none 0 0) := (cell_of_row _ (w.heap.size + 1) 2 _ 59 (0, 0) e1).trans rfl
  have cs4 : w2.cell? ⟨w.heap.size + 1, 3, none⟩ = some (.slice none 0 0) := (cell_of_row _ (w.heap.size + 1) 3 _ 59 (0, 0) e1).trans rfl
  have fs0 : w2.frozen? ⟨w.heap.size + 1, 0, none⟩ = false := frozen_of_row w2 (w.heap.size + 1) 0 _ 59 e1
  have fs1 : w2.frozen? ⟨w.heap.size + 1, 1, none⟩ = false := frozen_of_row w2 (w.heap.size + 1) 1 _ 59 e1
  have fs3 : w2.frozen? ⟨w.heap.size + 1, 2, none⟩ = false := frozen_of_row w2 (w.heap.size + 1) 2 _ 59 e1
  have fs4 : w2.frozen? ⟨w.heap.size + 1, 3, none⟩ = false := frozen_of_row w2 (w.heap.size + 1) 3 _ 59 e1
  have E1 : Hid (_ = _) := e1
  clear e1 e2
  have ob1 : OwnBT W0.heap.size w1.heap.size w1 a1 nb nb x.sg := ho1.ownBT
  have OB : Hid (OwnBT W0.heap.size w1.heap.size w2 a1 nb nb x.sg) := (ob1.touch (.inr (by omega)) t1).kept hb2
  have OK : Hid (OwnKidsT d w1.heap.size w2.heap.size w2 a2 nk x.over) := by show OwnKidsT _ _ _ _ _ _ _; rw [← hsz]; exact ho2
  have HB3 : Hid (Below w.heap.size w w2) := hB2.trans (hb2.mono (by omega))
  clear ho1 ho2 ob1 hB0 hB1 hB2 hb1 hb2 t1
  go_wp2
  have q0 := heap_setCell_other w2 ⟨w.heap.size + 1 + 1, 3, none⟩ (w.heap.size + 1) (.slice a2 nk nk) (by simp)
  have q1 := heap_setCell_same _ (w.heap.size + 1) 0 _ 59 (.int .u64 x.ky) (q0.trans E1.out)
  have q2 := heap_setCell_same _ (w.heap.size + 1) 1 _ 59 (.int .i64 x.at2) q1
  have q4 := heap_setCell_same _ (w.heap.size + 1) 2 _ 59 (.slice a1 nb nb) q2
  have q5 := heap_setCell_same _ (w.heap.size + 1) 3 _ 59 (.slice a2 nk nk) q4
  have tt : Touch (w.heap.size + 1) (w.heap.size + 3) w2 (((((w2.setCell ⟨w.heap.size + 1 + 1, 3, none⟩ (.slice a2 nk nk)).setCell ⟨w.heap.size + 1, 0, none⟩ (.int .u64 x.ky)).setCell ⟨w.heap.size + 1, 1, none⟩ (.int .i64 x.at2)).setCell ⟨w.heap.size + 1, 2, none⟩ (.slice a1 nb nb)).setCell ⟨w.heap.size + 1, 3, none⟩ (.slice a2 nk nk)) :=
    ((((touch_setT _ _ _ _ (by omega) (by omega)).trans (touch_setT _ _ _ _ (by omega) (by omega))).trans (touch_setT _ _ _ _ (by omega) (by omega))).trans (touch_setT _ _ _ _ (by omega) (by omega))).trans (touch_setT _ _ _ _ (by omega) (by omega))
  have hsz3 : (((((w2.setCell ⟨w.heap.size + 1 + 1, 3, none⟩ (.slice a2 nk nk)).setCell ⟨w.heap.size + 1, 0, none⟩ (.int .u64 x.ky)).setCell ⟨w.heap.size + 1, 1, none⟩ (.int .i64 x.at2)).setCell ⟨w.heap.size + 1, 2, none⟩ (.slice a1 nb nb)).setCell ⟨w.heap.size + 1, 3, none⟩ (.slice a2 nk nk)).heap.size = w2.heap.size := by simp
  try simp only [Exit.inBlock, Exit.then]
  refine bodyPost_ret (results_itemT rfl _ (w.heap.size + 1) rfl _ _ _ _ _ q5) rfl ?_
  refine ⟨a1, a2, w1.heap.size, rfl, by omega, by rw [hsz3]; omega, (OB.out.touch (.inr (by omega)) tt).mono (by omega) (Nat.le_refl _), ?_, HB3.out.trans (tt.below (by omega) (by omega))⟩
  rw [hsz3]
  exact ownKids_movesT d _ _ _ _ _ _ _ _ _ OK.out (.inr (by omega)) tt

end Go.Proofs.Ytlcojjcgaibbiaa
