import Derived.Test.YtpnhhhhmonbajaaGreatGB4
import Derived.Handy
import Derived.Deep.RegionWith
namespace Go.Proofs.YtpnhhhhmonbajaaGreat
open Go.RowKit

def sigv (t : Int × Int) : Value := .agg #[.int .i64 t.1, .int .i64 t.2]

/-- A variable that holds two numbers. -/
structure BoxS (t g : Nat) (W : World) (p : Int × Int) : Prop where
  heap : W.heap[g]? = some (.cells #[.int .i64 p.1, .int .i64 p.2] t (0, 0))
theorem BoxS.c0 {t g : Nat} {W : World} {p : Int × Int} (h : BoxS t g W p) : W.cell? ⟨g, 0, none⟩ = some (.int .i64 p.1) := (cell_of_row _ g 0 _ t (0, 0) h.heap).trans rfl
theorem BoxS.c1 {t g : Nat} {W : World} {p : Int × Int} (h : BoxS t g W p) : W.cell? ⟨g, 1, none⟩ = some (.int .i64 p.2) := (cell_of_row _ g 1 _ t (0, 0) h.heap).trans rfl
theorem BoxS.fr {t g : Nat} {W : World} {p : Int × Int} (h : BoxS t g W p) (j : Nat) : W.frozen? ⟨g, j, none⟩ = false := frozen_of_row W g j _ t h.heap
theorem BoxS.lt {t g : Nat} {W : World} {p : Int × Int} (h : BoxS t g W p) : g < W.heap.size := (Array.getElem?_eq_some_iff.1 h.heap).1
theorem BoxS.kept {t g : Nat} {W W' : World} {p : Int × Int} (h : BoxS t g W p) (hb : Below W.heap.size W W') : BoxS t g W' p := ⟨(hb.block _ h.lt).trans h.heap⟩
theorem boxS_new (t : Nat) (w : World) (a b : Int) : BoxS t w.heap.size (w.alloc (.cells #[.int .i64 a, .int .i64 b] t)) (a, b) := ⟨heap_alloc_new w _⟩
theorem BoxS.set {t g : Nat} {W : World} {p : Int × Int} (h : BoxS t g W p) (a b : Int) : BoxS t g ((W.setCell ⟨g, 0, none⟩ (.int .i64 a)).setCell ⟨g, 1, none⟩ (.int .i64 b)) (a, b) :=
  ⟨heap_setCell_same _ g 1 _ t _ (heap_setCell_same _ g 0 _ t (.int .i64 a) h.heap)⟩
theorem below_set2 {B : Nat} {w0 w : World} (h : Below B w0 w) (g : Nat) (hg : B ≤ g) (u v : Value) : Below B w0 ((w.setCell ⟨g, 0, none⟩ u).setCell ⟨g, 1, none⟩ v) := (h.setCell hg _).setCell hg _

theorem results_sig2 {fn : Func} {t u : Tmp} (h : fn.results = #[.cell t 80, .tmp u]) (tmps : Array Value) (g : Nat) (ht : tmps.getD t undef = .pointer (some ⟨g, 0, none⟩)) (v : Value) (hv : tmps.getD u undef = v) (w : World) (p : Int × Int)
    (hb : BoxS 80 g w p) : (results fn tmps).run Tryz.prog w = .ok (.tuple #[sigv p, v]) w := by
  have d0 := hb.c0
  have d1 := hb.c1
  clear hb
  have ht' : tmps[t]?.getD undef = .pointer (some ⟨g, 0, none⟩) := by rw [← ht]; simp
  have hv' : tmps[u]?.getD undef = v := by rw [← hv]; simp
  simp [results, h, go_sem, ht', hv', d0, d1, sigv]
theorem results_sig {fn : Func} {t : Tmp} (h : fn.results = #[.cell t 80]) (tmps : Array Value) (g : Nat) (ht : tmps.getD t undef = .pointer (some ⟨g, 0, none⟩)) (w : World) (p : Int × Int)
    (hb : BoxS 80 g w p) : (results fn tmps).run Tryz.prog w = .ok (sigv p) w := by
  have d0 := hb.c0
  have d1 := hb.c1
  clear hb
  have ht' : tmps[t]?.getD undef = .pointer (some ⟨g, 0, none⟩) := by rw [← ht]; simp
  simp [results, h, go_sem, ht', d0, d1, sigv]

theorem alloc_old2 (w : World) (o : Obj) (g : Nat) (hg : g < w.heap.size) : (w.alloc o).heap[g]? = w.heap[g]? := ((Below.refl w.heap.size w).alloc (Nat.le_refl _) o).block g hg

end Go.Proofs.YtpnhhhhmonbajaaGreat
