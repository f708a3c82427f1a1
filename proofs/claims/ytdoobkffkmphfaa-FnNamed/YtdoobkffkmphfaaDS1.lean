import Derived.Test.YtdoobkffkmphfaaDB2
namespace Go.Proofs.Ytdoobkffkmphfaa
open Go.RowKit

theorem results_nn {fn : Func} {t u : Tmp} (h : fn.results = #[.cell t 26, .cell u 26]) (tmps : Array Value) (g g2 : Nat) (ht : tmps.getD t undef = .pointer (some ⟨g, 0, none⟩)) (hu : tmps.getD u undef = .pointer (some ⟨g2, 0, none⟩)) (w : World) (c0 c1 : Value)
    (hb : w.heap[g]? = some (.cells #[c0] 26 (0, 0))) (hb2 : w.heap[g2]? = some (.cells #[c1] 26 (0, 0))) : (results fn tmps).run Try.prog w = .ok (.tuple #[.agg #[c0], .agg #[c1]]) w := by
  have d0 : w.cell? ⟨g, 0, none⟩ = some c0 := (cell_of_row _ g 0 _ 26 (0, 0) hb).trans rfl
  have d1 : w.cell? ⟨g2, 0, none⟩ = some c1 := (cell_of_row _ g2 0 _ 26 (0, 0) hb2).trans rfl
  clear hb hb2
  have ht' : tmps[t]?.getD undef = .pointer (some ⟨g, 0, none⟩) := by rw [← ht]; simp
  have hu' : tmps[u]?.getD undef = .pointer (some ⟨g2, 0, none⟩) := by rw [← hu]; simp
  simp [results, h, go_sem, ht', hu', d0, d1]

/-- Two names as they are drawn. -/
structure SN (w : World) (P : Nat) (a : Option Addr) (n cap : Nat) (bs : List Int) (W : World) (ao : Option Addr) (m c : Nat) (xs : List PT) (a2 : Option Addr) (m2 c2 : Nat) (ys : List PT) : Prop where
  rd : Rd W (w.heap.size + 2) a n cap bs
  b2 : W.heap[w.heap.size]? = some (.cells #[.slice none 0 0] 26 (0, 0))
  b3 : W.heap[w.heap.size + 1]? = some (.cells #[.slice none 0 0] 26 (0, 0))
  b5 : W.heap[P]? = some (.cells #[.slice ao m c] 26 (0, 0))
  b6 : W.heap[P + 1]? = some (.cells #[.slice a2 m2 c2] 26 (0, 0))
  o1 : OwnPt (w.heap.size + 3) W ao m c xs
  l1 : ∀ q, ao = some q → q.block < P
  s1 : ∀ x ∈ xs, x.val.size ≤ 8
  o2 : OwnPt (P + 2) W a2 m2 c2 ys
  hP : w.heap.size + 3 ≤ P
  size : P + 2 ≤ W.heap.size
  below : Below w.heap.size w W
theorem SN.move {w : World} {P : Nat} {a : Option Addr} {n cap : Nat} {bs : List Int} {W : World} {ao : Option Addr} {m c : Nat} {xs : List PT} {a2 : Option Addr} {m2 c2 : Nat} {ys : List PT} (h : SN w P a n cap bs W ao m c xs a2 m2 c2 ys) {W' : World} (r : Rd W' (w.heap.size + 2) a n cap bs) (e1 : W'.os = W.os) (e2 : W'.tape = W.tape) (e3 : W'.output = W.output) (e4 : W.heap.size ≤ W'.heap.size) (e5 : ∀ l, l < W.heap.size → l ≠ w.heap.size + 2 → W'.heap[l]? = W.heap[l]?) : SN w P a n cap bs W' ao m c xs a2 m2 c2 ys := by
  have h1 := h.hP
  have h2 := h.size
  exact ⟨r, (e5 _ (by omega) (by omega)).trans h.b2, (e5 _ (by omega) (by omega)).trans h.b3, (e5 _ (by omega) (by omega)).trans h.b5, (e5 _ (by omega) (by omega)).trans h.b6, h.o1.keep fun q _ hb hl => e5 _ hl (by omega), h.l1, h.s1, h.o2.keep fun q _ hb hl => e5 _ hl (by omega), h1, by omega, ⟨e1.trans h.below.os, e2.trans h.below.tape, e3.trans h.below.output, Nat.le_trans h.below.size e4, fun l hl => (e5 l (by omega) (by omega)).trans (h.below.block l hl)⟩⟩
theorem SN.rdp {w : World} {P : Nat} {a : Option Addr} {n cap : Nat} {bs : List Int} {W : World} {ao : Option Addr} {m c : Nat} {xs : List PT} {a2 : Option Addr} {m2 c2 : Nat} {ys : List PT} (h : SN w P a n cap bs W ao m c xs a2 m2 c2 ys) {W' : World} (hp : RdPost W (w.heap.size + 2) a n cap bs W') : SN w P a n cap bs W' ao m c xs a2 m2 c2 ys :=
  h.move hp.1 hp.2.os hp.2.tape hp.2.output hp.2.size fun l hl hg => hp.2.block l hl (by omega)
theorem SN.on {w : World} {P : Nat} {a : Option Addr} {n cap : Nat} {bs : List Int} {W : World} {ao : Option Addr} {m c : Nat} {xs : List PT} {a2 : Option Addr} {m2 c2 : Nat} {ys : List PT} (h : SN w P a n cap bs W ao m c xs a2 m2 c2 ys) {W' : World} (hb : Below W.heap.size W W') : SN w P a n cap bs W' ao m c xs a2 m2 c2 ys :=
  h.move (h.rd.kept hb) hb.os hb.tape hb.output hb.size fun l hl _ => hb.block l hl
theorem SN.put {w : World} {P : Nat} {a : Option Addr} {n cap : Nat} {bs : List Int} {W W' : World} {ao : Option Addr} {m c : Nat} {xs : List PT} {a2 a3 : Option Addr} {m2 c2 m3 c3 : Nat} {ys zs : List PT} (h : SN w P a n cap bs W ao m c xs a2 m2 c2 ys) (hb : Below (P + 2) W W') (ho : OwnPt (P + 2) W' a3 m3 c3 zs) : SN w P a n cap bs (W'.setCell ⟨P + 1, 0, none⟩ (.slice a3 m3 c3)) ao m c xs a3 m3 c3 zs := by
  have h1 := h.hP
  have h2 := h.size
  have h3 := hb.size
  have r1 : Rd W' (w.heap.size + 2) a n cap bs := by
    obtain ⟨p, hp, hg⟩ := h.rd.blk
    exact ⟨⟨p, hp, (hb.block _ (by omega)).trans hg⟩, h.rd.row.touch h.rd.sep (lo := P + 2) (hi := W.heap.size) (.inl (by omega)) ⟨hb.os, hb.tape, hb.output, hb.size, fun l hl ho => hb.block l (by omega)⟩, h.rd.sep, h.rd.len⟩
  have e : ∀ l, l ≠ P + 1 → (W'.setCell ⟨P + 1, 0, none⟩ (.slice a3 m3 c3)).heap[l]? = W'.heap[l]? := fun l hl => Below.heap_setCell _ _ _ _ (by show l ≠ P + 1; exact hl)
  refine ⟨r1.touch (touch_set' (p := P + 1) (q := P + 2) _ _ _ _ (Nat.le_refl _) (Nat.lt_succ_self _)) (by omega), ?_, ?_, ?_, (heap_setCell_same W' (P + 1) 0 _ 26 _ ((hb.block _ (by omega)).trans h.b6)).trans rfl, ?_, h.l1, h.s1, ?_, h1, by simp [World.setCell]; omega, ?_⟩
  · exact (e _ (by omega)).trans ((hb.block _ (by omega)).trans h.b2)
  · exact (e _ (by omega)).trans ((hb.block _ (by omega)).trans h.b3)
  · exact (e _ (by omega)).trans ((hb.block _ (by omega)).trans h.b5)
  · exact h.o1.keep fun q hq _ _ => (e _ (by have := h.l1 q hq; omega)).trans (hb.block _ (by have := h.l1 q hq; omega))
  · exact ho.keep fun q _ hq _ => e _ (by omega)
  · exact ⟨hb.os.trans h.below.os, hb.tape.trans h.below.tape, hb.output.trans h.below.output, by simp [World.setCell]; have := h.below.size; omega, fun l hl => (e l (by omega)).trans ((hb.block l (by omega)).trans (h.below.block l hl))⟩
theorem SN.setp {w : World} {P : Nat} {a : Option Addr} {n cap : Nat} {bs : List Int} {W : World} {ao : Option Addr} {m c : Nat} {xs : List PT} {a2 : Option Addr} {m2 c2 : Nat} {ys : List PT} (h : SN w P a n cap bs W ao m c xs a2 m2 c2 ys) (pb j : Nat) (u : Value) (hpb : P + 2 ≤ pb) (hne : ∀ q, a2 = some q → q.block ≠ pb) : SN w P a n cap bs (W.setCell ⟨pb, j, none⟩ u) ao m c xs a2 m2 c2 ys := by
  have h1 := h.hP
  have h2 := h.size
  have e : ∀ l, l ≠ pb → (W.setCell ⟨pb, j, none⟩ u).heap[l]? = W.heap[l]? := fun l hl => Below.heap_setCell _ _ _ _ (by show l ≠ pb; exact hl)
  exact ⟨h.rd.touch (touch_set' (p := pb) (q := pb + 1) _ _ _ _ (Nat.le_refl _) (Nat.lt_succ_self _)) (by omega), (e _ (by omega)).trans h.b2, (e _ (by omega)).trans h.b3, (e _ (by omega)).trans h.b5, (e _ (by omega)).trans h.b6, h.o1.keep fun q hq _ _ => e _ (by have := h.l1 q hq; omega), h.l1, h.s1, h.o2.keep fun q hq _ _ => e _ (hne q hq), h1, by simpa [World.setCell] using h2, ⟨h.below.os, h.below.tape, h.below.output, by simpa [World.setCell] using h.below.size, fun l hl => (e l (by omega)).trans (h.below.block l hl)⟩⟩
theorem SN.cells {w : World} {P : Nat} {a : Option Addr} {n cap : Nat} {bs : List Int} {W : World} {ao : Option Addr} {m c : Nat} {xs : List PT} {a2 : Option Addr} {m2 c2 : Nat} {ys : List PT} (h : SN w P a n cap bs W ao m c xs a2 m2 c2 ys) : W.cell? ⟨P, 0, none⟩ = some (.slice ao m c) ∧ W.cell? ⟨P + 1, 0, none⟩ = some (.slice a2 m2 c2) ∧ W.frozen? ⟨P + 1, 0, none⟩ = false ∧ P + 1 < W.heap.size ∧ P < W.heap.size :=
  ⟨(cell_of_row _ _ 0 _ 26 (0, 0) h.b5).trans rfl, (cell_of_row _ _ 0 _ 26 (0, 0) h.b6).trans rfl, frozen_of_row W _ 0 _ 26 h.b6, h.size, by have := h.size; omega⟩
theorem SN.part {w : World} {P : Nat} {a : Option Addr} {n cap : Nat} {bs : List Int} {W : World} {gb : Nat} {m c : Nat} {xs : List PT} {a2 : Option Addr} {m2 c2 : Nat} {ys : List PT} (h : SN w P a n cap bs W (some ⟨gb, 0, none⟩) m c xs a2 m2 c2 ys) (i : Nat) (hi : i < m) : ∃ x : PT, W.cell? ⟨gb, i * 2, none⟩ = some (.int .i64 x.attr) ∧ W.cell? ⟨gb, i * 2 + 1, none⟩ = some (.string x.val) ∧ x.val.size ≤ 8 ∧ gb < W.heap.size := by
  have hr := h.o1.row
  have hl : i < xs.length := by rw [h.o1.len]; exact hi
  obtain ⟨g1, g2⟩ := ptc_get' xs i hl
  exact ⟨xs.getD i default, by rw [hr.cellAt (i * 2) (by omega), g1], by rw [hr.cellAt (i * 2 + 1) (by omega), g2], h.s1 _ (getD_mem' xs i hl), (h.o1.blk _ rfl).2.1⟩

/-- Two drawn names. -/
def DsR (w : World) (e : Ending) (w' : World) : Prop := ∃ (m c : Nat) (ao : Option Addr) (xs : List PT) (m2 c2 : Nat) (a2 : Option Addr) (ys : List PT), e = .returned (.tuple #[nmv ao m c, nmv a2 m2 c2]) ∧ m ≤ 9 ∧ m2 ≤ 9 ∧ OwnPt w.heap.size w' ao m c xs ∧ OwnPt w.heap.size w' a2 m2 c2 ys ∧ Below w.heap.size w w'
theorem SN.fin {w : World} {P : Nat} {a : Option Addr} {n cap : Nat} {bs : List Int} {W W' : World} {ao : Option Addr} {m c : Nat} {xs : List PT} {a2 : Option Addr} {m2 c2 : Nat} {ys : List PT} (h : SN w P a n cap bs W ao m c xs a2 m2 c2 ys) (hm2 : m2 ≤ 9) {a1 : Option Addr} {m1 c1 : Nat} {zs : List PT} (hm1 : m1 ≤ 9) (ho : OwnPt (w.heap.size + 3) W' a1 m1 c1 zs) (hb : Bent (w.heap.size + 2) (w.heap.size + 3) P W W') :
    W'.heap[w.heap.size]? = some (.cells #[.slice none 0 0] 26 (0, 0)) ∧ W'.heap[w.heap.size + 1]? = some (.cells #[.slice none 0 0] 26 (0, 0)) ∧ W'.cell? ⟨P + 1, 0, none⟩ = some (.slice a2 m2 c2) ∧
    DsR w (.returned (.tuple #[nmv a1 m1 c1, nmv a2 m2 c2])) ((W'.setCell ⟨w.heap.size, 0, none⟩ (.slice a1 m1 c1)).setCell ⟨w.heap.size + 1, 0, none⟩ (.slice a2 m2 c2)) := by
  have h1 := h.hP
  have h2 := h.size
  have h3 := hb.size
  have e : ∀ l, l ≠ w.heap.size → l ≠ w.heap.size + 1 → ((W'.setCell ⟨w.heap.size, 0, none⟩ (.slice a1 m1 c1)).setCell ⟨w.heap.size + 1, 0, none⟩ (.slice a2 m2 c2)).heap[l]? = W'.heap[l]? := fun l hl hl' => (Below.heap_setCell _ _ _ _ (by show l ≠ w.heap.size + 1; exact hl')).trans (Below.heap_setCell _ _ _ _ (by show l ≠ w.heap.size; exact hl))
  have f : ∀ l, l < W.heap.size → l ≠ w.heap.size + 2 → ¬ (w.heap.size + 3 ≤ l ∧ l < P) → W'.heap[l]? = W.heap[l]? := hb.block
  have o2' : OwnPt (P + 2) W' a2 m2 c2 ys := h.o2.keep fun q _ hq hl => f _ hl (by omega) (by omega)
  refine ⟨(f _ (by omega) (by omega) (by omega)).trans h.b2, (f _ (by omega) (by omega) (by omega)).trans h.b3, (cell_of_row _ _ 0 _ 26 (0, 0) ((f _ (by omega) (by omega) (by omega)).trans h.b6)).trans rfl, m1, c1, a1, zs, m2, c2, a2, ys, rfl, hm1, hm2, ?_, ?_, ?_⟩
  · exact (ho.keep fun q _ hq _ => e _ (by omega) (by omega)).lower (by omega)
  · exact (o2'.keep fun q _ hq _ => e _ (by omega) (by omega)).lower (by omega)
  · exact ⟨hb.os.trans h.below.os, hb.tape.trans h.below.tape, hb.output.trans h.below.output, by simp [World.setCell]; have := h.below.size; omega, fun l hl => (e l (by omega) (by omega)).trans ((f l (by omega) (by omega) (by omega)).trans (h.below.block l hl))⟩
theorem two_set {W : World} {p : Nat} {u v : Value} (h0 : W.heap[p]? = some (.cells #[.slice none 0 0] 26 (0, 0))) (h1 : W.heap[p + 1]? = some (.cells #[.slice none 0 0] 26 (0, 0))) :
    ((W.setCell ⟨p, 0, none⟩ u).setCell ⟨p + 1, 0, none⟩ v).heap[p]? = some (.cells #[u] 26 (0, 0)) ∧ ((W.setCell ⟨p, 0, none⟩ u).setCell ⟨p + 1, 0, none⟩ v).heap[p + 1]? = some (.cells #[v] 26 (0, 0)) :=
  ⟨(Below.heap_setCell _ _ _ _ (by show p ≠ p + 1; omega)).trans ((heap_setCell_same W p 0 _ 26 _ h0).trans rfl), (heap_setCell_same _ (p + 1) 0 _ 26 _ ((Below.heap_setCell _ _ _ _ (by show p + 1 ≠ p; omega)).trans h1)).trans rfl⟩

end Go.Proofs.Ytdoobkffkmphfaa
