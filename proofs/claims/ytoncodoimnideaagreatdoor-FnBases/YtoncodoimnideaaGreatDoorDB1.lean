import Derived.Test.YtoncodoimnideaaGreatDoorDN2
import Derived.Test.YtoncodoimnideaaGreatDoorWRd2
import Derived.Deep.AppendLies
namespace Go.Proofs.YtoncodoimnideaaGreatDoor
open Go.RowKit

theorem OwnPt.keep {B : Nat} {w w' : World} {a : Option Addr} {n cap : Nat} {xs : List PT} (h : OwnPt B w a n cap xs) (e : ∀ q, a = some q → B ≤ q.block → q.block < w.heap.size → w'.heap[q.block]? = w.heap[q.block]?) : OwnPt B w' a n cap xs := by
  refine ⟨⟨h.row.1, ?_⟩, h.len, h.small⟩
  rcases h.row.2 with q | ⟨g, c, cur, h1, hb, hg, r⟩
  · exact .inl q
  · have ha : a = some ⟨g, 0, none⟩ := by simp only [Value.slice.injEq] at h1; exact h1.1
    exact .inr ⟨g, c, cur, h1, hb, (e _ ha hb (Array.getElem?_eq_some_iff.1 hg).1).trans hg, r⟩
theorem OwnPt.lower {B B' : Nat} {w : World} {a : Option Addr} {n cap : Nat} {xs : List PT} (h : OwnPt B w a n cap xs) (hb : B' ≤ B) : OwnPt B' w a n cap xs := by
  refine ⟨⟨h.row.1, ?_⟩, h.len, h.small⟩
  rcases h.row.2 with q | ⟨g, c, cur, h1, hg, r⟩
  · exact .inl q
  · exact .inr ⟨g, c, cur, h1, Nat.le_trans hb hg, r⟩
theorem OwnPt.blk {B : Nat} {w : World} {a : Option Addr} {n cap : Nat} {xs : List PT} (h : OwnPt B w a n cap xs) : ∀ q, a = some q → B ≤ q.block ∧ q.block < w.heap.size ∧ q = ⟨q.block, 0, none⟩ := by
  intro q hq
  subst hq
  rcases h.row.2 with ⟨e, _⟩ | ⟨g, c, cur, h1, hb, hg, r⟩
  · simp at e
  · simp only [Value.slice.injEq, Option.some.injEq] at h1
    obtain ⟨rfl, _⟩ := h1
    exact ⟨hb, (Array.getElem?_eq_some_iff.1 hg).1, rfl⟩
theorem OwnPt.there {B : Nat} {w : World} {a : Option Addr} {n cap : Nat} {xs : List PT} (h : OwnPt B w a n cap xs) (hn : 0 < n) : ∃ gb, a = some ⟨gb, 0, none⟩ ∧ B ≤ gb ∧ gb < w.heap.size := by
  rcases h.row.2 with ⟨_, h0⟩ | ⟨g, c, cur, h1, hb, hg, r⟩
  · omega
  · simp only [Value.slice.injEq] at h1
    exact ⟨g, h1.1, hb, (Array.getElem?_eq_some_iff.1 hg).1⟩

theorem ptc_set0 (xs : List PT) (i : Nat) (v : Int) (h : i < xs.length) : (ptc xs).set (i * 2) (.int .i64 v) = ptc (xs.set i ⟨v, (xs.getD i default).val⟩) := by
  induction xs generalizing i with
  | nil => simp at h
  | cons x r ih =>
    cases i with
    | zero => simp [ptc]
    | succ i =>
      have hi : i < r.length := by simpa using h
      have e : (i + 1) * 2 = i * 2 + 1 + 1 := by omega
      have := ih i hi
      simp [ptc, e, List.set] at this ⊢
      exact this
theorem ptc_set1 (xs : List PT) (i : Nat) (s : ByteArray) (h : i < xs.length) : (ptc xs).set (i * 2 + 1) (.string s) = ptc (xs.set i ⟨(xs.getD i default).attr, s⟩) := by
  induction xs generalizing i with
  | nil => simp at h
  | cons x r ih =>
    cases i with
    | zero => simp [ptc]
    | succ i =>
      have hi : i < r.length := by simpa using h
      have e : (i + 1) * 2 + 1 = i * 2 + 1 + 1 + 1 := by omega
      have := ih i hi
      simp [ptc, e, List.set] at this ⊢
      exact this
theorem getD_mem' (xs : List PT) (i : Nat) (h : i < xs.length) : xs.getD i default ∈ xs := by
  have e : xs.getD i default = xs[i] := by simp [h]
  rw [e]; exact List.getElem_mem h
theorem OwnPt.set0 {B : Nat} {w : World} {gb n cap : Nat} {xs : List PT} (h : OwnPt B w (some ⟨gb, 0, none⟩) n cap xs) (i : Nat) (hi : i < n) (v : Int) : ∃ ys, OwnPt B (w.setCell ⟨gb, i * 2, none⟩ (.int .i64 v)) (some ⟨gb, 0, none⟩) n cap ys := by
  have hl : i < xs.length := by rw [h.len]; exact hi
  refine ⟨_, by rw [← ptc_set0 xs i v hl]; exact (h.row.stored _ _).1, by simpa using h.len, fun x hx => ?_⟩
  rcases List.mem_or_eq_of_mem_set hx with h1 | h1
  · exact h.small x h1
  · rw [h1]; show (xs.getD i default).val.size ≤ 1000; exact h.small _ (getD_mem' xs i hl)
theorem OwnPt.set1 {B : Nat} {w : World} {gb n cap : Nat} {xs : List PT} (h : OwnPt B w (some ⟨gb, 0, none⟩) n cap xs) (i : Nat) (hi : i < n) (s : ByteArray) (hs : s.size ≤ 1000) : ∃ ys, OwnPt B (w.setCell ⟨gb, i * 2 + 1, none⟩ (.string s)) (some ⟨gb, 0, none⟩) n cap ys := by
  have hl : i < xs.length := by rw [h.len]; exact hi
  refine ⟨_, by rw [← ptc_set1 xs i s hl]; exact (h.row.stored _ _).1, by simpa using h.len, fun x hx => ?_⟩
  rcases List.mem_or_eq_of_mem_set hx with h1 | h1
  · exact h.small x h1
  · rw [h1]; exact hs

theorem ptc_get' (xs : List PT) (k : Nat) (h : k < xs.length) : (ptc xs)[k * 2]? = some (.int .i64 (xs.getD k default).attr) ∧ (ptc xs)[k * 2 + 1]? = some (.string (xs.getD k default).val) := by
  induction xs generalizing k with
  | nil => simp at h
  | cons x r ih =>
    cases k with
    | zero => exact ⟨rfl, rfl⟩
    | succ k =>
      have hk : k < r.length := by simpa using h
      obtain ⟨h1, h2⟩ := ih k hk
      have e : ptc (x :: r) = [Value.int .i64 x.attr, .string x.val] ++ ptc r := rfl
      rw [e]
      refine ⟨?_, ?_⟩
      · rw [List.getElem?_append_right (by simp; omega), show (k + 1) * 2 - [Value.int .i64 x.attr, .string x.val].length = k * 2 by simp; omega, h1]
        simp
      · rw [List.getElem?_append_right (by simp; omega), show (k + 1) * 2 + 1 - [Value.int .i64 x.attr, .string x.val].length = k * 2 + 1 by simp; omega, h2]
        simp

/-- A name as it is bent: its box, its result's box, its parts, the reader. -/
structure BS (w : World) (g B E : Nat) (a : Option Addr) (n cap : Nat) (bs : List Int) (W : World) (ao : Option Addr) (m c : Nat) (ys : List PT) : Prop where
  gB : g < B
  BE : B ≤ E
  Ew : E ≤ w.heap.size
  rd : Rd W g a n cap bs
  own : OwnPt B W ao m c ys
  nt : ∀ q, ao = some q → q.block < E ∨ w.heap.size + 2 ≤ q.block
  box : W.heap[w.heap.size]? = some (.cells #[.slice ao m c] 28 (0, 0))
  res : W.heap[w.heap.size + 1]? = some (.cells #[.slice none 0 0] 28 (0, 0))
  os : W.os = w.os
  tape : W.tape = w.tape
  output : W.output = w.output
  size : w.heap.size + 2 ≤ W.heap.size
  block : ∀ l, l < w.heap.size → l ≠ g → ¬ (B ≤ l ∧ l < E) → W.heap[l]? = w.heap[l]?
theorem BS.move {w : World} {g B E : Nat} {a : Option Addr} {n cap : Nat} {bs : List Int} {W : World} {ao : Option Addr} {m c : Nat} {ys : List PT} (h : BS w g B E a n cap bs W ao m c ys) {W' : World} (r : Rd W' g a n cap bs) (e1 : W'.os = W.os) (e2 : W'.tape = W.tape) (e3 : W'.output = W.output) (e4 : W.heap.size ≤ W'.heap.size) (e5 : ∀ l, l < W.heap.size → l ≠ g → W'.heap[l]? = W.heap[l]?) : BS w g B E a n cap bs W' ao m c ys := by
  have h1 := h.gB
  have h2 := h.BE
  have h3 := h.Ew
  have h4 := h.size
  exact ⟨h1, h2, h3, r, h.own.keep fun q _ hb hl => e5 _ hl (by omega), h.nt, (e5 _ (by omega) (by omega)).trans h.box, (e5 _ (by omega) (by omega)).trans h.res, e1.trans h.os, e2.trans h.tape, e3.trans h.output, by omega, fun l hl hg ho => (e5 l (by omega) hg).trans (h.block l hl hg ho)⟩
theorem BS.rdp {w : World} {g B E : Nat} {a : Option Addr} {n cap : Nat} {bs : List Int} {W : World} {ao : Option Addr} {m c : Nat} {ys : List PT} (h : BS w g B E a n cap bs W ao m c ys) {W' : World} (hp : RdPost W g a n cap bs W') : BS w g B E a n cap bs W' ao m c ys :=
  h.move hp.1 hp.2.os hp.2.tape hp.2.output hp.2.size fun l hl hg => hp.2.block l hl (by omega)
theorem BS.below {w : World} {g B E : Nat} {a : Option Addr} {n cap : Nat} {bs : List Int} {W : World} {ao : Option Addr} {m c : Nat} {ys : List PT} (h : BS w g B E a n cap bs W ao m c ys) {W' : World} (hb : Below W.heap.size W W') : BS w g B E a n cap bs W' ao m c ys :=
  h.move (h.rd.kept hb) hb.os hb.tape hb.output hb.size fun l hl _ => hb.block l hl
theorem BS.cell {w : World} {g B E : Nat} {a : Option Addr} {n cap : Nat} {bs : List Int} {W : World} {ao : Option Addr} {m c : Nat} {ys : List PT} (h : BS w g B E a n cap bs W ao m c ys) : W.cell? ⟨w.heap.size, 0, none⟩ = some (.slice ao m c) ∧ W.frozen? ⟨w.heap.size, 0, none⟩ = false ∧ w.heap.size < W.heap.size :=
  ⟨(cell_of_row _ _ 0 _ 28 (0, 0) h.box).trans rfl, frozen_of_row W _ 0 _ 28 h.box, by have := h.size; omega⟩
theorem BS.cellR {w : World} {g B E : Nat} {a : Option Addr} {n cap : Nat} {bs : List Int} {W : World} {ao : Option Addr} {m c : Nat} {ys : List PT} (h : BS w g B E a n cap bs W ao m c ys) : W.cell? ⟨w.heap.size + 1, 0, none⟩ = some (.slice none 0 0) ∧ W.frozen? ⟨w.heap.size + 1, 0, none⟩ = false ∧ w.heap.size + 1 < W.heap.size :=
  ⟨(cell_of_row _ _ 0 _ 28 (0, 0) h.res).trans rfl, frozen_of_row W _ 0 _ 28 h.res, by have := h.size; omega⟩
theorem BS.part {w : World} {g B E : Nat} {a : Option Addr} {n cap : Nat} {bs : List Int} {W : World} {gb : Nat} {m c : Nat} {ys : List PT} (h : BS w g B E a n cap bs W (some ⟨gb, 0, none⟩) m c ys) (i : Nat) (hi : i < m) : (∃ v, W.cell? ⟨gb, i * 2, none⟩ = some (.int .i64 v)) ∧ (∃ s, W.cell? ⟨gb, i * 2 + 1, none⟩ = some (.string s)) ∧ W.frozen? ⟨gb, i * 2, none⟩ = false ∧ W.frozen? ⟨gb, i * 2 + 1, none⟩ = false ∧ gb < W.heap.size := by
  have hr := h.own.row
  have hl : i < ys.length := by rw [h.own.len]; exact hi
  obtain ⟨g1, g2⟩ := ptc_get' ys i hl
  exact ⟨⟨_, by rw [hr.cellAt (i * 2) (by omega), g1]⟩, ⟨_, by rw [hr.cellAt (i * 2 + 1) (by omega), g2]⟩, hr.frozenAt _, hr.frozenAt _, (h.own.blk _ rfl).2.1⟩

theorem BS.put {w : World} {g B E : Nat} {a : Option Addr} {n cap : Nat} {bs : List Int} {W : World} {gb : Nat} {m c : Nat} {ys zs : List PT} (h : BS w g B E a n cap bs W (some ⟨gb, 0, none⟩) m c ys) (o : Nat) (u : Value) (ho : OwnPt B (W.setCell ⟨gb, o, none⟩ u) (some ⟨gb, 0, none⟩) m c zs) : BS w g B E a n cap bs (W.setCell ⟨gb, o, none⟩ u) (some ⟨gb, 0, none⟩) m c zs := by
  have h1 := h.gB
  have h2 := h.BE
  have h3 := h.Ew
  have h4 := h.size
  have hb := (h.own.blk _ rfl).1
  have hn := h.nt _ rfl
  simp only at hb hn
  refine ⟨h1, h2, h3, h.rd.touch (touch_set' (p := gb) (q := gb + 1) _ _ _ _ (Nat.le_refl _) (Nat.lt_succ_self _)) (by omega), ho, h.nt, (Below.heap_setCell _ _ _ _ (by show w.heap.size ≠ gb; omega)).trans h.box, (Below.heap_setCell _ _ _ _ (by show w.heap.size + 1 ≠ gb; omega)).trans h.res, h.os, h.tape, h.output, by simpa [World.setCell] using h4, fun l hl hg hh => (Below.heap_setCell _ _ _ _ (by show l ≠ gb; omega)).trans (h.block l hl hg hh)⟩
theorem BS.setBox {w : World} {g B E : Nat} {a : Option Addr} {n cap : Nat} {bs : List Int} {W W' : World} {ao a2 : Option Addr} {m c m2 c2 : Nat} {ys zs : List PT} (h : BS w g B E a n cap bs W ao m c ys) (hg : W.grownBy W' (Value.slice ao m c).ownBlock) (ho : OwnPt B W' a2 m2 c2 zs) (hn : ∀ q, a2 = some q → q.block < E ∨ w.heap.size + 2 ≤ q.block) : BS w g B E a n cap bs (W'.setCell ⟨w.heap.size, 0, none⟩ (.slice a2 m2 c2)) a2 m2 c2 zs := by
  have h1 := h.gB
  have h2 := h.BE
  have h3 := h.Ew
  have h4 := h.size
  have hs := hg.size
  have key : ∀ l, some l = (Value.slice ao m c).ownBlock → B ≤ l ∧ (l < E ∨ w.heap.size + 2 ≤ l) := by
    intro l hl
    rcases ao with _ | q
    · simp [Value.ownBlock] at hl
    · simp [Value.ownBlock] at hl
      subst hl
      exact ⟨(h.own.blk _ rfl).1, h.nt _ rfl⟩
  have e5 : ∀ l, l < W.heap.size → (¬ (B ≤ l ∧ (l < E ∨ w.heap.size + 2 ≤ l))) → W'.heap[l]? = W.heap[l]? := fun l hl hh => hg.block l hl fun e => hh (key l e)
  have r' : Rd W' g a n cap bs := by
    obtain ⟨p, hp, hb⟩ := h.rd.blk
    refine ⟨⟨p, hp, (e5 g (Array.getElem?_eq_some_iff.1 hb).1 (by omega)).trans hb⟩, ?_, h.rd.sep, h.rd.len⟩
    refine h.rd.row.touch h.rd.sep (lo := g) (hi := W.heap.size) (.inl (Nat.le_refl _)) ⟨hg.os, hg.tape, hg.output, hg.size, fun l hl ho => e5 l hl (by omega)⟩
  refine ⟨h1, h2, h3, r'.touch (touch_set' (p := w.heap.size) (q := w.heap.size + 1) _ _ _ _ (Nat.le_refl _) (Nat.lt_succ_self _)) (by omega), ho.keep fun q hq _ _ => Below.heap_setCell _ _ _ _ (by show q.block ≠ w.heap.size; have := hn q hq; omega), hn, ?_, (Below.heap_setCell _ _ _ _ (by show w.heap.size + 1 ≠ w.heap.size; omega)).trans ((e5 _ (by omega) (by omega)).trans h.res), hg.os.trans h.os, hg.tape.trans h.tape, hg.output.trans h.output, by simp [World.setCell]; omega, fun l hl hgl hh => (Below.heap_setCell _ _ _ _ (by show l ≠ w.heap.size; omega)).trans ((e5 l (by omega) (by omega)).trans (h.block l hl hgl hh))⟩
  exact (heap_setCell_same W' w.heap.size 0 _ 28 _ ((e5 _ (by omega) (by omega)).trans h.box)).trans rfl

/-- What is left behind: only the reader and the name's own blocks may have turned. -/
structure Bent (g B E : Nat) (w w' : World) : Prop where
  os : w'.os = w.os
  tape : w'.tape = w.tape
  output : w'.output = w.output
  size : w.heap.size ≤ w'.heap.size
  block : ∀ l, l < w.heap.size → l ≠ g → ¬ (B ≤ l ∧ l < E) → w'.heap[l]? = w.heap[l]?
def BnR (w : World) (g B E : Nat) (a : Option Addr) (n cap : Nat) (bs : List Int) (e : Ending) (w' : World) : Prop :=
  ∃ (m c : Nat) (ao : Option Addr) (xs : List PT), e = .returned (nmv ao m c) ∧ m ≤ 9 ∧ OwnPt B w' ao m c xs ∧ (∀ q, ao = some q → q.block < E ∨ w.heap.size ≤ q.block) ∧ Rd w' g a n cap bs ∧ Bent g B E w w'
theorem BS.fin {w : World} {g B E : Nat} {a : Option Addr} {n cap : Nat} {bs : List Int} {W : World} {ao : Option Addr} {m c : Nat} {ys : List PT} (h : BS w g B E a n cap bs W ao m c ys) (hm : m ≤ 9) : (W.setCell ⟨w.heap.size + 1, 0, none⟩ (.slice ao m c)).heap[w.heap.size + 1]? = some (.cells #[.slice ao m c] 28 (0, 0)) ∧ BnR w g B E a n cap bs (.returned (nmv ao m c)) (W.setCell ⟨w.heap.size + 1, 0, none⟩ (.slice ao m c)) := by
  have h1 := h.gB
  have h2 := h.BE
  have h3 := h.Ew
  have h4 := h.size
  refine ⟨(heap_setCell_same W (w.heap.size + 1) 0 _ 28 _ h.res).trans rfl, m, c, ao, ys, rfl, hm, h.own.keep fun q hq _ _ => Below.heap_setCell _ _ _ _ (by show q.block ≠ w.heap.size + 1; have := h.nt q hq; omega), fun q hq => by have := h.nt q hq; omega, h.rd.touch (touch_set' (p := w.heap.size + 1) (q := w.heap.size + 2) _ _ _ _ (Nat.le_refl _) (Nat.lt_succ_self _)) (by omega), h.os, h.tape, h.output, by simp [World.setCell]; omega, fun l hl hg hh => (Below.heap_setCell _ _ _ _ (by show l ≠ w.heap.size + 1; omega)).trans (h.block l hl hg hh)⟩

end Go.Proofs.YtoncodoimnideaaGreatDoor
