import Derived.Test.YtjkkokjojaknkaaDoorRR16
import Derived.Test.YtjkkokjojaknkaaDoorDR0
namespace Go.Proofs.YtjkkokjojaknkaaDoor
open Go.RowKit

/-! What is drawn of items: a pure function of the code and the place. -/
def tagT : List Int := [0, 1, 30, 31, 32, 127, 128, 16384, 268435455]
def lenT : List Nat := [127, 128, 255, 256]
def tagC : Array Value := #[.int .i64 0, .int .i64 1, .int .i64 30, .int .i64 31, .int .i64 32, .int .i64 127, .int .i64 128, .int .i64 16384, .int .i64 268435455]
def lenC : Array Value := #[.int .i64 127, .int .i64 128, .int .i64 255, .int .i64 256]
theorem tagC_get (v : Nat) (h : v < 9) : tagC[v]? = some (.int .i64 (tagT.getD v 0)) := by
  match v, h with
  | 0, _ | 1, _ | 2, _ | 3, _ | 4, _ | 5, _ | 6, _ | 7, _ | 8, _ => rfl
theorem lenC_get (v : Nat) (h : v < 4) : lenC[v]? = some (.int .i64 ((lenT.getD v 0 : Nat) : Int)) := by
  match v, h with
  | 0, _ | 1, _ | 2, _ | 3, _ => rfl
theorem lenT_le (v : Nat) : lenT.getD v 0 ≤ 256 := by
  match v with
  | 0 | 1 | 2 | 3 => decide
  | v + 4 => simp [lenT]
theorem tagT_in (v : Nat) : 0 ≤ tagT.getD v 0 ∧ tagT.getD v 0 ≤ 268435455 := by
  match v with
  | 0 | 1 | 2 | 3 | 4 | 5 | 6 | 7 | 8 => decide
  | v + 9 => simp [tagT]

def dCls (bs : List Int) (p : Nat) : Nat := bwV bs 4 p
def dPh (bs : List Int) (p : Nat) : Nat := bwP bs 30 (bwP bs 4 p)
def dTag0 (bs : List Int) (p : Nat) : Int := if onV bs 5 (dPh bs p) = true then tagT.getD (bwV bs 9 (bwP bs 5 (dPh bs p))) 0 else 1 + (bwV bs 30 (bwP bs 4 p) : Int)
def dPos0 (bs : List Int) (p : Nat) : Nat := if onV bs 5 (dPh bs p) = true then bwP bs 9 (bwP bs 5 (dPh bs p)) else bwP bs 5 (dPh bs p)
def dTag (bs : List Int) (p : Nat) : Int := if dCls bs p = 0 ∧ dTag0 bs p = 0 then 4 else dTag0 bs p
theorem dTag_in (bs : List Int) (p : Nat) : 0 ≤ dTag bs p ∧ dTag bs p ≤ 268435455 ∧ ¬ ((dCls bs p : Int) = 0 ∧ dTag bs p = 0) := by
  have h0 : 0 ≤ dTag0 bs p ∧ dTag0 bs p ≤ 268435455 := by
    unfold dTag0
    split
    · exact tagT_in _
    · have := bwV_lt bs 30 (bwP bs 4 p) (by decide)
      omega
  unfold dTag
  split <;> omega
/-- Whether it is a box, at a level: at the last one never. -/
def cdV (bs : List Int) (lev q : Nat) : Bool := if lev = 0 then false else !onV bs 3 q
def cdP (bs : List Int) (lev q : Nat) : Nat := if lev = 0 then q else bwP bs 3 q
/-- A leaf's body. -/
def lfQ (bs : List Int) (q : Nat) : Nat := bwP bs 12 (bysP bs 6 q)
def lfV (bs : List Int) (q : Nat) : List Int := if onV bs 12 (bysP bs 6 q) = true then List.replicate (lenT.getD (bwV bs 4 (lfQ bs q)) 0) 0 else bysV bs 6 q
def lfP (bs : List Int) (q : Nat) : Nat := if onV bs 12 (bysP bs 6 q) = true then bwP bs 4 (lfQ bs q) else lfQ bs q
def kidsD (f : Nat → It × Nat) : Nat → Nat → List It × Nat
  | 0, q => ([], q)
  | k + 1, q => ((f q).1 :: (kidsD f k (f q).2).1, (kidsD f k (f q).2).2)
/-- What l2Draw draws at a place, and the place behind it. -/
def drw (bs : List Int) : Nat → Nat → It × Nat
  | 0, p => (.mk (dCls bs p) (dTag bs p) false (lfV bs (cdP bs 0 (dPos0 bs p))) [], lfP bs (cdP bs 0 (dPos0 bs p)))
  | l + 1, p => if cdV bs (l + 1) (dPos0 bs p) = true
      then (.mk (dCls bs p) (dTag bs p) true [] (kidsD (drw bs l) (bwV bs 4 (cdP bs (l + 1) (dPos0 bs p))) (bwP bs 4 (cdP bs (l + 1) (dPos0 bs p)))).1, (kidsD (drw bs l) (bwV bs 4 (cdP bs (l + 1) (dPos0 bs p))) (bwP bs 4 (cdP bs (l + 1) (dPos0 bs p)))).2)
      else (.mk (dCls bs p) (dTag bs p) false (lfV bs (cdP bs (l + 1) (dPos0 bs p))) [], lfP bs (cdP bs (l + 1) (dPos0 bs p)))
theorem drw_leaf (bs : List Int) (lev p : Nat) (h : cdV bs lev (dPos0 bs p) = false) : drw bs lev p = (.mk (dCls bs p) (dTag bs p) false (lfV bs (cdP bs lev (dPos0 bs p))) [], lfP bs (cdP bs lev (dPos0 bs p))) := by
  cases lev with
  | zero => rfl
  | succ l => simp only [drw]; rw [if_neg (by rw [h]; decide)]
theorem drw_box (bs : List Int) (l p : Nat) (h : cdV bs (l + 1) (dPos0 bs p) = true) : drw bs (l + 1) p = (.mk (dCls bs p) (dTag bs p) true [] (kidsD (drw bs l) (bwV bs 4 (cdP bs (l + 1) (dPos0 bs p))) (bwP bs 4 (cdP bs (l + 1) (dPos0 bs p)))).1, (kidsD (drw bs l) (bwV bs 4 (cdP bs (l + 1) (dPos0 bs p))) (bwP bs 4 (cdP bs (l + 1) (dPos0 bs p)))).2) := by
  simp only [drw]
  rw [if_pos h]

/-- The box of the item that is drawn, and its result's box behind it. -/
structure DB (w : World) (g : Nat) (a : Option Addr) (n cap : Nat) (bs : List Int) (p : Nat) (W : World) (G : Nat) (cs : Array Value) : Prop where
  rd : RdQ w g a n cap bs p W
  gw : g < w.heap.size
  lo : w.heap.size < G
  res : W.heap[w.heap.size]? = some (.cells #[.int .i64 0, .int .i64 0, .bool false, .slice none 0 0, .slice none 0 0] 26 (0, 0))
  box : W.heap[G]? = some (.cells cs 26 (0, 0))
theorem DB.lt {w : World} {g : Nat} {a : Option Addr} {n cap : Nat} {bs : List Int} {p : Nat} {W : World} {G : Nat} {cs : Array Value} (h : DB w g a n cap bs p W G cs) : G < W.heap.size := (Array.getElem?_eq_some_iff.1 h.box).1
theorem DB.rdq {w : World} {g : Nat} {a : Option Addr} {n cap : Nat} {bs : List Int} {p : Nat} {W : World} {G : Nat} {cs : Array Value} {q : Nat} {W' : World} (h : DB w g a n cap bs p W G cs) (k : RdQ W g a n cap bs q W') : DB w g a n cap bs q W' G cs := by
  have h1 := h.gw
  have h2 := h.lo
  have h3 := h.lt
  exact ⟨h.rd.step k, h1, h2, (k.2.block _ (by omega) (.inr (by omega))).trans h.res, (k.2.block G h3 (.inr (by omega))).trans h.box⟩
theorem DB.on {w : World} {g : Nat} {a : Option Addr} {n cap : Nat} {bs : List Int} {p : Nat} {W : World} {G : Nat} {cs : Array Value} {W' : World} (h : DB w g a n cap bs p W G cs) (hb : Below W.heap.size W W') : DB w g a n cap bs p W' G cs := by
  have h2 := h.lo
  have h3 := h.lt
  exact ⟨h.rd.keptQ hb, h.gw, h2, (hb.block _ (by omega)).trans h.res, (hb.block _ h3).trans h.box⟩
/-- Behind what touches blocks from the box on, the box as it then is. -/
theorem DB.turn {w : World} {g : Nat} {a : Option Addr} {n cap : Nat} {bs : List Int} {p : Nat} {W : World} {G : Nat} {cs : Array Value} {W' : World} {lo hi : Nat} {cs' : Array Value} (h : DB w g a n cap bs p W G cs) (t : Touch lo hi W W') (hlo : w.heap.size < lo) (hb : W'.heap[G]? = some (.cells cs' 26 (0, 0))) : DB w g a n cap bs p W' G cs' := by
  have h1 := h.gw
  have h2 := h.lo
  have h3 := h.lt
  exact ⟨h.rd.grownQ t (by omega) (by omega), h1, h2, (t.block _ (by omega) (.inl hlo)).trans h.res, hb⟩
theorem DB.put {w : World} {g : Nat} {a : Option Addr} {n cap : Nat} {bs : List Int} {p : Nat} {W : World} {G : Nat} {cs : Array Value} {cs' : Array Value} (h : DB w g a n cap bs p W G cs) (i : Nat) (u : Value) (hb : (W.setCell ⟨G, i, none⟩ u).heap[G]? = some (.cells cs' 26 (0, 0))) : DB w g a n cap bs p (W.setCell ⟨G, i, none⟩ u) G cs' :=
  h.turn (touch_set W G i u (Nat.le_refl _) (Nat.lt_succ_self _)) h.lo hb
theorem DB.start {w : World} {g : Nat} {a : Option Addr} {n cap : Nat} {bs : List Int} {p : Nat} {W : World} (h : RdQ w g a n cap bs p W) (hg : g < w.heap.size) (hr : W.heap[w.heap.size]? = some (.cells #[.int .i64 0, .int .i64 0, .bool false, .slice none 0 0, .slice none 0 0] 26 (0, 0))) (cs : Array Value) :
    DB w g a n cap bs p ((W.alloc (.cells #[.int .i64 0, .int .i64 0, .bool false, .slice none 0 0, .slice none 0 0] 26)).setRow W.heap.size cs) W.heap.size cs := by
  have hs : w.heap.size < W.heap.size := (Array.getElem?_eq_some_iff.1 hr).1
  have hb : Below W.heap.size W (W.alloc (.cells #[.int .i64 0, .int .i64 0, .bool false, .slice none 0 0, .slice none 0 0] 26)) := (Below.refl _ _).alloc (Nat.le_refl _) _
  have e1 := heap_alloc_new W (.cells #[.int .i64 0, .int .i64 0, .bool false, .slice none 0 0, .slice none 0 0] 26)
  have e2 := setRow_heap (W.alloc (.cells #[.int .i64 0, .int .i64 0, .bool false, .slice none 0 0, .slice none 0 0] 26)) W.heap.size _ cs 26 (0, 0) e1
  have tt : Touch W.heap.size (W.heap.size + 1) (W.alloc (.cells #[.int .i64 0, .int .i64 0, .bool false, .slice none 0 0, .slice none 0 0] 26)) ((W.alloc (.cells #[.int .i64 0, .int .i64 0, .bool false, .slice none 0 0, .slice none 0 0] 26)).setRow W.heap.size cs) := touch_setRow16 _ _ _
  have sz : (W.alloc (.cells #[.int .i64 0, .int .i64 0, .bool false, .slice none 0 0, .slice none 0 0] 26)).heap.size = W.heap.size + 1 := by simp
  exact ⟨(h.keptQ hb).grownQ tt (by omega) (by omega), hg, hs, (tt.block _ (by omega) (.inl hs)).trans ((hb.block _ hs).trans hr), e2⟩
theorem DB.cells {w : World} {g : Nat} {a : Option Addr} {n cap : Nat} {bs : List Int} {p : Nat} {W : World} {G : Nat} {c0 c1 c2 c3 c4 : Value} (h : DB w g a n cap bs p W G #[c0, c1, c2, c3, c4]) :
    (W.cell? ⟨G, 0, none⟩ = some c0 ∧ W.cell? ⟨G, 1, none⟩ = some c1 ∧ W.cell? ⟨G, 2, none⟩ = some c2 ∧ W.cell? ⟨G, 3, none⟩ = some c3 ∧ W.cell? ⟨G, 4, none⟩ = some c4) ∧
    (W.frozen? ⟨G, 0, none⟩ = false ∧ W.frozen? ⟨G, 1, none⟩ = false ∧ W.frozen? ⟨G, 2, none⟩ = false ∧ W.frozen? ⟨G, 3, none⟩ = false ∧ W.frozen? ⟨G, 4, none⟩ = false) := by
  have hb := h.box
  exact ⟨⟨(cell_of_row _ _ 0 _ 26 (0, 0) hb).trans rfl, (cell_of_row _ _ 1 _ 26 (0, 0) hb).trans rfl, (cell_of_row _ _ 2 _ 26 (0, 0) hb).trans rfl, (cell_of_row _ _ 3 _ 26 (0, 0) hb).trans rfl, (cell_of_row _ _ 4 _ 26 (0, 0) hb).trans rfl⟩,
    frozen_of_row W _ 0 _ 26 hb, frozen_of_row W _ 1 _ 26 hb, frozen_of_row W _ 2 _ 26 hb, frozen_of_row W _ 3 _ 26 hb, frozen_of_row W _ 4 _ 26 hb⟩

/-- An item in memory of its own. -/
def ItQ (w : World) (d : Nat) (x : It) (ev : Ending) (w' : World) : Prop :=
  ∃ ab nb cb ak nk ck M, ev = .returned (itv x ab nb cb ak nk ck) ∧ w.heap.size ≤ M ∧ M ≤ w'.heap.size ∧ OwnB w.heap.size M w' ab nb cb x.body ∧ nk ≤ 3 ∧ ∃ vs, KidsAt d M w' ak nk ck x.kids vs
/-- What l2Draw leaves. -/
def DrQ (w : World) (g : Nat) (a : Option Addr) (n cap : Nat) (bs : List Int) (lev : Nat) (x : It × Nat) (ev : Ending) (w' : World) : Prop :=
  RdQ w g a n cap bs x.2 w' ∧ ItQ w (lev + 8) x.1 ev w'
def DrC (g : Nat) (a : Option Addr) (n cap : Nat) (bs : List Int) (lev : Nat) : Prop := ∀ (p : Nat) (w : World), RdP w g a n cap bs p →
    Calls Tryd.prog 32 #[.pointer (some ⟨g, 0, none⟩), .int .i64 (5 - (lev : Int))] w fun ev w' => DrQ w g a n cap bs lev (drw bs lev p) ev w'

end Go.Proofs.YtjkkokjojaknkaaDoor
