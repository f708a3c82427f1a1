import Derived.Test.YtjkkokjojaknkaaDoorDI2
namespace Go.Proofs.YtjkkokjojaknkaaDoor
open Go.RowKit

/-! The item that DrawItemOk draws. -/
def badT : List Int := [-1, 0, 268435455, 268435456]
def badC : Array Value := #[.int .i64 (-1), .int .i64 0, .int .i64 268435455, .int .i64 268435456]
theorem badC_get (v : Nat) (h : v < 4) : badC[v]? = some (.int .i64 (badT.getD v 0)) := by
  match v, h with
  | 0, _ | 1, _ | 2, _ | 3, _ => rfl
def dI1 (bs : List Int) : It × Nat := if onV bs 12 (drw bs 4 0).2 = true then (deepI (10 + bwV bs 3 (bwP bs 12 (drw bs 4 0).2)), bwP bs 3 (bwP bs 12 (drw bs 4 0).2)) else ((drw bs 4 0).1, bwP bs 12 (drw bs 4 0).2)
def dBend (bs : List Int) (y : It) (q : Nat) : It :=
  if bwV bs 5 q = 0 then .mk ((bwV bs 6 (bwP bs 5 q) : Int) - 1) y.tag y.cons y.body y.kids
  else if bwV bs 5 q = 1 then .mk y.cls (badT.getD (bwV bs 4 (bwP bs 5 q)) 0) y.cons y.body y.kids
  else if bwV bs 5 q = 2 then .mk y.cls y.tag (!y.cons) y.body y.kids
  else if bwV bs 5 q = 3 then .mk y.cls y.tag false (List.replicate (19995 + bwV bs 8 (bwP bs 5 q)) 0) []
  else .mk y.cls y.tag y.cons y.body (y.kids ++ [zeroIt])
def dItem (bs : List Int) : It := if onV bs 6 (dI1 bs).2 = true then dBend bs (dI1 bs).1 (bwP bs 6 (dI1 bs).2) else (dI1 bs).1

/-! How much it weighs. -/
theorem wtS_cons (d : Nat) (x : It) (xs : List It) : wtS (d + 1) (x :: xs) = 1 + (x.body.length + wtS d x.kids) + wtS (d + 1) xs := by
  simp [wtS]; omega
theorem wtS_end (d : Nat) : wtS d [] = 0 := by cases d <;> simp [wtS]
theorem kidsD_wt (f : Nat → It × Nat) (B : Nat) (hf : ∀ q, (f q).1.body.length ≤ 256 ∧ ∀ d, wtS d (f q).1.kids ≤ B) : ∀ (k q d : Nat), wtS d (kidsD f k q).1 ≤ k * (257 + B) := by
  intro k
  induction k with
  | zero => intro q d; simp only [kidsD]; rw [wtS_end]; exact Nat.zero_le _
  | succ k ih =>
    intro q d
    cases d with
    | zero => exact Nat.zero_le _
    | succ d =>
      simp only [kidsD]
      rw [wtS_cons, Nat.succ_mul]
      have h1 := hf q
      have h2 := h1.2 d
      have h3 := ih (f q).2 (d + 1)
      omega
def wB : Nat → Nat
  | 0 => 0
  | l + 1 => 3 * (257 + wB l)
theorem lfV_len (bs : List Int) (q : Nat) : (lfV bs q).length ≤ 256 := by
  unfold lfV
  split
  · rw [List.length_replicate]; exact lenT_le _
  · rw [bysV, byV_len]
    have := bwV_lt bs (6 + 1) q (by decide)
    omega
theorem drw_wt (bs : List Int) : ∀ (l p : Nat), (drw bs l p).1.body.length ≤ 256 ∧ ∀ d, wtS d (drw bs l p).1.kids ≤ wB l := by
  intro l
  induction l with
  | zero => intro p; exact ⟨lfV_len _ _, fun d => by show wtS d [] ≤ _; rw [wtS_end]; exact Nat.zero_le _⟩
  | succ l ih =>
    intro p
    cases hc : cdV bs (l + 1) (dPos0 bs p) with
    | false => rw [drw_leaf bs (l + 1) p hc]; exact ⟨lfV_len _ _, fun d => by show wtS d [] ≤ _; rw [wtS_end]; exact Nat.zero_le _⟩
    | true =>
      rw [drw_box bs l p hc]
      refine ⟨Nat.zero_le _, fun d => ?_⟩
      have h1 := kidsD_wt (drw bs l) (wB l) ih (bwV bs 4 (cdP bs (l + 1) (dPos0 bs p))) (bwP bs 4 (cdP bs (l + 1) (dPos0 bs p))) d
      have h2 := bwV_lt bs 4 (cdP bs (l + 1) (dPos0 bs p)) (by decide)
      have h3 : bwV bs 4 (cdP bs (l + 1) (dPos0 bs p)) * (257 + wB l) ≤ 3 * (257 + wB l) := Nat.mul_le_mul_right _ (by omega)
      exact Nat.le_trans h1 h3
theorem deepI_wt : ∀ k, (deepI k).body.length ≤ 1 ∧ ∀ d, wtS d (deepI k).kids ≤ 2 * k := by
  intro k
  induction k with
  | zero => exact ⟨by decide, fun d => by show wtS d [] ≤ _; rw [wtS_end]; exact Nat.zero_le _⟩
  | succ k ih =>
    refine ⟨Nat.zero_le _, fun d => ?_⟩
    show wtS d [deepI k] ≤ _
    cases d with
    | zero => exact Nat.zero_le _
    | succ d =>
      rw [wtS_cons, wtS_end]
      have h1 := ih.1
      have h2 := ih.2 d
      omega
theorem dI1_wt (bs : List Int) : (dI1 bs).1.body.length ≤ 256 ∧ ∀ d, wtS d (dI1 bs).1.kids ≤ 40000 := by
  unfold dI1
  split
  · refine ⟨Nat.le_trans (deepI_wt _).1 (by decide), fun d => ?_⟩
    have h1 := (deepI_wt (10 + bwV bs 3 (bwP bs 12 (drw bs 4 0).2))).2 d
    have h2 := bwV_lt bs 3 (bwP bs 12 (drw bs 4 0).2) (by decide)
    show wtS d (deepI _).kids ≤ _
    omega
  · have h1 := drw_wt bs 4 0
    refine ⟨h1.1, fun d => Nat.le_trans (h1.2 d) (by decide)⟩
theorem wtS_add (d : Nat) (xs : List It) : wtS d (xs ++ [zeroIt]) ≤ wtS d xs + 1 := by
  cases d with
  | zero => exact Nat.zero_le _
  | succ d =>
    have h0 : zeroIt.body.length + wtS d zeroIt.kids = 0 := by
      show 0 + wtS d [] = 0
      rw [wtS_end]
    simp only [wtS, List.length_append, List.map_append, List.sum_append, List.map_cons, List.map_nil, List.sum_cons, List.sum_nil, List.length_singleton]
    omega
theorem dItem_wt (bs : List Int) : (dItem bs).body.length ≤ 20010 ∧ ∀ d, wtS d (dItem bs).kids ≤ 50000 := by
  have h := dI1_wt bs
  unfold dItem
  split
  · unfold dBend
    split
    · exact ⟨by have := h.1; show (dI1 bs).1.body.length ≤ _; omega, fun d => by have := h.2 d; show wtS d (dI1 bs).1.kids ≤ _; omega⟩
    · split
      · exact ⟨by have := h.1; show (dI1 bs).1.body.length ≤ _; omega, fun d => by have := h.2 d; show wtS d (dI1 bs).1.kids ≤ _; omega⟩
      · split
        · exact ⟨by have := h.1; show (dI1 bs).1.body.length ≤ _; omega, fun d => by have := h.2 d; show wtS d (dI1 bs).1.kids ≤ _; omega⟩
        · split
          · refine ⟨?_, fun d => by show wtS d [] ≤ _; rw [wtS_end]; exact Nat.zero_le _⟩
            show (List.replicate _ (0 : Int)).length ≤ _
            rw [List.length_replicate]
            have := bwV_lt bs 8 (bwP bs 5 (bwP bs 6 (dI1 bs).2)) (by decide)
            omega
          · exact ⟨by have := h.1; show (dI1 bs).1.body.length ≤ _; omega, fun d => by have h1 := h.2 d; have h2 := wtS_add d (dI1 bs).1.kids; show wtS d ((dI1 bs).1.kids ++ [zeroIt]) ≤ _; omega⟩
  · exact ⟨by have := h.1; omega, fun d => by have := h.2 d; omega⟩

theorem KidsH.touch {d lo hi p q : Nat} {w w' : World} {a : Option Addr} {n c : Nat} {xs : List It} {vs : List Value} (h : KidsH d lo hi w a n c xs vs) (hd : hi ≤ p ∨ q ≤ lo) (t : Touch p q w w') : KidsH d lo hi w' a n c xs vs := by
  have hrow : w'.ownsRow lo 26 5 (.slice a n c) n vs := by
    refine ⟨h.row.1, ?_⟩
    rcases h.row.2 with hn | ⟨g, cap, cur, hv, hbb, hgg, rest⟩
    · exact .inl hn
    · have hlt := h.blk g (by simp only [Value.slice.injEq] at hv; exact hv.1)
      exact .inr ⟨g, cap, cur, hv, hbb, (t.block g (Array.getElem?_eq_some_iff.1 hgg).1 (by omega)).trans hgg, rest⟩
  refine ⟨h.len, hrow, h.blk, fun g hg => ?_⟩
  have hlt := h.blk g hg
  subst hg
  have hl2 := h.row.lt g rfl
  exact (h.pre g rfl).move (ownKids_moves d) (fun j _ => World.cell?_of_block (a := ⟨g, j, none⟩) (t.block g hl2.2 (by omega))) (.inl hd) t
theorem KidsH.keptH {d lo hi : Nat} {w w' : World} {a : Option Addr} {n c : Nat} {xs : List It} {vs : List Value} (h : KidsH d lo hi w a n c xs vs) (hhi : hi ≤ w.heap.size) (hb : Below w.heap.size w w') : KidsH d lo hi w' a n c xs vs :=
  h.touch (.inl hhi) (Touch.of_below (lo := w.heap.size) (hi := w.heap.size) hb)
theorem KidsAt.toH {d lo : Nat} {w : World} {a : Option Addr} {n c : Nat} {xs : List It} {vs : List Value} (h : KidsAt d lo w a n c xs vs) : KidsH d lo w.heap.size w a n c xs vs :=
  ⟨h.len, h.row, fun g hg => by subst hg; exact (h.row.lt g rfl).2, h.pre⟩

/-- An item of zeros more: how it reads, whatever becomes of one block that lies apart. -/
theorem append_reads {d lo hi lo2 G R g5 c5 : Nat} {W w4 w5 W1 W' : World} {a : Option Addr} {n c : Nat} {xs : List It} {vs : List Value} (h : KidsH (d + 1) lo hi W a n c xs vs) (hn : n ≤ 1000000) (hal : Below W.heap.size W w4)
    (hown : w5.ownsRow lo2 26 5 (.slice (some ⟨g5, 0, none⟩) (n + 1) c5) (n + 1) (vs ++ [.int .i64 0, .int .i64 0, .bool false, .slice none 0 0, .slice none 0 0])) (hg : w4.grownBy w5 (Value.slice a n c).ownBlock)
    (tG : Touch G (G + 1) w5 W1) (hsep : hi ≤ G ∨ G < lo) (hgG : g5 ≠ G) (tR : Touch R (R + 1) W1 W') (hR : R < lo) (hgR : g5 ≠ R) : Kids (d + 2) W' (some ⟨g5, 0, none⟩) (n + 1) (xs ++ [zeroIt]) := by
  have hlt5 := (hown.lt g5 rfl).2
  have hvl : vs.length = n * 5 := h.row.1
  have hxn := h.len
  have hc : ∀ j, j < (n + 1) * 5 → W'.cell? ⟨g5, j, none⟩ = (vs ++ [Value.int .i64 0, .int .i64 0, .bool false, .slice none 0 0, .slice none 0 0])[j]? := fun j hj => (World.cell?_of_block (a := ⟨g5, j, none⟩) ((tR.block g5 (Nat.lt_of_lt_of_le hlt5 tG.size) (by omega)).trans (tG.block g5 hlt5 (by omega)))).trans (hown.cellAt j (by omega))
  refine ⟨by simp [hxn], by omega, fun k hk => ⟨g5, 0, rfl, Nat.lt_of_lt_of_le hlt5 (Nat.le_trans tG.size tR.size), ?_⟩⟩
  simp only [Nat.zero_add]
  by_cases hkn : k < n
  · have ex : (xs ++ [zeroIt]).getD k default = xs.getD k default := by simp [List.getElem?_append, show k < xs.length by omega]
    rw [ex]
    have hrow := h.row
    rcases hrow.2 with ⟨_, h0⟩ | ⟨g, cap', cur, hv, _⟩
    · omega
    · simp only [Value.slice.injEq] at hv
      obtain ⟨rfl, _, rfl⟩ := hv
      obtain ⟨L, H, h1, h2, h3⟩ := h.pre g rfl
      obtain ⟨ab, nb, cb, ak, nk, ck, M, c0, c1, c2, c3, c4, m1, m2, ob, ok⟩ := h3 k hkn
      have hb := h1 k hkn
      have tg : Touch g (g + 1) w4 w5 := ⟨hg.os, hg.tape, hg.output, hg.size, fun i hi' ho => hg.block i hi' (by simp [Value.ownBlock]; omega)⟩
      have row : ∀ i, i < 5 → W'.cell? ⟨g5, k * 5 + i, none⟩ = W.cell? ⟨g, k * 5 + i, none⟩ := fun i hi' => by rw [hc _ (by omega), List.getElem?_append_left (by omega), hrow.cellAt _ (by omega)]
      have ob5 := (((ob.kept hal).touch (by omega) tg).touch (by omega) tG).touch (by omega) tR
      have ok5 := ownKids_moves _ _ _ _ _ _ _ _ _ _ (ownKids_moves _ _ _ _ _ _ _ _ _ _ (ownKids_moves _ _ _ _ _ _ _ _ _ _ (ok.kept hal) (by omega) tg) (by omega) tG) (by omega) tR
      refine ⟨ab, nb, cb, ak, nk, ck, (row 0 (by decide)).trans c0, (row 1 (by decide)).trans c1, (row 2 (by decide)).trans c2, (row 3 (by decide)).trans c3, (row 4 (by decide)).trans c4, ob5.own.toRow, ob5.own.nil, ob5.own.max, ok5.kids⟩
  · obtain rfl : k = n := by omega
    have el : (xs ++ [zeroIt]).getD k default = zeroIt := by rw [← hxn]; simp
    rw [el]
    have row : ∀ i, i < 5 → W'.cell? ⟨g5, k * 5 + i, none⟩ = [Value.int .i64 0, .int .i64 0, .bool false, .slice none 0 0, .slice none 0 0][i]? := fun i hi' => by rw [hc _ (by omega), List.getElem?_append_right (by omega), hvl, Nat.add_sub_cancel_left]
    exact ⟨none, 0, 0, none, 0, 0, row 0 (by decide), row 1 (by decide), row 2 (by decide), row 3 (by decide), row 4 (by decide), (own_none 0 W').toRow, fun _ => rfl, by decide, (ownKids_nil d 0 0 W' none).kids⟩

/-- The item that is drawn in its box, behind the reader. -/
structure DX (w : World) (g : Nat) (a : Option Addr) (n cap : Nat) (bs : List Int) (p : Nat) (W : World) (G : Nat) (y : It) (ab : Option Addr) (nb cb : Nat) (ak : Option Addr) (nk ck : Nat) (lo M H : Nat) (vs : List Value) : Prop where
  rd : RdP W g a n cap bs p
  gw : w.heap.size < g
  gG : g < G
  bel : Below w.heap.size w W
  res : W.heap[w.heap.size]? = some (.cells #[.int .i64 0, .int .i64 0, .bool false, .slice none 0 0, .slice none 0 0] 26 (0, 0))
  box : W.heap[G]? = some (.cells #[.int .i64 y.cls, .int .i64 y.tag, .bool y.cons, .slice ab nb cb, .slice ak nk ck] 26 (0, 0))
  wl : g < lo
  m1 : lo ≤ M
  m2 : M ≤ H
  m3 : H ≤ W.heap.size
  sep : H ≤ G ∨ G < lo
  ob : OwnB lo M W ab nb cb y.body
  ks : KidsH 12 M H W ak nk ck y.kids vs
  n3 : nk ≤ 3
theorem DX.lt {w : World} {g : Nat} {a : Option Addr} {n cap : Nat} {bs : List Int} {p : Nat} {W : World} {G : Nat} {y : It} {ab : Option Addr} {nb cb : Nat} {ak : Option Addr} {nk ck : Nat} {lo M H : Nat} {vs : List Value} (h : DX w g a n cap bs p W G y ab nb cb ak nk ck lo M H vs) : G < W.heap.size := (Array.getElem?_eq_some_iff.1 h.box).1
theorem DX.rdq {w : World} {g : Nat} {a : Option Addr} {n cap : Nat} {bs : List Int} {p : Nat} {W : World} {G : Nat} {y : It} {ab : Option Addr} {nb cb : Nat} {ak : Option Addr} {nk ck : Nat} {lo M H : Nat} {vs : List Value} {q : Nat} {W' : World} (h : DX w g a n cap bs p W G y ab nb cb ak nk ck lo M H vs) (k : RdQ W g a n cap bs q W') : DX w g a n cap bs q W' G y ab nb cb ak nk ck lo M H vs := by
  have h1 := h.gw
  have h2 := h.gG
  have h3 := h.lt
  have h4 := h.wl
  have h5 := h.m1
  exact ⟨k.1, h1, h2, h.bel.trans (k.2.below (by omega) h.bel.size), (k.2.block _ (by omega) (.inl h1)).trans h.res, (k.2.block _ h3 (.inr (by omega))).trans h.box, h4, h5, h.m2, Nat.le_trans h.m3 k.2.size, h.sep, h.ob.touch (.inr (by omega)) k.2, h.ks.touch (.inr (by omega)) k.2, h.n3⟩
theorem DX.on {w : World} {g : Nat} {a : Option Addr} {n cap : Nat} {bs : List Int} {p : Nat} {W : World} {G : Nat} {y : It} {ab : Option Addr} {nb cb : Nat} {ak : Option Addr} {nk ck : Nat} {lo M H : Nat} {vs : List Value} {W' : World} (h : DX w g a n cap bs p W G y ab nb cb ak nk ck lo M H vs) (hb : Below W.heap.size W W') : DX w g a n cap bs p W' G y ab nb cb ak nk ck lo M H vs := by
  have h1 := h.gw
  have h2 := h.gG
  have h3 := h.lt
  exact ⟨h.rd.kept hb, h1, h2, h.bel.trans (hb.mono h.bel.size), (hb.block _ (by omega)).trans h.res, (hb.block _ h3).trans h.box, h.wl, h.m1, h.m2, Nat.le_trans h.m3 hb.size, h.sep, h.ob.kept hb, h.ks.keptH h.m3 hb, h.n3⟩
theorem DX.cells {w : World} {g : Nat} {a : Option Addr} {n cap : Nat} {bs : List Int} {p : Nat} {W : World} {G : Nat} {y : It} {ab : Option Addr} {nb cb : Nat} {ak : Option Addr} {nk ck : Nat} {lo M H : Nat} {vs : List Value} (h : DX w g a n cap bs p W G y ab nb cb ak nk ck lo M H vs) :
    (W.cell? ⟨G, 0, none⟩ = some (.int .i64 y.cls) ∧ W.cell? ⟨G, 1, none⟩ = some (.int .i64 y.tag) ∧ W.cell? ⟨G, 2, none⟩ = some (.bool y.cons) ∧ W.cell? ⟨G, 3, none⟩ = some (.slice ab nb cb) ∧ W.cell? ⟨G, 4, none⟩ = some (.slice ak nk ck)) ∧
    (W.frozen? ⟨G, 0, none⟩ = false ∧ W.frozen? ⟨G, 1, none⟩ = false ∧ W.frozen? ⟨G, 2, none⟩ = false ∧ W.frozen? ⟨G, 3, none⟩ = false ∧ W.frozen? ⟨G, 4, none⟩ = false) := by
  have hb := h.box
  exact ⟨⟨(cell_of_row _ _ 0 _ 26 (0, 0) hb).trans rfl, (cell_of_row _ _ 1 _ 26 (0, 0) hb).trans rfl, (cell_of_row _ _ 2 _ 26 (0, 0) hb).trans rfl, (cell_of_row _ _ 3 _ 26 (0, 0) hb).trans rfl, (cell_of_row _ _ 4 _ 26 (0, 0) hb).trans rfl⟩,
    frozen_of_row W _ 0 _ 26 hb, frozen_of_row W _ 1 _ 26 hb, frozen_of_row W _ 2 _ 26 hb, frozen_of_row W _ 3 _ 26 hb, frozen_of_row W _ 4 _ 26 hb⟩
/-- The item as it is handed back: in its box; its parts are read whatever becomes of the result's block. -/
structure DZ (w W : World) (G : Nat) (y : It) (ab : Option Addr) (nb cb : Nat) (ak : Option Addr) (nk ck : Nat) : Prop where
  bel : Below w.heap.size w W
  ne : w.heap.size < G
  res : W.heap[w.heap.size]? = some (.cells #[.int .i64 0, .int .i64 0, .bool false, .slice none 0 0, .slice none 0 0] 26 (0, 0))
  box : W.heap[G]? = some (.cells #[.int .i64 y.cls, .int .i64 y.tag, .bool y.cons, .slice ab nb cb, .slice ak nk ck] 26 (0, 0))
  nil : ab = none → cb = 0
  nb3 : nb ≤ 20010
  rd : ∀ W', Touch w.heap.size (w.heap.size + 1) W W' → Row W' ab nb y.body ∧ Kids 13 W' ak nk y.kids
/-- What of it is told once one cell of its box has turned. -/
theorem DX.put {w : World} {g : Nat} {a : Option Addr} {n cap : Nat} {bs : List Int} {p : Nat} {W : World} {G : Nat} {y : It} {ab : Option Addr} {nb cb : Nat} {ak : Option Addr} {nk ck : Nat} {lo M H : Nat} {vs : List Value} {u : Value} {i : Nat} {y' : It} (h : DX w g a n cap bs p W G y ab nb cb ak nk ck lo M H vs) (h1 : y'.body = y.body) (h2 : y'.kids = y.kids) (hnb : nb ≤ 20010) (hb : (W.setCell ⟨G, i, none⟩ u).heap[G]? = some (.cells #[.int .i64 y'.cls, .int .i64 y'.tag, .bool y'.cons, .slice ab nb cb, .slice ak nk ck] 26 (0, 0))) : DZ w (W.setCell ⟨G, i, none⟩ u) G y' ab nb cb ak nk ck := by
  have g1 := h.gw
  have g2 := h.gG
  have g3 := h.lt
  have g4 := h.wl
  have g5 := h.m1
  have g6 := h.m2
  have hsep := h.sep
  have t : Touch G (G + 1) W (W.setCell ⟨G, i, none⟩ u) := touch_set W G i u (Nat.le_refl _) (Nat.lt_succ_self _)
  refine ⟨h.bel.trans (t.below (by omega) h.bel.size), by omega, (t.block _ (by omega) (.inl (by omega))).trans h.res, hb, h.ob.own.nil, hnb, fun W' t' => ?_⟩
  rw [h1, h2]
  exact ⟨((h.ob.touch (by omega) t).touch (.inr (by omega)) t').own.toRow, (((h.ks.touch (by omega) t).touch (.inr (by omega)) t').kids (by have := h.n3; omega)).kids⟩
theorem DX.done {w : World} {g : Nat} {a : Option Addr} {n cap : Nat} {bs : List Int} {p : Nat} {W : World} {G : Nat} {y : It} {ab : Option Addr} {nb cb : Nat} {ak : Option Addr} {nk ck : Nat} {lo M H : Nat} {vs : List Value} (h : DX w g a n cap bs p W G y ab nb cb ak nk ck lo M H vs) (hnb : nb ≤ 20010) : DZ w W G y ab nb cb ak nk ck := by
  have g1 := h.gw
  have g2 := h.gG
  have g4 := h.wl
  have g5 := h.m1
  exact ⟨h.bel, by omega, h.res, h.box, h.ob.own.nil, hnb, fun W' t' => ⟨(h.ob.touch (.inr (by omega)) t').own.toRow, ((h.ks.touch (.inr (by omega)) t').kids (by have := h.n3; omega)).kids⟩⟩

end Go.Proofs.YtjkkokjojaknkaaDoor
