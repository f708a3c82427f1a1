import Derived.Test.YtoncodoimnideaaGreatDoorQBW3
namespace Go.Proofs.YtoncodoimnideaaGreatDoor
open Go.RowKit

/-- A general name as it is bent: its box, its result's box, its parts, the reader. -/
structure BG (w : World) (g B E : Nat) (a : Option Addr) (n cap : Nat) (bs : List Int) (W : World) (k : Int) (t : ByteArray) (ad bi : Int) (ao : Option Addr) (m c : Nat) (xs : List PT) : Prop where
  gB : g < B
  BE : B ≤ E
  Ew : E ≤ w.heap.size
  rd : Rd W g a n cap bs
  own : OwnPt B W ao m c xs
  nt : ∀ q, ao = some q → q.block < E ∨ w.heap.size + 2 ≤ q.block
  box : W.heap[w.heap.size]? = some (.cells #[.int .i64 k, .string t, .int .i64 ad, .int .i64 bi, .slice ao m c] 30 (0, 0))
  res : W.heap[w.heap.size + 1]? = some (.cells #[.int .i64 0, .string ⟨#[]⟩, .int .i64 0, .int .i64 0, .slice none 0 0] 30 (0, 0))
  size : w.heap.size + 2 ≤ W.heap.size
  bent : Bent g B E w W
theorem BG.move {w : World} {g B E : Nat} {a : Option Addr} {n cap : Nat} {bs : List Int} {W : World} {k : Int} {t : ByteArray} {ad bi : Int} {ao : Option Addr} {m c : Nat} {xs : List PT} (h : BG w g B E a n cap bs W k t ad bi ao m c xs) {W' : World} (r : Rd W' g a n cap bs) (e1 : W'.os = W.os) (e2 : W'.tape = W.tape) (e3 : W'.output = W.output) (e4 : W.heap.size ≤ W'.heap.size) (e5 : ∀ l, l < W.heap.size → l ≠ g → W'.heap[l]? = W.heap[l]?) : BG w g B E a n cap bs W' k t ad bi ao m c xs := by
  have h1 := h.gB
  have h2 := h.BE
  have h3 := h.Ew
  have h4 := h.size
  exact ⟨h1, h2, h3, r, h.own.keep fun q _ hb hl => e5 _ hl (by omega), h.nt, (e5 _ (by omega) (by omega)).trans h.box, (e5 _ (by omega) (by omega)).trans h.res, by omega, e1.trans h.bent.os, e2.trans h.bent.tape, e3.trans h.bent.output, by omega, fun l hl hg ho => (e5 l (by omega) hg).trans (h.bent.block l hl hg ho)⟩
theorem BG.rdp {w : World} {g B E : Nat} {a : Option Addr} {n cap : Nat} {bs : List Int} {W : World} {k : Int} {t : ByteArray} {ad bi : Int} {ao : Option Addr} {m c : Nat} {xs : List PT} (h : BG w g B E a n cap bs W k t ad bi ao m c xs) {W' : World} (hp : RdPost W g a n cap bs W') : BG w g B E a n cap bs W' k t ad bi ao m c xs :=
  h.move hp.1 hp.2.os hp.2.tape hp.2.output hp.2.size fun l hl hg => hp.2.block l hl (by omega)
theorem BG.below {w : World} {g B E : Nat} {a : Option Addr} {n cap : Nat} {bs : List Int} {W : World} {k : Int} {t : ByteArray} {ad bi : Int} {ao : Option Addr} {m c : Nat} {xs : List PT} (h : BG w g B E a n cap bs W k t ad bi ao m c xs) {W' : World} (hb : Below W.heap.size W W') : BG w g B E a n cap bs W' k t ad bi ao m c xs :=
  h.move (h.rd.kept hb) hb.os hb.tape hb.output hb.size fun l hl _ => hb.block l hl
theorem BG.cells {w : World} {g B E : Nat} {a : Option Addr} {n cap : Nat} {bs : List Int} {W : World} {k : Int} {t : ByteArray} {ad bi : Int} {ao : Option Addr} {m c : Nat} {xs : List PT} (h : BG w g B E a n cap bs W k t ad bi ao m c xs) :
    (W.cell? ⟨w.heap.size, 0, none⟩ = some (.int .i64 k) ∧ W.cell? ⟨w.heap.size, 1, none⟩ = some (.string t) ∧ W.cell? ⟨w.heap.size, 2, none⟩ = some (.int .i64 ad) ∧ W.cell? ⟨w.heap.size, 3, none⟩ = some (.int .i64 bi) ∧ W.cell? ⟨w.heap.size, 4, none⟩ = some (.slice ao m c)) ∧
    (W.frozen? ⟨w.heap.size, 0, none⟩ = false ∧ W.frozen? ⟨w.heap.size, 1, none⟩ = false ∧ W.frozen? ⟨w.heap.size, 2, none⟩ = false ∧ W.frozen? ⟨w.heap.size, 3, none⟩ = false ∧ W.frozen? ⟨w.heap.size, 4, none⟩ = false) ∧ w.heap.size < W.heap.size := by
  have hb := h.box
  exact ⟨⟨(cell_of_row _ _ 0 _ 30 (0, 0) hb).trans rfl, (cell_of_row _ _ 1 _ 30 (0, 0) hb).trans rfl, (cell_of_row _ _ 2 _ 30 (0, 0) hb).trans rfl, (cell_of_row _ _ 3 _ 30 (0, 0) hb).trans rfl, (cell_of_row _ _ 4 _ 30 (0, 0) hb).trans rfl⟩, ⟨frozen_of_row W _ 0 _ 30 hb, frozen_of_row W _ 1 _ 30 hb, frozen_of_row W _ 2 _ 30 hb, frozen_of_row W _ 3 _ 30 hb, frozen_of_row W _ 4 _ 30 hb⟩, by have := h.size; omega⟩
/-- A cell of the box gets another value. -/
theorem BG.put {w : World} {g B E : Nat} {a : Option Addr} {n cap : Nat} {bs : List Int} {W : World} {k : Int} {t : ByteArray} {ad bi : Int} {ao : Option Addr} {m c : Nat} {xs : List PT} (h : BG w g B E a n cap bs W k t ad bi ao m c xs) (i : Nat) (u : Value) {k' : Int} {t' : ByteArray} {ad' bi' : Int} (hb : (W.setCell ⟨w.heap.size, i, none⟩ u).heap[w.heap.size]? = some (.cells #[.int .i64 k', .string t', .int .i64 ad', .int .i64 bi', .slice ao m c] 30 (0, 0))) : BG w g B E a n cap bs (W.setCell ⟨w.heap.size, i, none⟩ u) k' t' ad' bi' ao m c xs := by
  have h1 := h.gB
  have h2 := h.BE
  have h3 := h.Ew
  have h4 := h.size
  have e : ∀ l, l ≠ w.heap.size → (W.setCell ⟨w.heap.size, i, none⟩ u).heap[l]? = W.heap[l]? := fun l hl => Below.heap_setCell _ _ _ _ (by show l ≠ w.heap.size; exact hl)
  have hs : (W.setCell ⟨w.heap.size, i, none⟩ u).heap.size = W.heap.size := by simp [World.setCell]
  exact ⟨h1, h2, h3, h.rd.touch (touch_set' (p := w.heap.size) (q := w.heap.size + 1) _ _ _ _ (Nat.le_refl _) (Nat.lt_succ_self _)) (by omega), h.own.keep fun q hq _ _ => e _ (by have := h.nt q hq; omega), h.nt, hb, (e _ (by omega)).trans h.res, by omega, h.bent.os, h.bent.tape, h.bent.output, by rw [hs]; exact h.bent.size, fun l hl hg ho => (e l (by omega)).trans (h.bent.block l hl hg ho)⟩
/-- Its name is bent. -/
theorem BG.name {w : World} {g B E : Nat} {a : Option Addr} {n cap : Nat} {bs : List Int} {W : World} {k : Int} {t : ByteArray} {ad bi : Int} {ao : Option Addr} {m c : Nat} {xs : List PT} (h : BG w g B E a n cap bs W k t ad bi ao m c xs) {W' : World} {m2 c2 : Nat} {a2 : Option Addr} {ys : List PT} (ho : OwnPt B W' a2 m2 c2 ys) (hn : ∀ q, a2 = some q → q.block < E ∨ W.heap.size ≤ q.block) (hr : Rd W' g a n cap bs) (hb : Bent g B E W W') : BG w g B E a n cap bs (W'.setCell ⟨w.heap.size, 4, none⟩ (.slice a2 m2 c2)) k t ad bi a2 m2 c2 ys ∧ W'.heap[w.heap.size]? = some (.cells #[.int .i64 k, .string t, .int .i64 ad, .int .i64 bi, .slice ao m c] 30 (0, 0)) := by
  have h1 := h.gB
  have h2 := h.BE
  have h3 := h.Ew
  have h4 := h.size
  have h5 := hb.size
  have e : ∀ l, l ≠ w.heap.size → (W'.setCell ⟨w.heap.size, 4, none⟩ (.slice a2 m2 c2)).heap[l]? = W'.heap[l]? := fun l hl => Below.heap_setCell _ _ _ _ (by show l ≠ w.heap.size; exact hl)
  have hs : (W'.setCell ⟨w.heap.size, 4, none⟩ (.slice a2 m2 c2)).heap.size = W'.heap.size := by simp [World.setCell]
  have hbx : W'.heap[w.heap.size]? = some (.cells #[.int .i64 k, .string t, .int .i64 ad, .int .i64 bi, .slice ao m c] 30 (0, 0)) := (hb.block _ (by omega) (by omega) (by omega)).trans h.box
  have hrs : W'.heap[w.heap.size + 1]? = some (.cells #[.int .i64 0, .string ⟨#[]⟩, .int .i64 0, .int .i64 0, .slice none 0 0] 30 (0, 0)) := (hb.block _ (by omega) (by omega) (by omega)).trans h.res
  refine ⟨⟨h1, h2, h3, hr.touch (touch_set' (p := w.heap.size) (q := w.heap.size + 1) _ _ _ _ (Nat.le_refl _) (Nat.lt_succ_self _)) (by omega), ho.keep fun q hq _ _ => e _ (by have := hn q hq; omega), fun q hq => by have := hn q hq; omega, heap_setCell_same W' w.heap.size 4 _ 30 (.slice a2 m2 c2) hbx, (e _ (by omega)).trans hrs, by omega, hb.os.trans h.bent.os, hb.tape.trans h.bent.tape, hb.output.trans h.bent.output, by rw [hs]; have := h.bent.size; omega, fun l hl hg hh => (e l (by omega)).trans ((hb.block l (by omega) hg hh).trans (h.bent.block l hl hg hh))⟩, hbx⟩
/-- A bent general name. -/
def BgR (w : World) (g B E : Nat) (a : Option Addr) (n cap : Nat) (bs : List Int) (e : Ending) (w' : World) : Prop :=
  ∃ (x : GT) (ao : Option Addr) (m c : Nat) (xs : List PT), e = .returned (gnv x ao m c) ∧ x.text.size ≤ 100 ∧ m ≤ 9 ∧ OwnPt B w' ao m c xs ∧ (∀ q, ao = some q → q.block < E ∨ w.heap.size ≤ q.block) ∧ Rd w' g a n cap bs ∧ Bent g B E w w'
theorem BG.fin {w : World} {g B E : Nat} {a : Option Addr} {n cap : Nat} {bs : List Int} {W : World} {k : Int} {t : ByteArray} {ad bi : Int} {ao : Option Addr} {m c : Nat} {xs : List PT} (h : BG w g B E a n cap bs W k t ad bi ao m c xs) (ht : t.size ≤ 100) (hm : m ≤ 9) : (W.setRow (w.heap.size + 1) #[.int .i64 k, .string t, .int .i64 ad, .int .i64 bi, .slice ao m c]).heap[w.heap.size + 1]? = some (.cells #[.int .i64 k, .string t, .int .i64 ad, .int .i64 bi, .slice ao m c] 30 (0, 0)) ∧ BgR w g B E a n cap bs (.returned (.agg #[.int .i64 k, .string t, .int .i64 ad, .int .i64 bi, .slice ao m c])) (W.setRow (w.heap.size + 1) #[.int .i64 k, .string t, .int .i64 ad, .int .i64 bi, .slice ao m c]) := by
  have h1 := h.gB
  have h2 := h.BE
  have h3 := h.Ew
  have h4 := h.size
  have e : ∀ l, l ≠ w.heap.size + 1 → (W.setRow (w.heap.size + 1) #[.int .i64 k, .string t, .int .i64 ad, .int .i64 bi, .slice ao m c]).heap[l]? = W.heap[l]? := fun l hl => setRow_other _ _ _ _ hl
  have hs : (W.setRow (w.heap.size + 1) #[.int .i64 k, .string t, .int .i64 ad, .int .i64 bi, .slice ao m c]).heap.size = W.heap.size := by simp
  refine ⟨setRow_heap _ _ _ _ _ _ h.res, ⟨k, t, ad, bi⟩, ao, m, c, xs, rfl, ht, hm, h.own.keep fun q hq _ _ => e _ (by have := h.nt q hq; omega), fun q hq => by have := h.nt q hq; omega, h.rd.touch (setRow_touchG _ _ _) (by omega), h.bent.os, h.bent.tape, h.bent.output, by rw [hs]; exact h.bent.size, fun l hl hg ho => (e l (by omega)).trans (h.bent.block l hl hg ho)⟩

def bgA : Array Value := #[.int .i64 (-1), .int .i64 1, .int .i64 4294967295, .int .i64 4294967296]
theorem bgA_get (v : Nat) (h : v < 4) : ∃ x : Int, bgA[v]? = some (.int .i64 x) := by
  match v, h with
  | 0, _ | 1, _ | 2, _ | 3, _ => exact ⟨_, rfl⟩

def bgB : Array Value := #[.int .i64 (-1), .int .i64 1, .int .i64 32, .int .i64 33]
theorem bgB_get (v : Nat) (h : v < 4) : ∃ x : Int, bgB[v]? = some (.int .i64 x) := by
  match v, h with
  | 0, _ | 1, _ | 2, _ | 3, _ => exact ⟨_, rfl⟩

set_option maxRecDepth 10000 in
set_option maxHeartbeats 4000000 in
theorem bendGen_any (g B E : Nat) (a : Option Addr) (n cap : Nat) (bs : List Int) (k : Int) (t : ByteArray) (ad bi : Int) (ao : Option Addr) (m c : Nat) (xs : List PT) (w : World) (h : Rd w g a n cap bs) (ho : OwnPt B w ao m c xs) (hE : ∀ q, ao = some q → q.block < E) (hm : m ≤ 3) (ht : t.size ≤ 60) (hgB : g < B) (hBE : B ≤ E) (hEw : E ≤ w.heap.size) :
    Calls Tryz.prog 27 #[.pointer (some ⟨g, 0, none⟩), .agg #[.int .i64 k, .string t, .int .i64 ad, .int .i64 bi, .slice ao m c]] w (BgR w g B E a n cap bs) := by
  obtain ⟨wb, hwb⟩ : ∃ wb, wb = (w.alloc (.cells #[.int .i64 k, .string t, .int .i64 ad, .int .i64 bi, .slice ao m c] 30)).alloc (.cells #[.int .i64 0, .string ⟨#[]⟩, .int .i64 0, .int .i64 0, .slice none 0 0] 30) := ⟨_, rfl⟩
  have H1 : Hid (BG w g B E a n cap bs wb k t ad bi ao m c xs) := by
    have hb1 : Below w.heap.size w (w.alloc (.cells #[.int .i64 k, .string t, .int .i64 ad, .int .i64 bi, .slice ao m c] 30)) := (Below.refl _ _).alloc (Nat.le_refl _) _
    have hbb : Below w.heap.size w wb := by rw [hwb]; exact hb1.alloc (by simp) _
    have hss : wb.heap.size = w.heap.size + 2 := by rw [hwb]; simp
    refine ⟨hgB, hBE, hEw, h.kept hbb, ho.keep fun q hq _ hl => hbb.block _ hl, fun q hq => .inl (hE q hq), ?_, ?_, Nat.le_of_eq hss.symm, hbb.os, hbb.tape, hbb.output, hbb.size, fun l hl _ _ => hbb.block l hl⟩
    · rw [hwb]; exact (((Below.refl _ _).alloc (Nat.le_refl _) _).block w.heap.size (by simp)).trans (heap_alloc_new w _)
    · rw [hwb]; have := heap_alloc_new (w.alloc (.cells #[.int .i64 k, .string t, .int .i64 ad, .int .i64 bi, .slice ao m c] 30)) (.cells #[.int .i64 0, .string ⟨#[]⟩, .int .i64 0, .int .i64 0, .slice none 0 0] 30 (0, 0)); simpa using this
  have HWB : Hid (_ = _) := hwb
  have HOE : Hid (∀ q, ao = some q → q.block < E) := hE
  clear hwb h ho hE
  go_enter Tryz.func27, Tryz.ntmps27
  go_upto_region 1 with fail
  rw [← HWB.out]
  clear HWB
  go_wp2_with fail
  refine (once_any g a n cap bs 6 _ H1.out.rd (by decide) (by decide)).mono ?_
  rintro e w1 ⟨b, rfl, hp⟩
  have H2 : Hid (BG w g B E a n cap bs w1 k t ad bi ao m c xs) := H1.out.rdp hp
  clear hp H1
  rcases b with _ | _
  · go_wp2_with (first | (refine wpList_load_row rfl 30 _ rfl w.heap.size rfl 30 #[.int .i64 k, .string t, .int .i64 ad, .int .i64 bi, .slice ao m c] (0, 0) _ H2.out.box Tryz.underlying30 rfl infoSizeGn ?_) | (refine wpList_store_rowTo rfl 30 _ _ rfl rfl (w.heap.size + 1) #[.int .i64 k, .string t, .int .i64 ad, .int .i64 bi, .slice ao m c] rfl rfl 30 #[.int .i64 0, .string ⟨#[]⟩, .int .i64 0, .int .i64 0, .slice none 0 0] H2.out.res infoSizeGn rfl (by simp [Value.oneCell']) ?_))
    try simp only [Exit.inBlock, Exit.then]
    obtain ⟨hb, hR⟩ := H2.out.fin (by omega) (by omega)
    exact bodyPost_ret (results_gn rfl _ (w.heap.size + 1) rfl _ _ _ _ _ _ hb) rfl hR
  · go_wp2_with fail
    refine (below_any g a n cap bs 5 _ H2.out.rd (by decide)).mono ?_
    rintro e w2 ⟨v, rfl, hv0, hv1, hp⟩
    have H3 : Hid (BG w g B E a n cap bs w2 k t ad bi ao m c xs) := H2.out.rdp hp
    clear hp H2
    by_cases q0 : v = 0
    · subst q0
      go_wp2_with fail
      refine (below_any g a n cap bs 6 _ H3.out.rd (by decide)).mono ?_
      rintro e w3 ⟨y, rfl, hy0, hy1, hp⟩
      have H4 : Hid (BG w g B E a n cap bs w3 k t ad bi ao m c xs) := H3.out.rdp hp
      clear hp H3
      obtain ⟨⟨c0, c1, c2, c3, c4⟩, ⟨f0, f1, f2, f3, f4⟩, l0⟩ := H4.out.cells
      have H5 : Hid (BG w g B E a n cap bs (w3.setCell ⟨w.heap.size, 0, none⟩ (.int .i64 y)) y t ad bi ao m c xs) := H4.out.put 0 (.int .i64 y) (heap_setCell_same w3 w.heap.size 0 _ 30 (.int .i64 y) H4.out.box)
      go_wp2_with (first | (refine wpList_load_row rfl 30 _ rfl w.heap.size rfl 30 #[.int .i64 y, .string t, .int .i64 ad, .int .i64 bi, .slice ao m c] (0, 0) _ H5.out.box Tryz.underlying30 rfl infoSizeGn ?_) | (refine wpList_store_rowTo rfl 30 _ _ rfl rfl (w.heap.size + 1) #[.int .i64 y, .string t, .int .i64 ad, .int .i64 bi, .slice ao m c] rfl rfl 30 #[.int .i64 0, .string ⟨#[]⟩, .int .i64 0, .int .i64 0, .slice none 0 0] H5.out.res infoSizeGn rfl (by simp [Value.oneCell']) ?_))
      try simp only [Exit.inBlock, Exit.then]
      obtain ⟨hb, hR⟩ := H5.out.fin (by omega) (by omega)
      exact bodyPost_ret (results_gn rfl _ (w.heap.size + 1) rfl _ _ _ _ _ _ hb) rfl hR
    have e0 : (v == 0) = false := beq_false_of_ne q0
    by_cases q1 : v = 1
    · subst q1
      obtain ⟨⟨c0, c1, c2, c3, c4⟩, ⟨f0, f1, f2, f3, f4⟩, l0⟩ := H3.out.cells
      go_wp2_with fail
      refine (bendText_any g a n cap bs t _ H3.out.rd (by omega)).mono ?_
      rintro e w3 ⟨t2, rfl, ht2, hp⟩
      have H4 : Hid (BG w g B E a n cap bs w3 k t ad bi ao m c xs) := H3.out.rdp hp
      clear hp H3 c0 c1 c2 c3 c4 f0 f1 f2 f3 f4 l0
      obtain ⟨⟨c0, c1, c2, c3, c4⟩, ⟨f0, f1, f2, f3, f4⟩, l0⟩ := H4.out.cells
      have H5 : Hid (BG w g B E a n cap bs (w3.setCell ⟨w.heap.size, 1, none⟩ (.string t2)) k t2 ad bi ao m c xs) := H4.out.put 1 (.string t2) (heap_setCell_same w3 w.heap.size 1 _ 30 (.string t2) H4.out.box)
      go_wp2_with (first | (refine wpList_load_row rfl 30 _ rfl w.heap.size rfl 30 #[.int .i64 k, .string t2, .int .i64 ad, .int .i64 bi, .slice ao m c] (0, 0) _ H5.out.box Tryz.underlying30 rfl infoSizeGn ?_) | (refine wpList_store_rowTo rfl 30 _ _ rfl rfl (w.heap.size + 1) #[.int .i64 k, .string t2, .int .i64 ad, .int .i64 bi, .slice ao m c] rfl rfl 30 #[.int .i64 0, .string ⟨#[]⟩, .int .i64 0, .int .i64 0, .slice none 0 0] H5.out.res infoSizeGn rfl (by simp [Value.oneCell']) ?_))
      try simp only [Exit.inBlock, Exit.then]
      obtain ⟨hb, hR⟩ := H5.out.fin (by omega) (by omega)
      exact bodyPost_ret (results_gn rfl _ (w.heap.size + 1) rfl _ _ _ _ _ _ hb) rfl hR
    have e1 : (v == 1) = false := beq_false_of_ne q1
    by_cases q2 : v = 2
    · subst q2
      obtain ⟨wt, hwt⟩ : ∃ wt, wt = w2.alloc (.cells bgA 2) := ⟨_, rfl⟩
      have hbt : Below w2.heap.size w2 wt := by rw [hwt]; exact (Below.refl _ _).alloc (Nat.le_refl _) _
      have xt : wt.heap[w2.heap.size]? = some (.cells bgA 2) := by rw [hwt]; exact heap_alloc_new w2 _
      have st : w2.heap.size < wt.heap.size := (Array.getElem?_eq_some_iff.1 xt).1
      have HT : Hid (BG w g B E a n cap bs wt k t ad bi ao m c xs) := H3.out.below hbt
      have HWT : Hid (_ = _) := hwt
      clear hwt
      go_wp2_with fail
      have et : w2.alloc (.cells #[.int .i64 (-1), .int .i64 1, .int .i64 4294967295, .int .i64 4294967296] 2) = wt := HWT.out.symm
      rw [et]
      clear HWT et
      refine (below_any g a n cap bs 4 _ HT.out.rd (by decide)).mono ?_
      rintro e w5 ⟨y, rfl, hy0, hy1, hp5⟩
      obtain ⟨u, rfl⟩ := Int.eq_ofNat_of_zero_le hy0
      have hu : u < 4 := by omega
      have hui : (u : Int) < 4 := by omega
      obtain ⟨z, hz⟩ := bgA_get u hu
      have h1 := H3.out.gB
      have h2 := H3.out.BE
      have h3 := H3.out.Ew
      have h4 := H3.out.size
      have js : w5.cell? ⟨w2.heap.size, u, none⟩ = some (.int .i64 z) := (cell_of_row _ _ u _ 2 (0, 0) ((hp5.2.block _ st (.inr (by omega))).trans xt)).trans hz
      have hs5 := hp5.2.size
      have hl5 : w2.heap.size < w5.heap.size := by omega
      have H5 : Hid (BG w g B E a n cap bs w5 k t ad bi ao m c xs) := HT.out.rdp hp5
      clear hp5 hy1 hy0 xt hbt HT hz
      obtain ⟨⟨c0, c1, c2, c3, c4⟩, ⟨f0, f1, f2, f3, f4⟩, l0⟩ := H5.out.cells
      have H6 : Hid (BG w g B E a n cap bs (w5.setCell ⟨w.heap.size, 2, none⟩ (.int .i64 z)) k t z bi ao m c xs) := H5.out.put 2 (.int .i64 z) (heap_setCell_same w5 w.heap.size 2 _ 30 (.int .i64 z) H5.out.box)
      go_wp2_with (first | (refine wpList_load_row rfl 30 _ rfl w.heap.size rfl 30 #[.int .i64 k, .string t, .int .i64 z, .int .i64 bi, .slice ao m c] (0, 0) _ H6.out.box Tryz.underlying30 rfl infoSizeGn ?_) | (refine wpList_store_rowTo rfl 30 _ _ rfl rfl (w.heap.size + 1) #[.int .i64 k, .string t, .int .i64 z, .int .i64 bi, .slice ao m c] rfl rfl 30 #[.int .i64 0, .string ⟨#[]⟩, .int .i64 0, .int .i64 0, .slice none 0 0] H6.out.res infoSizeGn rfl (by simp [Value.oneCell']) ?_))
      try simp only [Exit.inBlock, Exit.then]
      obtain ⟨hb, hR⟩ := H6.out.fin (by omega) (by omega)
      exact bodyPost_ret (results_gn rfl _ (w.heap.size + 1) rfl _ _ _ _ _ _ hb) rfl hR
    have e2 : (v == 2) = false := beq_false_of_ne q2
    by_cases q3 : v = 3
    · subst q3
      obtain ⟨wt, hwt⟩ : ∃ wt, wt = w2.alloc (.cells bgB 2) := ⟨_, rfl⟩
      have hbt : Below w2.heap.size w2 wt := by rw [hwt]; exact (Below.refl _ _).alloc (Nat.le_refl _) _
      have xt : wt.heap[w2.heap.size]? = some (.cells bgB 2) := by rw [hwt]; exact heap_alloc_new w2 _
      have st : w2.heap.size < wt.heap.size := (Array.getElem?_eq_some_iff.1 xt).1
      have HT : Hid (BG w g B E a n cap bs wt k t ad bi ao m c xs) := H3.out.below hbt
      have HWT : Hid (_ = _) := hwt
      clear hwt
      go_wp2_with fail
      have et : w2.alloc (.cells #[.int .i64 (-1), .int .i64 1, .int .i64 32, .int .i64 33] 2) = wt := HWT.out.symm
      rw [et]
      clear HWT et
      refine (below_any g a n cap bs 4 _ HT.out.rd (by decide)).mono ?_
      rintro e w5 ⟨y, rfl, hy0, hy1, hp5⟩
      obtain ⟨u, rfl⟩ := Int.eq_ofNat_of_zero_le hy0
      have hu : u < 4 := by omega
      have hui : (u : Int) < 4 := by omega
      obtain ⟨z, hz⟩ := bgB_get u hu
      have h1 := H3.out.gB
      have h2 := H3.out.BE
      have h3 := H3.out.Ew
      have h4 := H3.out.size
      have js : w5.cell? ⟨w2.heap.size, u, none⟩ = some (.int .i64 z) := (cell_of_row _ _ u _ 2 (0, 0) ((hp5.2.block _ st (.inr (by omega))).trans xt)).trans hz
      have hs5 := hp5.2.size
      have hl5 : w2.heap.size < w5.heap.size := by omega
      have H5 : Hid (BG w g B E a n cap bs w5 k t ad bi ao m c xs) := HT.out.rdp hp5
      clear hp5 hy1 hy0 xt hbt HT hz
      obtain ⟨⟨c0, c1, c2, c3, c4⟩, ⟨f0, f1, f2, f3, f4⟩, l0⟩ := H5.out.cells
      have H6 : Hid (BG w g B E a n cap bs (w5.setCell ⟨w.heap.size, 3, none⟩ (.int .i64 z)) k t ad z ao m c xs) := H5.out.put 3 (.int .i64 z) (heap_setCell_same w5 w.heap.size 3 _ 30 (.int .i64 z) H5.out.box)
      go_wp2_with (first | (refine wpList_load_row rfl 30 _ rfl w.heap.size rfl 30 #[.int .i64 k, .string t, .int .i64 ad, .int .i64 z, .slice ao m c] (0, 0) _ H6.out.box Tryz.underlying30 rfl infoSizeGn ?_) | (refine wpList_store_rowTo rfl 30 _ _ rfl rfl (w.heap.size + 1) #[.int .i64 k, .string t, .int .i64 ad, .int .i64 z, .slice ao m c] rfl rfl 30 #[.int .i64 0, .string ⟨#[]⟩, .int .i64 0, .int .i64 0, .slice none 0 0] H6.out.res infoSizeGn rfl (by simp [Value.oneCell']) ?_))
      try simp only [Exit.inBlock, Exit.then]
      obtain ⟨hb, hR⟩ := H6.out.fin (by omega) (by omega)
      exact bodyPost_ret (results_gn rfl _ (w.heap.size + 1) rfl _ _ _ _ _ _ hb) rfl hR
    have e3 : (v == 3) = false := beq_false_of_ne q3
    obtain ⟨⟨c0, c1, c2, c3, c4⟩, ⟨f0, f1, f2, f3, f4⟩, l0⟩ := H3.out.cells
    have hbnd := bend_any g B E a n cap bs ao m c xs w2 H3.out.rd H3.out.own HOE.out hm hgB hBE (by have := H3.out.Ew; have := H3.out.size; omega)
    unfold nmv at hbnd
    go_wp2_with fail
    refine hbnd.mono ?_
    rintro e w3 ⟨m2, cc, a2, ys, rfl, hm2, ho2, hn2, hr2, hb2⟩
    unfold nmv
    obtain ⟨h5, hbx⟩ := H3.out.name ho2 hn2 hr2 hb2
    have H5 : Hid (BG w g B E a n cap bs (w3.setCell ⟨w.heap.size, 4, none⟩ (.slice a2 m2 cc)) k t ad bi a2 m2 cc ys) := h5
    have hfz : w3.frozen? ⟨w.heap.size, 4, none⟩ = false := frozen_of_row w3 _ 4 _ 30 hbx
    have hc4 : w3.cell? ⟨w.heap.size, 4, none⟩ = some (.slice ao m c) := (cell_of_row _ _ 4 _ 30 (0, 0) hbx).trans rfl
    have hl4 : w.heap.size < w3.heap.size := (Array.getElem?_eq_some_iff.1 hbx).1
    clear h5 ho2 hn2 hr2 hb2 hbx hbnd H3 c0 c1 c2 c3 c4 f0 f1 f2 f3 f4 l0
    go_wp2_with (first | (refine wpList_load_row rfl 30 _ rfl w.heap.size rfl 30 #[.int .i64 k, .string t, .int .i64 ad, .int .i64 bi, .slice a2 m2 cc] (0, 0) _ H5.out.box Tryz.underlying30 rfl infoSizeGn ?_) | (refine wpList_store_rowTo rfl 30 _ _ rfl rfl (w.heap.size + 1) #[.int .i64 k, .string t, .int .i64 ad, .int .i64 bi, .slice a2 m2 cc] rfl rfl 30 #[.int .i64 0, .string ⟨#[]⟩, .int .i64 0, .int .i64 0, .slice none 0 0] H5.out.res infoSizeGn rfl (by simp [Value.oneCell']) ?_))
    try simp only [Exit.inBlock, Exit.then]
    obtain ⟨hb, hR⟩ := H5.out.fin (by omega) (by omega)
    exact bodyPost_ret (results_gn rfl _ (w.heap.size + 1) rfl _ _ _ _ _ _ hb) rfl hR

end Go.Proofs.YtoncodoimnideaaGreatDoor

