import Derived.Test.YtjkkokjojaknkaaDoorG11
namespace Go.Proofs.YtjkkokjojaknkaaDoor
open Go.RowKit

theorem Touch.news {lo hi p q : Nat} {w W W' : World} (h : Touch lo hi w W) (t : Touch p q W W') (hp : w.heap.size ≤ p) : Touch lo hi w W' :=
  ⟨t.os.trans h.os, t.tape.trans h.tape, t.output.trans h.output, Nat.le_trans h.size t.size, fun k hk ho => (t.block k (Nat.lt_of_lt_of_le hk h.size) (.inl (by omega))).trans (h.block k hk ho)⟩
theorem KidsAt.touch {d lo p q : Nat} {w w' : World} {a : Option Addr} {n c : Nat} {xs : List It} {vs : List Value} (h : KidsAt d lo w a n c xs vs) (t : Touch p q w w') (hq : q ≤ lo) : KidsAt d lo w' a n c xs vs := by
  have hrow : w'.ownsRow lo 26 5 (.slice a n c) n vs := by
    refine ⟨h.row.1, ?_⟩
    rcases h.row.2 with hn | ⟨g, cap, cur, hv, hbb, hgg, rest⟩
    · exact .inl hn
    · exact .inr ⟨g, cap, cur, hv, hbb, (t.block g (Array.getElem?_eq_some_iff.1 hgg).1 (.inr (by omega))).trans hgg, rest⟩
  refine ⟨h.len, hrow, fun g hg => ?_⟩
  subst hg
  have hlt := h.row.lt g rfl
  exact ((h.pre g rfl).move (ownKids_moves d) (fun j _ => World.cell?_of_block (a := ⟨g, j, none⟩) (t.block g hlt.2 (.inr (by omega)))) (.inl (.inr hq)) t).wide t.size

/-- An item more, where the block of the reader may have turned. -/
theorem KidsAt.more2 {d lo s3 p0 q0 : Nat} {w w4 w5 : World} {a : Option Addr} {n c : Nat} {xs : List It} {vs : List Value} {x : It} {ab : Option Addr} {nb cb : Nat} {ak : Option Addr} {nk ck M g5 c5 : Nat}
    (h : KidsAt d lo w a n c xs vs) (hlo : lo ≤ w.heap.size) (t34 : Touch p0 q0 w w4) (hq0 : q0 ≤ lo) (m1 : w.heap.size ≤ M) (m2 : M ≤ s3) (s4 : s3 ≤ w4.heap.size) (ob : OwnB w.heap.size M w4 ab nb cb x.body) (ok : OwnKids d M s3 w4 ak nk x.kids)
    (hown : w5.ownsRow lo 26 5 (.slice (some ⟨g5, 0, none⟩) (n + 1) c5) (n + 1) (vs ++ [.int .i64 x.cls, .int .i64 x.tag, .bool x.cons, .slice ab nb cb, .slice ak nk ck]))
    (hg : w4.grownBy w5 (Value.slice a n c).ownBlock) (hl : (Value.slice a n c).ownBlock = some g5 ∨ g5 = w4.heap.size) :
    KidsAt d lo w5 (some ⟨g5, 0, none⟩) (n + 1) c5 (xs ++ [x]) (vs ++ [.int .i64 x.cls, .int .i64 x.tag, .bool x.cons, .slice ab nb cb, .slice ak nk ck]) := by
  have hvl : vs.length = n * 5 := h.row.1
  have hxn := h.len
  have s34 := t34.size
  have s5 := hg.size
  have ex : ∀ k, k < n → (xs ++ [x]).getD k default = xs.getD k default := fun k hk => by simp [List.getElem?_append, show k < xs.length by omega]
  have el : (xs ++ [x]).getD n default = x := by rw [← hxn]; simp
  have nc : ∀ i, i < 5 → w5.cell? ⟨g5, n * 5 + i, none⟩ = [Value.int .i64 x.cls, .int .i64 x.tag, .bool x.cons, .slice ab nb cb, .slice ak nk ck][i]? := fun i hi' => by rw [hown.cellAt _ (by omega), List.getElem?_append_right (by omega), hvl, Nat.add_sub_cancel_left]
  refine ⟨by simp [hxn], hown, fun g hgg => ?_⟩
  obtain rfl : g5 = g := by simpa using hgg
  have step : ∀ p q, Touch p q w4 w5 → (q ≤ w.heap.size ∨ w4.heap.size ≤ p) → (g5 < w.heap.size ∨ w4.heap.size ≤ g5) → OwnPre (OwnKids d) lo w.heap.size w5 g5 n xs → OwnPre (OwnKids d) lo w5.heap.size w5 g5 (n + 1) (xs ++ [x]) := by
    intro p q t5 hpq hgs hp
    have hp2 := ownPre_congr hp ex
    refine (OwnPre.more' (s := w.heap.size) (hi' := s3) (M := M) hp2 (Nat.le_refl _) (by omega) hlo m1 m2 (by rw [el]; exact nc 0 (by decide)) (by rw [el]; exact nc 1 (by decide)) (by rw [el]; exact nc 2 (by decide)) (nc 3 (by decide)) (nc 4 (by decide)) ?_ ?_).wide (by omega)
    · rw [el]; exact ob.touch (by omega) t5
    · rw [el]; exact ownKids_moves d _ _ _ _ _ _ _ _ _ ok (by omega) t5
  rcases h.at0 with rfl | ⟨g, rfl, hg1, hg2⟩
  · have hn0 : n = 0 := by
      rcases h.row.2 with ⟨_, h0⟩ | ⟨g, cap', cur, hv, _⟩
      · exact h0
      · cases hv
    subst hn0
    have e5 : g5 = w4.heap.size := by rcases hl with hl | hl; exact (by simp [Value.ownBlock] at hl); exact hl
    have hb5 : Below w4.heap.size w4 w5 := (Below.refl _ _).grown hg (Nat.le_refl _) (fun k hk => by simp [Value.ownBlock] at hk)
    exact step w4.heap.size w4.heap.size (Touch.of_below hb5) (.inr (Nat.le_refl _)) (by omega) (ownPre_zero _ _ _ _ _)
  · have hg5'' : g5 = g ∨ g5 = w4.heap.size := by
      rcases hl with hl | hl
      · simp [Value.ownBlock] at hl; exact .inl hl.symm
      · exact .inr hl
    have t5 : Touch g (g + 1) w4 w5 := ⟨hg.os, hg.tape, hg.output, hg.size, fun i hi' ho => hg.block i hi' (by simp [Value.ownBlock]; omega)⟩
    have hbg : w4.heap[g]? = w.heap[g]? := t34.block g hg2 (.inr (by omega))
    have HP3 : OwnPre (OwnKids d) lo w.heap.size w4 g n xs := OwnPre.move (ownKids_moves d) (h.pre g rfl) (fun j hj => World.cell?_of_block (a := ⟨g, j, none⟩) hbg) (.inl (.inr hq0)) t34
    have hor4 : w4.ownsRow lo 26 5 (.slice (some ⟨g, 0, none⟩) n c) n vs := (h.touch t34 hq0).row
    have HP4 : OwnPre (OwnKids d) lo w.heap.size w5 g5 n xs := HP3.regrow (ownKids_moves d) (fun j hj => by rw [hown.cellAt j (by omega), hor4.cellAt j (by omega), List.getElem?_append_left (by omega)]) (by omega) t5
    exact step g (g + 1) t5 (by omega) (by omega) HP4
theorem KidsAt.grew {d lo p q : Nat} {w w5 : World} {a : Option Addr} {n c : Nat} {xs : List It} {vs : List Value} {w0 : World} (h : KidsAt d lo w a n c xs vs) (t : Touch p q w0 w) (hlo : w0.heap.size ≤ lo) (hg : w.grownBy w5 (Value.slice a n c).ownBlock) : Touch p q w0 w5 :=
  ⟨hg.os.trans t.os, hg.tape.trans t.tape, hg.output.trans t.output, Nat.le_trans t.size hg.size, fun k hk ho => (hg.block k (Nat.lt_of_lt_of_le hk t.size) (fun e => by have := h.block k e.symm; omega)).trans (t.block k hk ho)⟩

/-- Any item's value. -/
def ItVal (v : Value) : Prop := ∃ (i j : Int) (b : Bool) (a3 : Option Addr) (n3 c3 : Nat) (a4 : Option Addr) (n4 c4 : Nat), v = .agg #[.int .i64 i, .int .i64 j, .bool b, .slice a3 n3 c3, .slice a4 n4 c4]
/-- What the specification's reader of an item answers. -/
def SItPost (RB r n cap : Nat) (a : Option Addr) (lax : Bool) (pl : Int) (R : Rs It) (w : World) (ev : Ending) (w' : World) : Prop := Touch RB (RB + 1) w w' ∧ match R with
  | .ok x nx => (∃ ab nb cb ak nk ck M, ev = .returned (.tuple #[itv x ab nb cb ak nk ck, .int .i64 (nx : Int)]) ∧ w.heap.size ≤ M ∧ M ≤ w'.heap.size ∧ OwnB w.heap.size M w' ab nb cb x.body ∧ OwnKids r M w'.heap.size w' ak nk x.kids) ∧ RBox RB w' a n cap lax 0 pl
  | .no c p => (∃ v u, ev = .returned (.tuple #[v, .int .i64 u]) ∧ ItVal v) ∧ RBox RB w' a n cap lax c p
def SItemC (RB : Nat) (lax : Bool) (bs : List Int) (n cap : Nat) (a : Option Addr) (r : Nat) : Prop := ∀ (p e : Nat) (pl : Int) (w : World), Row w a n bs → In a n 0 RB → RBox RB w a n cap lax 0 pl → p ≤ e → e ≤ n →
    Calls Tryd.prog 44 #[.pointer (some ⟨RB, 0, none⟩), .int .i64 (p : Int), .int .i64 (e : Int), .int .i64 (13 - (r : Int))] w fun ev w' => SItPost RB r n cap a lax pl (itemR lax bs r p e) w ev w'
def SKPost (RB r n cap : Nat) (a : Option Addr) (lax : Bool) (pl : Int) (cl t : Int) (co : Bool) (R : Rs (List It)) (w : World) (ev : Ending) (w' : World) : Prop := Touch RB (RB + 1) w w' ∧ match R with
  | .ok ks nx => (∃ ak nk ck lo, ev = .returned (.tuple #[.agg #[.int .i64 cl, .int .i64 t, .bool co, .slice none 0 0, .slice ak nk ck], .int .i64 (nx : Int)]) ∧ w.heap.size ≤ lo ∧ lo ≤ w'.heap.size ∧ OwnKids (r + 1) lo w'.heap.size w' ak nk ks) ∧ RBox RB w' a n cap lax 0 pl
  | .no c p => (∃ v u, ev = .returned (.tuple #[v, .int .i64 u]) ∧ ItVal v) ∧ RBox RB w' a n cap lax c p

set_option maxRecDepth 10000 in
set_option maxHeartbeats 8000000 in
theorem sopen_any (RB : Nat) (lax : Bool) (bs : List Int) (n cap : Nat) (a : Option Addr) (r : Nat) (hr : r + 1 ≤ 12) (IH : SItemC RB lax bs n cap a r) (cl t : Int) (co : Bool) (q0 e : Nat) (pl : Int) (w : World) (h : Row w a n bs) (hin : In a n 0 RB) (hbx : RBox RB w a n cap lax 0 pl) (hq0 : q0 ≤ e) (he : e ≤ n) (hn : n ≤ 20000) (D : Int) (hD : D + 1 = 13 - (r : Int)) :
    Calls Tryd.prog 73 #[.pointer (some ⟨RB, 0, none⟩), .agg #[.int .i64 cl, .int .i64 t, .bool co, .slice none 0 0, .slice none 0 0], .int .i64 (q0 : Int), .int .i64 (e : Int), .int .i64 D] w fun ev w' => SKPost RB r n cap a lax pl cl t co (openR (fun i => itemR lax bs r i e) bs e (e - q0 + 1) [] q0) w ev w' := by
  obtain ⟨i0, hi, hz0, hz1, hz2⟩ := info_parts Tryd.infoItem
  have HR : Hid (Row w a n bs) := h
  have hd0 : 0 ≤ D := by omega
  have hd1 : D ≤ 12 := by omega
  have HD : Hid (D + 1 = 13 - (r : Int)) := hD
  have hRBw := hbx.lt
  obtain ⟨f, hf⟩ : ∃ f : Nat → Rs It, f = fun i => itemR lax bs r i e := ⟨_, rfl⟩
  rw [← hf]
  have HF : Hid (f = fun i => itemR lax bs r i e) := hf
  clear hf hD
  obtain ⟨R, hR⟩ : ∃ R, R = openR f bs e (e - q0 + 1) [] q0 := ⟨_, rfl⟩
  rw [← hR]
  have HRH : Hid (R = openR f bs e (e - q0 + 1) [] q0) := hR
  clear hR
  obtain ⟨b0, b1⟩ := two_blocks w (.cells #[.int .i64 cl, .int .i64 t, .bool co, .slice none 0 0, .slice none 0 0] 26) (.cells #[.int .i64 0, .int .i64 0, .bool false, .slice none 0 0, .slice none 0 0] 26)
  have hB0 : Below w.heap.size w ((w.alloc (.cells #[.int .i64 cl, .int .i64 t, .bool co, .slice none 0 0, .slice none 0 0] 26)).alloc (.cells #[.int .i64 0, .int .i64 0, .bool false, .slice none 0 0, .slice none 0 0] 26)) := ((Below.refl _ _).alloc (Nat.le_refl _) _).alloc (by simp) _
  have hS0 : ((w.alloc (.cells #[.int .i64 cl, .int .i64 t, .bool co, .slice none 0 0, .slice none 0 0] 26)).alloc (.cells #[.int .i64 0, .int .i64 0, .bool false, .slice none 0 0, .slice none 0 0] 26)).heap.size = w.heap.size + 2 := by simp
  have hbx0 := hbx.kept hB0
  clear h hbx
  go_enter Tryd.func73, Tryd.ntmps73
  go_wp2_with fail
  obtain ⟨W0, hW0⟩ : ∃ W0, W0 = ((w.alloc (.cells #[.int .i64 cl, .int .i64 t, .bool co, .slice none 0 0, .slice none 0 0] 26)).alloc (.cells #[.int .i64 0, .int .i64 0, .bool false, .slice none 0 0, .slice none 0 0] 26)) := ⟨_, rfl⟩
  rw [← hW0] at b0 b1 hB0 hS0 hbx0 ⊢
  clear hW0
  go_loopw [2] (fun i wr => ∃ (m q : Nat) (a2 : Option Addr) (k c : Nat) (xs : List It) (vs : List Value), i = .int .i64 (q : Int) ∧ q ≤ e ∧ e + 1 ≤ q + m ∧ k ≤ q ∧ KidsAt r (w.heap.size + 2) wr a2 k c xs vs ∧ wr.heap[w.heap.size]? = some (.cells #[.int .i64 cl, .int .i64 t, .bool co, .slice none 0 0, .slice a2 k c] 26 (0, 0)) ∧ wr.heap[w.heap.size + 1]? = some (.cells #[.int .i64 0, .int .i64 0, .bool false, .slice none 0 0, .slice none 0 0] 26 (0, 0)) ∧ RBox RB wr a n cap lax 0 pl ∧ Touch RB (RB + 1) w wr ∧ w.heap.size + 2 ≤ wr.heap.size ∧ R = openR f bs e m xs q) (fun i _ => e + 1 - (intOf i).toNat)
  case atStart => exact ⟨e - q0 + 1, q0, none, 0, 0, [], [], rfl, hq0, by omega, by omega, kidsAt_nil _ _ _, b0, b1, hbx0, Touch.of_below hB0, by omega, HRH.out⟩
  case round =>
    obtain ⟨m, q, a2, k, c, xs, vs, rfl, hqe, hem, hkq, hka, hg0, hg1, hbox, htw, hsr, hRq⟩ := hrel
    have EG : Hid (_ = _) := hg0
    have E8 : Hid (_ = _) := hg1
    have EB : Hid (RBox RB wr a n cap lax 0 pl) := hbox
    have TW : Hid (Touch RB (RB + 1) w wr) := htw
    have HRQ : Hid (R = openR f bs e m xs q) := hRq
    have HKA : Hid (_) := hka
    have hrow : Hid (Row wr a n bs) := HR.out.touch hin (.inl (Nat.le_refl _)) htw
    obtain ⟨bc0, bc1, bc2, bc3⟩ := hbox.cells
    clear hg0 hg1 hbox htw hRq hka
    obtain ⟨m, rfl⟩ : ∃ m2, m = m2 + 1 := ⟨m - 1, by omega⟩
    have FA : ∀ (c p : Int), Hid (Calls Tryd.prog 45 #[.pointer (some ⟨RB, 0, none⟩), .int .i64 c, .int .i64 p] wr fun e w' => e = .returned (.tuple #[]) ∧ RBox RB w' a n cap lax c p ∧ Touch RB (RB + 1) wr w') := fun c p => fail_any RB a n cap lax pl c p wr EB.out
    have FX : ∀ w1, Touch RB (RB + 1) wr w1 → Hid (w1.heap[w.heap.size]? = some (.cells #[.int .i64 cl, .int .i64 t, .bool co, .slice none 0 0, .slice a2 k c] 26 (0, 0)) ∧ w1.heap[w.heap.size + 1]? = some (.cells #[.int .i64 0, .int .i64 0, .bool false, .slice none 0 0, .slice none 0 0] 26 (0, 0))) := fun w1 t1 => by
      refine ⟨(t1.block _ (by omega) (.inr (by omega))).trans EG.out, (t1.block _ (by omega) (.inr (by omega))).trans E8.out⟩
    by_cases h0 : q = e
    · subst h0
      have hlt : ¬ (q : Int) < (q : Int) := by omega
      have hge : (q : Int) ≤ (q : Int) := by omega
      have hfin : Hid (R = .no 1 q) := HRQ.out.trans (openR_no (by unfold endR; rw [if_pos rfl]))
      go_upto_region 11 with (go_at_call 45; refine (FA 1 (q : Int)).out.mono ?_; rintro e w1 ⟨rfl, hbx1, t1⟩)
      obtain ⟨x3, x4⟩ := (FX w1 t1).out
      have hs1 := t1.size
      have gc0 : w1.cell? ⟨w.heap.size, 0, none⟩ = some (.int .i64 cl) := (cell_of_row _ (w.heap.size) 0 _ 26 (0, 0) x3).trans rfl
      have gc1 : w1.cell? ⟨w.heap.size, 1, none⟩ = some (.int .i64 t) := (cell_of_row _ (w.heap.size) 1 _ 26 (0, 0) x3).trans rfl
      have gc2 : w1.cell? ⟨w.heap.size, 2, none⟩ = some (.bool co) := (cell_of_row _ (w.heap.size) 2 _ 26 (0, 0) x3).trans rfl
      have gc3 : w1.cell? ⟨w.heap.size, 3, none⟩ = some (.slice none 0 0) := (cell_of_row _ (w.heap.size) 3 _ 26 (0, 0) x3).trans rfl
      have gc4 : w1.cell? ⟨w.heap.size, 4, none⟩ = some (.slice a2 k c) := (cell_of_row _ (w.heap.size) 4 _ 26 (0, 0) x3).trans rfl
      have zc0 : w1.cell? ⟨w.heap.size + 1, 0, none⟩ = some (.int .i64 0) := (cell_of_row _ (w.heap.size + 1) 0 _ 26 (0, 0) x4).trans rfl
      have zf0 : w1.frozen? ⟨w.heap.size + 1, 0, none⟩ = false := frozen_of_row w1 (w.heap.size + 1) 0 _ 26 x4
      have zc1 : w1.cell? ⟨w.heap.size + 1, 1, none⟩ = some (.int .i64 0) := (cell_of_row _ (w.heap.size + 1) 1 _ 26 (0, 0) x4).trans rfl
      have zf1 : w1.frozen? ⟨w.heap.size + 1, 1, none⟩ = false := frozen_of_row w1 (w.heap.size + 1) 1 _ 26 x4
      have zc2 : w1.cell? ⟨w.heap.size + 1, 2, none⟩ = some (.bool false) := (cell_of_row _ (w.heap.size + 1) 2 _ 26 (0, 0) x4).trans rfl
      have zf2 : w1.frozen? ⟨w.heap.size + 1, 2, none⟩ = false := frozen_of_row w1 (w.heap.size + 1) 2 _ 26 x4
      have zc3 : w1.cell? ⟨w.heap.size + 1, 3, none⟩ = some (.slice none 0 0) := (cell_of_row _ (w.heap.size + 1) 3 _ 26 (0, 0) x4).trans rfl
      have zf3 : w1.frozen? ⟨w.heap.size + 1, 3, none⟩ = false := frozen_of_row w1 (w.heap.size + 1) 3 _ 26 x4
      have zc4 : w1.cell? ⟨w.heap.size + 1, 4, none⟩ = some (.slice none 0 0) := (cell_of_row _ (w.heap.size + 1) 4 _ 26 (0, 0) x4).trans rfl
      have zf4 : w1.frozen? ⟨w.heap.size + 1, 4, none⟩ = false := frozen_of_row w1 (w.heap.size + 1) 4 _ 26 x4
      have X4 : Hid (_ = _) := x4
      clear x3 x4
      go_wp2
      have q0 := heap_setCell_same (w1) (w.heap.size + 1) 0 _ 26 (.int .i64 cl) X4.out
      have q1 := heap_setCell_same ((w1).setCell ⟨w.heap.size + 1, 0, none⟩ (.int .i64 cl)) (w.heap.size + 1) 1 _ 26 (.int .i64 t) q0
      have q2 := heap_setCell_same (((w1).setCell ⟨w.heap.size + 1, 0, none⟩ (.int .i64 cl)).setCell ⟨w.heap.size + 1, 1, none⟩ (.int .i64 t)) (w.heap.size + 1) 2 _ 26 (.bool co) q1
      have q3 := heap_setCell_same ((((w1).setCell ⟨w.heap.size + 1, 0, none⟩ (.int .i64 cl)).setCell ⟨w.heap.size + 1, 1, none⟩ (.int .i64 t)).setCell ⟨w.heap.size + 1, 2, none⟩ (.bool co)) (w.heap.size + 1) 3 _ 26 (.slice none 0 0) q2
      have q4 := heap_setCell_same (((((w1).setCell ⟨w.heap.size + 1, 0, none⟩ (.int .i64 cl)).setCell ⟨w.heap.size + 1, 1, none⟩ (.int .i64 t)).setCell ⟨w.heap.size + 1, 2, none⟩ (.bool co)).setCell ⟨w.heap.size + 1, 3, none⟩ (.slice none 0 0)) (w.heap.size + 1) 4 _ 26 (.slice a2 k c) q3
      have tt : Touch (w.heap.size + 1) (w.heap.size + 1 + 1) w1 ((((((w1).setCell ⟨w.heap.size + 1, 0, none⟩ (.int .i64 cl)).setCell ⟨w.heap.size + 1, 1, none⟩ (.int .i64 t)).setCell ⟨w.heap.size + 1, 2, none⟩ (.bool co)).setCell ⟨w.heap.size + 1, 3, none⟩ (.slice none 0 0)).setCell ⟨w.heap.size + 1, 4, none⟩ (.slice a2 k c)) := ((((touch_set _ _ _ _ (by omega) (by omega)).trans (touch_set _ _ _ _ (by omega) (by omega))).trans (touch_set _ _ _ _ (by omega) (by omega))).trans (touch_set _ _ _ _ (by omega) (by omega))).trans (touch_set _ _ _ _ (by omega) (by omega))
      have tse : ((((((w1).setCell ⟨w.heap.size + 1, 0, none⟩ (.int .i64 cl)).setCell ⟨w.heap.size + 1, 1, none⟩ (.int .i64 t)).setCell ⟨w.heap.size + 1, 2, none⟩ (.bool co)).setCell ⟨w.heap.size + 1, 3, none⟩ (.slice none 0 0)).setCell ⟨w.heap.size + 1, 4, none⟩ (.slice a2 k c)).heap.size = w1.heap.size := by simp
      try simp only [Exit.inBlock, Exit.then]
      refine bodyPost_ret (results_item2 rfl _ (w.heap.size + 1) rfl _ _ _ _ _ _ q4) rfl ?_
      refine ⟨(TW.out.trans t1).news tt (by omega), ?_⟩
      rw [hfin.out]
      exact ⟨⟨_, _, rfl, _, _, _, _, _, _, _, _, _, rfl⟩, (tt.block RB (by omega) (.inl (by omega))).trans hbx1⟩
    have hlt : (q : Int) < (e : Int) := by omega
    have hge : ¬ (e : Int) ≤ (q : Int) := by omega
    obtain ⟨b, off, rfl, hb, hcq⟩ := hrow.out.get q (by omega)
    obtain ⟨x0, hx0⟩ : ∃ x0, x0 = bs.getD q 0 := ⟨_, rfl⟩
    rw [← hx0] at hcq
    have HX : Hid (x0 = bs.getD q 0) := hx0
    have hqn : (q : Int) < (n : Int) := by omega
    clear hx0
    by_cases h1 : x0 = 0
    · subst h1
      by_cases h2 : q + 1 = e
      · subst h2
        have hfin : Hid (R = .no 1 (q + 1)) := HRQ.out.trans (openR_no (by unfold endR; rw [if_neg (by omega), if_pos HX.out.symm, if_pos rfl]))
        have hge2 : ((q + 1 : Nat) : Int) ≤ (q : Int) + 1 := by omega
        go_upto_region 4 with (go_at_call 45; refine (FA 1 ((q + 1 : Nat) : Int)).out.mono ?_; rintro e w1 ⟨rfl, hbx1, t1⟩)
        obtain ⟨x3, x4⟩ := (FX w1 t1).out
        have hs1 := t1.size
        have gc0 : w1.cell? ⟨w.heap.size, 0, none⟩ = some (.int .i64 cl) := (cell_of_row _ (w.heap.size) 0 _ 26 (0, 0) x3).trans rfl
        have gc1 : w1.cell? ⟨w.heap.size, 1, none⟩ = some (.int .i64 t) := (cell_of_row _ (w.heap.size) 1 _ 26 (0, 0) x3).trans rfl
        have gc2 : w1.cell? ⟨w.heap.size, 2, none⟩ = some (.bool co) := (cell_of_row _ (w.heap.size) 2 _ 26 (0, 0) x3).trans rfl
        have gc3 : w1.cell? ⟨w.heap.size, 3, none⟩ = some (.slice none 0 0) := (cell_of_row _ (w.heap.size) 3 _ 26 (0, 0) x3).trans rfl
        have gc4 : w1.cell? ⟨w.heap.size, 4, none⟩ = some (.slice a2 k c) := (cell_of_row _ (w.heap.size) 4 _ 26 (0, 0) x3).trans rfl
        have zc0 : w1.cell? ⟨w.heap.size + 1, 0, none⟩ = some (.int .i64 0) := (cell_of_row _ (w.heap.size + 1) 0 _ 26 (0, 0) x4).trans rfl
        have zf0 : w1.frozen? ⟨w.heap.size + 1, 0, none⟩ = false := frozen_of_row w1 (w.heap.size + 1) 0 _ 26 x4
        have zc1 : w1.cell? ⟨w.heap.size + 1, 1, none⟩ = some (.int .i64 0) := (cell_of_row _ (w.heap.size + 1) 1 _ 26 (0, 0) x4).trans rfl
        have zf1 : w1.frozen? ⟨w.heap.size + 1, 1, none⟩ = false := frozen_of_row w1 (w.heap.size + 1) 1 _ 26 x4
        have zc2 : w1.cell? ⟨w.heap.size + 1, 2, none⟩ = some (.bool false) := (cell_of_row _ (w.heap.size + 1) 2 _ 26 (0, 0) x4).trans rfl
        have zf2 : w1.frozen? ⟨w.heap.size + 1, 2, none⟩ = false := frozen_of_row w1 (w.heap.size + 1) 2 _ 26 x4
        have zc3 : w1.cell? ⟨w.heap.size + 1, 3, none⟩ = some (.slice none 0 0) := (cell_of_row _ (w.heap.size + 1) 3 _ 26 (0, 0) x4).trans rfl
        have zf3 : w1.frozen? ⟨w.heap.size + 1, 3, none⟩ = false := frozen_of_row w1 (w.heap.size + 1) 3 _ 26 x4
        have zc4 : w1.cell? ⟨w.heap.size + 1, 4, none⟩ = some (.slice none 0 0) := (cell_of_row _ (w.heap.size + 1) 4 _ 26 (0, 0) x4).trans rfl
        have zf4 : w1.frozen? ⟨w.heap.size + 1, 4, none⟩ = false := frozen_of_row w1 (w.heap.size + 1) 4 _ 26 x4
        have X4 : Hid (_ = _) := x4
        clear x3 x4
        go_wp2
        have q0 := heap_setCell_same (w1) (w.heap.size + 1) 0 _ 26 (.int .i64 cl) X4.out
        have q1 := heap_setCell_same ((w1).setCell ⟨w.heap.size + 1, 0, none⟩ (.int .i64 cl)) (w.heap.size + 1) 1 _ 26 (.int .i64 t) q0
        have q2 := heap_setCell_same (((w1).setCell ⟨w.heap.size + 1, 0, none⟩ (.int .i64 cl)).setCell ⟨w.heap.size + 1, 1, none⟩ (.int .i64 t)) (w.heap.size + 1) 2 _ 26 (.bool co) q1
        have q3 := heap_setCell_same ((((w1).setCell ⟨w.heap.size + 1, 0, none⟩ (.int .i64 cl)).setCell ⟨w.heap.size + 1, 1, none⟩ (.int .i64 t)).setCell ⟨w.heap.size + 1, 2, none⟩ (.bool co)) (w.heap.size + 1) 3 _ 26 (.slice none 0 0) q2
        have q4 := heap_setCell_same (((((w1).setCell ⟨w.heap.size + 1, 0, none⟩ (.int .i64 cl)).setCell ⟨w.heap.size + 1, 1, none⟩ (.int .i64 t)).setCell ⟨w.heap.size + 1, 2, none⟩ (.bool co)).setCell ⟨w.heap.size + 1, 3, none⟩ (.slice none 0 0)) (w.heap.size + 1) 4 _ 26 (.slice a2 k c) q3
        have tt : Touch (w.heap.size + 1) (w.heap.size + 1 + 1) w1 ((((((w1).setCell ⟨w.heap.size + 1, 0, none⟩ (.int .i64 cl)).setCell ⟨w.heap.size + 1, 1, none⟩ (.int .i64 t)).setCell ⟨w.heap.size + 1, 2, none⟩ (.bool co)).setCell ⟨w.heap.size + 1, 3, none⟩ (.slice none 0 0)).setCell ⟨w.heap.size + 1, 4, none⟩ (.slice a2 k c)) := ((((touch_set _ _ _ _ (by omega) (by omega)).trans (touch_set _ _ _ _ (by omega) (by omega))).trans (touch_set _ _ _ _ (by omega) (by omega))).trans (touch_set _ _ _ _ (by omega) (by omega))).trans (touch_set _ _ _ _ (by omega) (by omega))
        have tse : ((((((w1).setCell ⟨w.heap.size + 1, 0, none⟩ (.int .i64 cl)).setCell ⟨w.heap.size + 1, 1, none⟩ (.int .i64 t)).setCell ⟨w.heap.size + 1, 2, none⟩ (.bool co)).setCell ⟨w.heap.size + 1, 3, none⟩ (.slice none 0 0)).setCell ⟨w.heap.size + 1, 4, none⟩ (.slice a2 k c)).heap.size = w1.heap.size := by simp
        try simp only [Exit.inBlock, Exit.then]
        refine bodyPost_ret (results_item2 rfl _ (w.heap.size + 1) rfl _ _ _ _ _ _ q4) rfl ?_
        refine ⟨(TW.out.trans t1).news tt (by omega), ?_⟩
        rw [hfin.out]
        exact ⟨⟨_, _, rfl, _, _, _, _, _, _, _, _, _, rfl⟩, (tt.block RB (by omega) (.inl (by omega))).trans hbx1⟩
      · obtain ⟨b2, off2, e2, hb2, hc2⟩ := hrow.out.get (q + 1) (by omega)
        simp only [Option.some.injEq, Addr.mk.injEq, and_true] at e2
        obtain ⟨rfl, rfl⟩ := e2
        obtain ⟨y, hy⟩ : ∃ y, y = bs.getD (q + 1) 0 := ⟨_, rfl⟩
        rw [← hy] at hc2
        have HY : Hid (y = bs.getD (q + 1) 0) := hy
        have hge2 : ¬ (e : Int) ≤ (q : Int) + 1 := by omega
        have hq1 : (0 : Int) ≤ (q : Int) + 1 ∧ (q : Int) + 1 < (n : Int) := by omega
        have hcN : wr.cell? ⟨b, off + ((q : Int) + 1).toNat, none⟩ = some (.int .u8 y) := by rw [show ((q : Int) + 1).toNat = q + 1 by omega]; exact hc2
        clear hy
        by_cases h3 : y = 0
        · subst h3
          have hfin : Hid (R = .ok xs (q + 2)) := HRQ.out.trans (openR_end (p := q + 2) (by unfold endR; rw [if_neg h0, if_pos HX.out.symm, if_neg h2, if_pos HY.out.symm]))
          have gc0 : wr.cell? ⟨w.heap.size, 0, none⟩ = some (.int .i64 cl) := (cell_of_row _ (w.heap.size) 0 _ 26 (0, 0) EG.out).trans rfl
          have gc1 : wr.cell? ⟨w.heap.size, 1, none⟩ = some (.int .i64 t) := (cell_of_row _ (w.heap.size) 1 _ 26 (0, 0) EG.out).trans rfl
          have gc2 : wr.cell? ⟨w.heap.size, 2, none⟩ = some (.bool co) := (cell_of_row _ (w.heap.size) 2 _ 26 (0, 0) EG.out).trans rfl
          have gc3 : wr.cell? ⟨w.heap.size, 3, none⟩ = some (.slice none 0 0) := (cell_of_row _ (w.heap.size) 3 _ 26 (0, 0) EG.out).trans rfl
          have gc4 : wr.cell? ⟨w.heap.size, 4, none⟩ = some (.slice a2 k c) := (cell_of_row _ (w.heap.size) 4 _ 26 (0, 0) EG.out).trans rfl
          have zc0 : wr.cell? ⟨w.heap.size + 1, 0, none⟩ = some (.int .i64 0) := (cell_of_row _ (w.heap.size + 1) 0 _ 26 (0, 0) E8.out).trans rfl
          have zf0 : wr.frozen? ⟨w.heap.size + 1, 0, none⟩ = false := frozen_of_row wr (w.heap.size + 1) 0 _ 26 E8.out
          have zc1 : wr.cell? ⟨w.heap.size + 1, 1, none⟩ = some (.int .i64 0) := (cell_of_row _ (w.heap.size + 1) 1 _ 26 (0, 0) E8.out).trans rfl
          have zf1 : wr.frozen? ⟨w.heap.size + 1, 1, none⟩ = false := frozen_of_row wr (w.heap.size + 1) 1 _ 26 E8.out
          have zc2 : wr.cell? ⟨w.heap.size + 1, 2, none⟩ = some (.bool false) := (cell_of_row _ (w.heap.size + 1) 2 _ 26 (0, 0) E8.out).trans rfl
          have zf2 : wr.frozen? ⟨w.heap.size + 1, 2, none⟩ = false := frozen_of_row wr (w.heap.size + 1) 2 _ 26 E8.out
          have zc3 : wr.cell? ⟨w.heap.size + 1, 3, none⟩ = some (.slice none 0 0) := (cell_of_row _ (w.heap.size + 1) 3 _ 26 (0, 0) E8.out).trans rfl
          have zf3 : wr.frozen? ⟨w.heap.size + 1, 3, none⟩ = false := frozen_of_row wr (w.heap.size + 1) 3 _ 26 E8.out
          have zc4 : wr.cell? ⟨w.heap.size + 1, 4, none⟩ = some (.slice none 0 0) := (cell_of_row _ (w.heap.size + 1) 4 _ 26 (0, 0) E8.out).trans rfl
          have zf4 : wr.frozen? ⟨w.heap.size + 1, 4, none⟩ = false := frozen_of_row wr (w.heap.size + 1) 4 _ 26 E8.out
          go_wp2
          have q0 := heap_setCell_same (wr) (w.heap.size + 1) 0 _ 26 (.int .i64 cl) E8.out
          have q1 := heap_setCell_same ((wr).setCell ⟨w.heap.size + 1, 0, none⟩ (.int .i64 cl)) (w.heap.size + 1) 1 _ 26 (.int .i64 t) q0
          have q2 := heap_setCell_same (((wr).setCell ⟨w.heap.size + 1, 0, none⟩ (.int .i64 cl)).setCell ⟨w.heap.size + 1, 1, none⟩ (.int .i64 t)) (w.heap.size + 1) 2 _ 26 (.bool co) q1
          have q3 := heap_setCell_same ((((wr).setCell ⟨w.heap.size + 1, 0, none⟩ (.int .i64 cl)).setCell ⟨w.heap.size + 1, 1, none⟩ (.int .i64 t)).setCell ⟨w.heap.size + 1, 2, none⟩ (.bool co)) (w.heap.size + 1) 3 _ 26 (.slice none 0 0) q2
          have q4 := heap_setCell_same (((((wr).setCell ⟨w.heap.size + 1, 0, none⟩ (.int .i64 cl)).setCell ⟨w.heap.size + 1, 1, none⟩ (.int .i64 t)).setCell ⟨w.heap.size + 1, 2, none⟩ (.bool co)).setCell ⟨w.heap.size + 1, 3, none⟩ (.slice none 0 0)) (w.heap.size + 1) 4 _ 26 (.slice a2 k c) q3
          have tt : Touch (w.heap.size + 1) (w.heap.size + 1 + 1) wr ((((((wr).setCell ⟨w.heap.size + 1, 0, none⟩ (.int .i64 cl)).setCell ⟨w.heap.size + 1, 1, none⟩ (.int .i64 t)).setCell ⟨w.heap.size + 1, 2, none⟩ (.bool co)).setCell ⟨w.heap.size + 1, 3, none⟩ (.slice none 0 0)).setCell ⟨w.heap.size + 1, 4, none⟩ (.slice a2 k c)) := ((((touch_set _ _ _ _ (by omega) (by omega)).trans (touch_set _ _ _ _ (by omega) (by omega))).trans (touch_set _ _ _ _ (by omega) (by omega))).trans (touch_set _ _ _ _ (by omega) (by omega))).trans (touch_set _ _ _ _ (by omega) (by omega))
          have tse : ((((((wr).setCell ⟨w.heap.size + 1, 0, none⟩ (.int .i64 cl)).setCell ⟨w.heap.size + 1, 1, none⟩ (.int .i64 t)).setCell ⟨w.heap.size + 1, 2, none⟩ (.bool co)).setCell ⟨w.heap.size + 1, 3, none⟩ (.slice none 0 0)).setCell ⟨w.heap.size + 1, 4, none⟩ (.slice a2 k c)).heap.size = wr.heap.size := by simp
          try simp only [Exit.inBlock, Exit.then]
          refine bodyPost_ret (results_item2 rfl _ (w.heap.size + 1) rfl _ _ _ _ _ _ q4) rfl ?_
          refine ⟨TW.out.news tt (by omega), ?_⟩
          rw [hfin.out]
          refine ⟨⟨a2, k, c, w.heap.size + 2, rfl, by omega, by rw [tse]; exact hsr, ?_⟩, (tt.block RB (by omega) (.inl (by omega))).trans EB.out⟩
          exact (HKA.out.touch tt (by omega)).kids (by omega)
        · have h3' : (y == 0) = false := by simp [h3]
          have hfin : Hid (R = .no 4 q) := HRQ.out.trans (openR_no (by unfold endR; rw [if_neg h0, if_pos HX.out.symm, if_neg h2, if_neg (by rw [← HY.out]; exact h3)]))
          go_upto_region 7 with (go_at_call 45; refine (FA 4 (q : Int)).out.mono ?_; rintro e w1 ⟨rfl, hbx1, t1⟩)
          obtain ⟨x3, x4⟩ := (FX w1 t1).out
          have hs1 := t1.size
          have gc0 : w1.cell? ⟨w.heap.size, 0, none⟩ = some (.int .i64 cl) := (cell_of_row _ (w.heap.size) 0 _ 26 (0, 0) x3).trans rfl
          have gc1 : w1.cell? ⟨w.heap.size, 1, none⟩ = some (.int .i64 t) := (cell_of_row _ (w.heap.size) 1 _ 26 (0, 0) x3).trans rfl
          have gc2 : w1.cell? ⟨w.heap.size, 2, none⟩ = some (.bool co) := (cell_of_row _ (w.heap.size) 2 _ 26 (0, 0) x3).trans rfl
          have gc3 : w1.cell? ⟨w.heap.size, 3, none⟩ = some (.slice none 0 0) := (cell_of_row _ (w.heap.size) 3 _ 26 (0, 0) x3).trans rfl
          have gc4 : w1.cell? ⟨w.heap.size, 4, none⟩ = some (.slice a2 k c) := (cell_of_row _ (w.heap.size) 4 _ 26 (0, 0) x3).trans rfl
          have zc0 : w1.cell? ⟨w.heap.size + 1, 0, none⟩ = some (.int .i64 0) := (cell_of_row _ (w.heap.size + 1) 0 _ 26 (0, 0) x4).trans rfl
          have zf0 : w1.frozen? ⟨w.heap.size + 1, 0, none⟩ = false := frozen_of_row w1 (w.heap.size + 1) 0 _ 26 x4
          have zc1 : w1.cell? ⟨w.heap.size + 1, 1, none⟩ = some (.int .i64 0) := (cell_of_row _ (w.heap.size + 1) 1 _ 26 (0, 0) x4).trans rfl
          have zf1 : w1.frozen? ⟨w.heap.size + 1, 1, none⟩ = false := frozen_of_row w1 (w.heap.size + 1) 1 _ 26 x4
          have zc2 : w1.cell? ⟨w.heap.size + 1, 2, none⟩ = some (.bool false) := (cell_of_row _ (w.heap.size + 1) 2 _ 26 (0, 0) x4).trans rfl
          have zf2 : w1.frozen? ⟨w.heap.size + 1, 2, none⟩ = false := frozen_of_row w1 (w.heap.size + 1) 2 _ 26 x4
          have zc3 : w1.cell? ⟨w.heap.size + 1, 3, none⟩ = some (.slice none 0 0) := (cell_of_row _ (w.heap.size + 1) 3 _ 26 (0, 0) x4).trans rfl
          have zf3 : w1.frozen? ⟨w.heap.size + 1, 3, none⟩ = false := frozen_of_row w1 (w.heap.size + 1) 3 _ 26 x4
          have zc4 : w1.cell? ⟨w.heap.size + 1, 4, none⟩ = some (.slice none 0 0) := (cell_of_row _ (w.heap.size + 1) 4 _ 26 (0, 0) x4).trans rfl
          have zf4 : w1.frozen? ⟨w.heap.size + 1, 4, none⟩ = false := frozen_of_row w1 (w.heap.size + 1) 4 _ 26 x4
          have X4 : Hid (_ = _) := x4
          clear x3 x4
          go_wp2
          have q0 := heap_setCell_same (w1) (w.heap.size + 1) 0 _ 26 (.int .i64 cl) X4.out
          have q1 := heap_setCell_same ((w1).setCell ⟨w.heap.size + 1, 0, none⟩ (.int .i64 cl)) (w.heap.size + 1) 1 _ 26 (.int .i64 t) q0
          have q2 := heap_setCell_same (((w1).setCell ⟨w.heap.size + 1, 0, none⟩ (.int .i64 cl)).setCell ⟨w.heap.size + 1, 1, none⟩ (.int .i64 t)) (w.heap.size + 1) 2 _ 26 (.bool co) q1
          have q3 := heap_setCell_same ((((w1).setCell ⟨w.heap.size + 1, 0, none⟩ (.int .i64 cl)).setCell ⟨w.heap.size + 1, 1, none⟩ (.int .i64 t)).setCell ⟨w.heap.size + 1, 2, none⟩ (.bool co)) (w.heap.size + 1) 3 _ 26 (.slice none 0 0) q2
          have q4 := heap_setCell_same (((((w1).setCell ⟨w.heap.size + 1, 0, none⟩ (.int .i64 cl)).setCell ⟨w.heap.size + 1, 1, none⟩ (.int .i64 t)).setCell ⟨w.heap.size + 1, 2, none⟩ (.bool co)).setCell ⟨w.heap.size + 1, 3, none⟩ (.slice none 0 0)) (w.heap.size + 1) 4 _ 26 (.slice a2 k c) q3
          have tt : Touch (w.heap.size + 1) (w.heap.size + 1 + 1) w1 ((((((w1).setCell ⟨w.heap.size + 1, 0, none⟩ (.int .i64 cl)).setCell ⟨w.heap.size + 1, 1, none⟩ (.int .i64 t)).setCell ⟨w.heap.size + 1, 2, none⟩ (.bool co)).setCell ⟨w.heap.size + 1, 3, none⟩ (.slice none 0 0)).setCell ⟨w.heap.size + 1, 4, none⟩ (.slice a2 k c)) := ((((touch_set _ _ _ _ (by omega) (by omega)).trans (touch_set _ _ _ _ (by omega) (by omega))).trans (touch_set _ _ _ _ (by omega) (by omega))).trans (touch_set _ _ _ _ (by omega) (by omega))).trans (touch_set _ _ _ _ (by omega) (by omega))
          have tse : ((((((w1).setCell ⟨w.heap.size + 1, 0, none⟩ (.int .i64 cl)).setCell ⟨w.heap.size + 1, 1, none⟩ (.int .i64 t)).setCell ⟨w.heap.size + 1, 2, none⟩ (.bool co)).setCell ⟨w.heap.size + 1, 3, none⟩ (.slice none 0 0)).setCell ⟨w.heap.size + 1, 4, none⟩ (.slice a2 k c)).heap.size = w1.heap.size := by simp
          try simp only [Exit.inBlock, Exit.then]
          refine bodyPost_ret (results_item2 rfl _ (w.heap.size + 1) rfl _ _ _ _ _ _ q4) rfl ?_
          refine ⟨(TW.out.trans t1).news tt (by omega), ?_⟩
          rw [hfin.out]
          exact ⟨⟨_, _, rfl, _, _, _, _, _, _, _, _, _, rfl⟩, (tt.block RB (by omega) (.inl (by omega))).trans hbx1⟩
    · have h1' : (x0 == 0) = false := by simp [h1]
      obtain ⟨_, hop⟩ := openR_kid (f := f) (m := m) (acc := xs) (show endR bs q e = .ok false q by unfold endR; rw [if_neg h0, if_neg (by rw [← HX.out]; exact h1)])
      have HOP : Hid (R = match f q with | .no c p => .no c p | .ok x nx => openR f bs e m (xs ++ [x]) nx) := HRQ.out.trans hop
      have HC := IH q e pl wr hrow.out hin EB.out hqe he
      rw [← HD.out] at HC
      clear hop HRQ
      cases hit : itemR lax bs r q e with
      | no c2 p2 =>
        rw [hit] at HC
        have hfq : f q = .no c2 p2 := by rw [HF.out]; exact hit
        have hfin : Hid (R = .no c2 p2) := HOP.out.trans (by rw [hfq])
        have hcode := itemR_code r q e hqe hit
        have hne : ((c2 : Int) != 0) = true := by simp; omega
        clear hit hfq HOP
        go_upto_region 13 with (go_at_call 44; refine HC.mono ?_; rintro ev w3 ⟨t3, ⟨v, u, rfl, i2, j2, b2, a3, n3, c3, a4, n4, c4, rfl⟩, hbx3⟩)
        have ht3 := TW.out.trans t3
        have hs3 := t3.size
        obtain ⟨x3, x4⟩ := (FX w3 t3).out
        have hal : Below w3.heap.size w3 (w3.alloc (.cells #[.int .i64 i2, .int .i64 j2, .bool b2, .slice a3 n3 c3, .slice a4 n4 c4] 26)) := (Below.refl _ _).alloc (Nat.le_refl _) _
        have hsa : (w3.alloc (.cells #[.int .i64 i2, .int .i64 j2, .bool b2, .slice a3 n3 c3, .slice a4 n4 c4] 26)).heap.size = w3.heap.size + 1 := by simp
        obtain ⟨W4, hW4⟩ : ∃ W4, W4 = w3.alloc (.cells #[.int .i64 i2, .int .i64 j2, .bool b2, .slice a3 n3 c3, .slice a4 n4 c4] 26) := ⟨_, rfl⟩
        rw [← hW4] at hal hsa ⊢
        clear hW4
        have hbx4 : Hid (RBox RB W4 _ n cap lax c2 p2) := hbx3.kept hal
        have X3 : Hid (_ = _) := heap_kept hal (by omega) x3
        have X4 : Hid (_ = _) := heap_kept hal (by omega) x4
        have T4 : Hid (Touch RB (RB + 1) w W4) := ⟨hal.os.trans ht3.os, hal.tape.trans ht3.tape, hal.output.trans ht3.output, Nat.le_trans ht3.size hal.size, fun k hk ho => (hal.block k (Nat.lt_of_lt_of_le hk ht3.size)).trans (ht3.block k hk ho)⟩
        obtain ⟨d0, d1, d2, d3⟩ := hbx4.out.cells
        clear x3 x4 hbx3 ht3 t3 hal bc0 bc1 bc2 bc3
        have gc0 : W4.cell? ⟨w.heap.size, 0, none⟩ = some (.int .i64 cl) := (cell_of_row _ (w.heap.size) 0 _ 26 (0, 0) X3.out).trans rfl
        have gc1 : W4.cell? ⟨w.heap.size, 1, none⟩ = some (.int .i64 t) := (cell_of_row _ (w.heap.size) 1 _ 26 (0, 0) X3.out).trans rfl
        have gc2 : W4.cell? ⟨w.heap.size, 2, none⟩ = some (.bool co) := (cell_of_row _ (w.heap.size) 2 _ 26 (0, 0) X3.out).trans rfl
        have gc3 : W4.cell? ⟨w.heap.size, 3, none⟩ = some (.slice none 0 0) := (cell_of_row _ (w.heap.size) 3 _ 26 (0, 0) X3.out).trans rfl
        have gc4 : W4.cell? ⟨w.heap.size, 4, none⟩ = some (.slice a2 k c) := (cell_of_row _ (w.heap.size) 4 _ 26 (0, 0) X3.out).trans rfl
        have zc0 : W4.cell? ⟨w.heap.size + 1, 0, none⟩ = some (.int .i64 0) := (cell_of_row _ (w.heap.size + 1) 0 _ 26 (0, 0) X4.out).trans rfl
        have zf0 : W4.frozen? ⟨w.heap.size + 1, 0, none⟩ = false := frozen_of_row W4 (w.heap.size + 1) 0 _ 26 X4.out
        have zc1 : W4.cell? ⟨w.heap.size + 1, 1, none⟩ = some (.int .i64 0) := (cell_of_row _ (w.heap.size + 1) 1 _ 26 (0, 0) X4.out).trans rfl
        have zf1 : W4.frozen? ⟨w.heap.size + 1, 1, none⟩ = false := frozen_of_row W4 (w.heap.size + 1) 1 _ 26 X4.out
        have zc2 : W4.cell? ⟨w.heap.size + 1, 2, none⟩ = some (.bool false) := (cell_of_row _ (w.heap.size + 1) 2 _ 26 (0, 0) X4.out).trans rfl
        have zf2 : W4.frozen? ⟨w.heap.size + 1, 2, none⟩ = false := frozen_of_row W4 (w.heap.size + 1) 2 _ 26 X4.out
        have zc3 : W4.cell? ⟨w.heap.size + 1, 3, none⟩ = some (.slice none 0 0) := (cell_of_row _ (w.heap.size + 1) 3 _ 26 (0, 0) X4.out).trans rfl
        have zf3 : W4.frozen? ⟨w.heap.size + 1, 3, none⟩ = false := frozen_of_row W4 (w.heap.size + 1) 3 _ 26 X4.out
        have zc4 : W4.cell? ⟨w.heap.size + 1, 4, none⟩ = some (.slice none 0 0) := (cell_of_row _ (w.heap.size + 1) 4 _ 26 (0, 0) X4.out).trans rfl
        have zf4 : W4.frozen? ⟨w.heap.size + 1, 4, none⟩ = false := frozen_of_row W4 (w.heap.size + 1) 4 _ 26 X4.out
        go_wp2
        have q0 := heap_setCell_same (W4) (w.heap.size + 1) 0 _ 26 (.int .i64 cl) X4.out
        have q1 := heap_setCell_same ((W4).setCell ⟨w.heap.size + 1, 0, none⟩ (.int .i64 cl)) (w.heap.size + 1) 1 _ 26 (.int .i64 t) q0
        have q2 := heap_setCell_same (((W4).setCell ⟨w.heap.size + 1, 0, none⟩ (.int .i64 cl)).setCell ⟨w.heap.size + 1, 1, none⟩ (.int .i64 t)) (w.heap.size + 1) 2 _ 26 (.bool co) q1
        have q3 := heap_setCell_same ((((W4).setCell ⟨w.heap.size + 1, 0, none⟩ (.int .i64 cl)).setCell ⟨w.heap.size + 1, 1, none⟩ (.int .i64 t)).setCell ⟨w.heap.size + 1, 2, none⟩ (.bool co)) (w.heap.size + 1) 3 _ 26 (.slice none 0 0) q2
        have q4 := heap_setCell_same (((((W4).setCell ⟨w.heap.size + 1, 0, none⟩ (.int .i64 cl)).setCell ⟨w.heap.size + 1, 1, none⟩ (.int .i64 t)).setCell ⟨w.heap.size + 1, 2, none⟩ (.bool co)).setCell ⟨w.heap.size + 1, 3, none⟩ (.slice none 0 0)) (w.heap.size + 1) 4 _ 26 (.slice a2 k c) q3
        have tt : Touch (w.heap.size + 1) (w.heap.size + 1 + 1) W4 ((((((W4).setCell ⟨w.heap.size + 1, 0, none⟩ (.int .i64 cl)).setCell ⟨w.heap.size + 1, 1, none⟩ (.int .i64 t)).setCell ⟨w.heap.size + 1, 2, none⟩ (.bool co)).setCell ⟨w.heap.size + 1, 3, none⟩ (.slice none 0 0)).setCell ⟨w.heap.size + 1, 4, none⟩ (.slice a2 k c)) := ((((touch_set _ _ _ _ (by omega) (by omega)).trans (touch_set _ _ _ _ (by omega) (by omega))).trans (touch_set _ _ _ _ (by omega) (by omega))).trans (touch_set _ _ _ _ (by omega) (by omega))).trans (touch_set _ _ _ _ (by omega) (by omega))
        have tse : ((((((W4).setCell ⟨w.heap.size + 1, 0, none⟩ (.int .i64 cl)).setCell ⟨w.heap.size + 1, 1, none⟩ (.int .i64 t)).setCell ⟨w.heap.size + 1, 2, none⟩ (.bool co)).setCell ⟨w.heap.size + 1, 3, none⟩ (.slice none 0 0)).setCell ⟨w.heap.size + 1, 4, none⟩ (.slice a2 k c)).heap.size = W4.heap.size := by simp
        try simp only [Exit.inBlock, Exit.then]
        refine bodyPost_ret (results_item2 rfl _ (w.heap.size + 1) rfl _ _ _ _ _ _ q4) rfl ?_
        refine ⟨T4.out.news tt (by omega), ?_⟩
        rw [hfin.out]
        exact ⟨⟨_, _, rfl, _, _, _, _, _, _, _, _, _, rfl⟩, (tt.block RB (by omega) (.inl (by omega))).trans hbx4.out⟩
      | ok x nx =>
        rw [hit] at HC
        have hfq : f q = .ok x nx := by rw [HF.out]; exact hit
        have hnx := itemR_place r q e hqe hit
        have hnext : Hid (R = openR f bs e m (xs ++ [x]) nx) := HOP.out.trans (by rw [hfq])
        clear hit hfq HOP
        go_upto_region 13 with (go_at_call 44; refine HC.mono ?_; rintro ev w3 ⟨t3, ⟨ab, nb, cb, ak, nk, ck, M, rfl, m1, m2, ob, ok⟩, hbx3⟩; unfold itv)
        have hs3 := t3.size
        obtain ⟨x3, x4⟩ := (FX w3 t3).out
        have hal : Below w3.heap.size w3 (w3.alloc (.cells #[.int .i64 x.cls, .int .i64 x.tag, .bool x.cons, .slice ab nb cb, .slice ak nk ck] 26)) := (Below.refl _ _).alloc (Nat.le_refl _) _
        have hsa : (w3.alloc (.cells #[.int .i64 x.cls, .int .i64 x.tag, .bool x.cons, .slice ab nb cb, .slice ak nk ck] 26)).heap.size = w3.heap.size + 1 := by simp
        have gk := heap_alloc_new w3 (.cells #[.int .i64 x.cls, .int .i64 x.tag, .bool x.cons, .slice ab nb cb, .slice ak nk ck] 26)
        obtain ⟨W4, hW4⟩ : ∃ W4, W4 = w3.alloc (.cells #[.int .i64 x.cls, .int .i64 x.tag, .bool x.cons, .slice ab nb cb, .slice ak nk ck] 26) := ⟨_, rfl⟩
        rw [← hW4] at hal hsa gk ⊢
        clear hW4
        have hbx4 := hbx3.kept hal
        have X3 := heap_kept hal (by omega) x3
        have X4 := heap_kept hal (by omega) x4
        have tW4 : Touch RB (RB + 1) wr W4 := ⟨hal.os.trans t3.os, hal.tape.trans t3.tape, hal.output.trans t3.output, Nat.le_trans t3.size hal.size, fun k hk ho => (hal.block k (Nat.lt_of_lt_of_le hk t3.size)).trans (t3.block k hk ho)⟩
        have ob4 := ob.kept hal
        have ok4 := ok.kept hal
        -- the literal of the append
        have hal5 : Below W4.heap.size W4 (W4.alloc (.cells #[.int .i64 x.cls, .int .i64 x.tag, .bool x.cons, .slice ab nb cb, .slice ak nk ck] 26)) := (Below.refl _ _).alloc (Nat.le_refl _) _
        have hsz5 : (W4.alloc (.cells #[.int .i64 x.cls, .int .i64 x.tag, .bool x.cons, .slice ab nb cb, .slice ak nk ck] 26)).heap.size = w3.heap.size + 1 + 1 := by simp; omega
        have tW5 : Touch RB (RB + 1) wr (W4.alloc (.cells #[.int .i64 x.cls, .int .i64 x.tag, .bool x.cons, .slice ab nb cb, .slice ak nk ck] 26)) := ⟨hal5.os.trans tW4.os, hal5.tape.trans tW4.tape, hal5.output.trans tW4.output, Nat.le_trans tW4.size hal5.size, fun k hk ho => (hal5.block k (Nat.lt_of_lt_of_le hk tW4.size)).trans (tW4.block k hk ho)⟩
        have hka5 := HKA.out.touch tW5 (by omega)
        have hnews := cells_new W4 #[.int .i64 x.cls, .int .i64 x.tag, .bool x.cons, .slice ab nb cb, .slice ak nk ck] 26
        rw [hsa] at hnews
        have X35 := heap_kept hal5 (by omega) X3
        have X45 := heap_kept hal5 (by omega) X4
        have hbx5 := hbx4.kept hal5
        have ob5 := ob4.kept hal5
        have ok5 := ok4.kept hal5
        obtain ⟨d0, d1, d2, d3⟩ := hbx4.cells
        have kc0 : W4.cell? ⟨w3.heap.size, 0, none⟩ = some (.int .i64 x.cls) := (cell_of_row _ w3.heap.size 0 _ 26 (0, 0) gk).trans rfl
        have kc1 : W4.cell? ⟨w3.heap.size, 1, none⟩ = some (.int .i64 x.tag) := (cell_of_row _ w3.heap.size 1 _ 26 (0, 0) gk).trans rfl
        have kc2 : W4.cell? ⟨w3.heap.size, 2, none⟩ = some (.bool x.cons) := (cell_of_row _ w3.heap.size 2 _ 26 (0, 0) gk).trans rfl
        have kc3 : W4.cell? ⟨w3.heap.size, 3, none⟩ = some (.slice ab nb cb) := (cell_of_row _ w3.heap.size 3 _ 26 (0, 0) gk).trans rfl
        have kc4 : W4.cell? ⟨w3.heap.size, 4, none⟩ = some (.slice ak nk ck) := (cell_of_row _ w3.heap.size 4 _ 26 (0, 0) gk).trans rfl
        have gc4 : W4.cell? ⟨w.heap.size, 4, none⟩ = some (.slice a2 k c) := (cell_of_row _ w.heap.size 4 _ 26 (0, 0) X3).trans rfl
        have HAL : Hid (_ ∧ _ ∧ _ ∧ _ ∧ _ ∧ _ ∧ _) := ⟨tW5, hka5, X35, X45, hbx5, ob5, ok5⟩
        have hka5r := hka5.row
        clear tW5 hka5 X35 X45 hbx5 ob5 ok5 hal5 ob4 ok4 tW4 X3 X4 hbx4 gk hal hbx3 x3 x4 ob ok bc0 bc1 bc2 bc3 HC
        go_wp2_with (at_builtin; refine wpList_append_lies _ rfl (.tmp 74) (.tmp 76) 24 rfl (w.heap.size + 2) 26 i0 _ 5 72 Tryd.underlying24 hi hz0 hz1 hz2 rfl (by decide) _ k vs rfl hka5r ⟨w3.heap.size + 1, 0, none⟩ 1 1 [.int .i64 x.cls, .int .i64 x.tag, .bool x.cons, .slice ab nb cb, .slice ak nk ck] rfl rfl hnews (by intro u hu; simp only [List.mem_cons, List.not_mem_nil, or_false] at hu; rcases hu with rfl | rfl | rfl | rfl | rfl <;> rfl) (by decide) (by unfold maxLen; omega) (by omega) (by omega) (w3.heap.size + 1 + 1) hsz5 ?_; intro g5 c5 w5 hown5 hg5 hlies5 hlt5; have y3 := (hg5.block w.heap.size (by omega) (fun e => by have := HAL.out.2.1.block _ e.symm; omega)).trans HAL.out.2.2.1; have yc4 : w5.cell? ⟨w.heap.size, 4, none⟩ = some (.slice a2 k c) := (cell_of_row _ w.heap.size 4 _ 26 (0, 0) y3).trans rfl; have yf4 : w5.frozen? ⟨w.heap.size, 4, none⟩ = false := frozen_of_row w5 w.heap.size 4 _ 26 y3)
        obtain ⟨tW5, hka5, X35, X45, hbx5, ob5, ok5⟩ := HAL.out
        have hka6 := HKA.out.more2 (by omega) tW5 (by omega) m1 m2 (by omega) ob5 ok5 hown5 hg5 (by rw [hsz5]; exact hlies5)
        have tW6 := hka5.grew (TW.out.trans tW5) (by omega) hg5
        have y4 := (hg5.block (w.heap.size + 1) (by omega) (fun e => by have := hka5.block _ e.symm; omega)).trans X45
        have hs5 := hg5.size
        have hbx6 : RBox RB w5 _ n cap lax 0 pl := (hg5.block RB (by omega) (fun e => by have := hka5.block _ e.symm; omega)).trans hbx5
        have tS : Touch w.heap.size (w.heap.size + 1) w5 (w5.setCell ⟨w.heap.size, 4, none⟩ (.slice (some ⟨g5, 0, none⟩) (k + 1) c5)) := touch_set _ _ _ _ (Nat.le_refl _) (by omega)
        have z3 : (w5.setCell ⟨w.heap.size, 4, none⟩ (.slice (some ⟨g5, 0, none⟩) (k + 1) c5)).heap[w.heap.size]? = some (.cells #[.int .i64 cl, .int .i64 t, .bool co, .slice none 0 0, .slice (some ⟨g5, 0, none⟩) (k + 1) c5] 26 (0, 0)) := (heap_setCell_same w5 w.heap.size 4 _ 26 _ y3).trans rfl
        have z4 := (tS.block (w.heap.size + 1) (by omega) (.inr (Nat.le_refl _))).trans y4
        have hbx7 : RBox RB _ _ n cap lax 0 pl := (tS.block RB (by omega) (.inl (by omega))).trans hbx6
        have hka7 := hka6.touch tS (by omega)
        have tW7 := tW6.news tS (Nat.le_refl _)
        have hs7 := tS.size
        have HFIN : Hid (_ ∧ _ ∧ _ ∧ _ ∧ _) := ⟨hka7, z3, z4, hbx7, tW7⟩
        clear hka7 z3 z4 hbx7 tW7 hka6 tW6 y4 hbx6 tS tW5 hka5 X35 X45 hbx5 ob5 ok5 hown5 hg5 hlies5 hlt5 y3 yc4 yf4
        go_roundw
        case rel => exact ⟨m, nx, some ⟨g5, 0, none⟩, k + 1, c5, xs ++ [x], _, rfl, hnx.2, by omega, by omega, HFIN.out.1, HFIN.out.2.1, HFIN.out.2.2.1, HFIN.out.2.2.2.1, HFIN.out.2.2.2.2, by omega, hnext.out⟩
        case measure => simp [intOf]; omega

end Go.Proofs.YtjkkokjojaknkaaDoor
