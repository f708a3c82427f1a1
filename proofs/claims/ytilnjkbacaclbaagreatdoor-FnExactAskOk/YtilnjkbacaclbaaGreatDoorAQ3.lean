import Derived.Test.YtilnjkbacaclbaaGreatDoorAQ2
import Derived.Test.YtilnjkbacaclbaaGreatDoorAN1
namespace Go.Proofs.YtilnjkbacaclbaaGreatDoor
open Go.RowKit

/-- An ask: what it holds. -/
structure QP where
  tm : Int
  uses : Int
  want : GE
  pol : List Int
  need : Bool
  nomap : Bool
  noany : Bool
  known : List Int
  lists : List CP
  hard : Bool
  pins : List Int
def aqv (aw : Option Addr) (nw cw : Nat) (ap : Option Addr) (np cp : Nat) (ak : Option Addr) (nk ck : Nat) (al : Option Addr) (nl cl : Nat) (ai : Option Addr) (ni ci : Nat) (x : QP) : Value := .agg #[.int .i64 x.tm, .int .i64 x.uses, .int .i64 x.want.g.kind, .string x.want.g.text, .int .i64 x.want.g.addr, .int .i64 x.want.g.bits, .slice aw nw cw, .slice ap np cp, .bool x.need, .bool x.nomap, .bool x.noany, .slice ak nk ck, .slice al nl cl, .bool x.hard, .slice ai ni ci]
/-- Its slices are there. -/
structure Asks (w : World) (aw : Option Addr) (nw : Nat) (ap : Option Addr) (np : Nat) (ak : Option Addr) (nk : Nat) (al : Option Addr) (nl : Nat) (ai : Option Addr) (ni : Nat) (x : QP) : Prop where
  nm : Pts w aw nw x.want.parts
  tx : x.want.g.text.size ≤ 9223372036854775807
  po : Row64 w ap np x.pol
  xp : np ≤ 9223372036854775807
  kn : Row64 w ak nk x.known
  xk : nk ≤ 9223372036854775807
  li : Cls w al nl x.lists
  pi : RowV w ai ni x.pins
  xi : ni ≤ 9223372036854775807
theorem Asks.kept {w w' : World} {aw : Option Addr} {nw : Nat} {ap : Option Addr} {np : Nat} {ak : Option Addr} {nk : Nat} {al : Option Addr} {nl : Nat} {ai : Option Addr} {ni : Nat} {x : QP} (h : Asks w aw nw ap np ak nk al nl ai ni x) (hb : Below w.heap.size w w') : Asks w' aw nw ap np ak nk al nl ai ni x := ⟨h.nm.kept hb, h.tx, h.po.kept hb, h.xp, h.kn.kept hb, h.xk, h.li.kept hb, h.pi.kept hb, h.xi⟩
def AskZ (nw np nk nl ni : Nat) (x : QP) : Prop := x.want.g.text.size ≤ 1048576 ∧ nw ≤ 1048576 ∧ (∀ k, k < nw → (x.want.parts.getD k default).val.size ≤ 1048576) ∧ np ≤ 1048576 ∧ nk ≤ 1048576 ∧ nl ≤ 1048576 ∧ (∀ k, k < nl → ClOk (x.lists.getD k default)) ∧ ni ≤ 1048576

set_option maxRecDepth 10000 in
set_option maxHeartbeats 4000000 in
theorem szAsk_any (aw : Option Addr) (nw cw : Nat) (ap : Option Addr) (np cp : Nat) (ak : Option Addr) (nk ck : Nat) (al : Option Addr) (nl cl : Nat) (ai : Option Addr) (ni ci : Nat) (x : QP) (lf : Int) (w : World) (h : Asks w aw nw ap np ak nk al nl ai ni x) (hl0 : 0 ≤ lf) (hl1 : lf ≤ 1048576) :
    Calls Tryz.prog 4 #[aqv aw nw cw ap np cp ak nk ck al nl cl ai ni ci x, .int .i64 lf] w fun e w' => ∃ r, e = .returned (.int .i64 r) ∧ (r < 0 ∨ (0 ≤ r ∧ r ≤ 1048576 ∧ AskZ nw np nk nl ni x)) ∧ Below w.heap.size w w' := by
  unfold aqv
  have HK : Hid (Asks w aw nw ap np ak nk al nl ai ni x) := h
  clear h
  obtain ⟨w0, hw0⟩ : ∃ w0, w0 = w.alloc (.cells #[.int .i64 x.tm, .int .i64 x.uses, .int .i64 x.want.g.kind, .string x.want.g.text, .int .i64 x.want.g.addr, .int .i64 x.want.g.bits, .slice aw nw cw, .slice ap np cp, .bool x.need, .bool x.nomap, .bool x.noany, .slice ak nk ck, .slice al nl cl, .bool x.hard, .slice ai ni ci] 31) := ⟨_, rfl⟩
  have B0 : Hid (Below w.heap.size w w0) := by show Below w.heap.size w w0; rw [hw0]; exact (Below.refl _ _).alloc (Nat.le_refl _) _
  have hh0 : w0.heap[w.heap.size]? = some (.cells #[.int .i64 x.tm, .int .i64 x.uses, .int .i64 x.want.g.kind, .string x.want.g.text, .int .i64 x.want.g.addr, .int .i64 x.want.g.bits, .slice aw nw cw, .slice ap np cp, .bool x.need, .bool x.nomap, .bool x.noany, .slice ak nk ck, .slice al nl cl, .bool x.hard, .slice ai ni ci] 31) := by rw [hw0]; exact heap_alloc_new w _
  have Y0 : Hid (_ = _) := hh0
  have l0 : w.heap.size < w0.heap.size := (Array.getElem?_eq_some_iff.1 hh0).1
  clear hh0
  go_enter Tryz.func4, Tryz.ntmps4
  go_wp2_with fail
  rw [← hw0]
  clear hw0
  refine (szGenName_any x.want.g aw nw cw x.want.parts lf _ (HK.out.kept B0.out).nm HK.out.tx hl0 hl1).mono ?_
  rintro e w1 ⟨r1, rfl, hr1, hb1⟩
  have B1 : Hid (Below w.heap.size w w1) := B0.out.trans (hb1.mono B0.out.size)
  have y1 := (hb1.block _ l0).trans Y0.out
  clear hb1
  have Y1 : Hid (_ = _) := y1
  have l1 : w.heap.size < w1.heap.size := (Array.getElem?_eq_some_iff.1 y1).1
  have q7 : w1.cell? ⟨w.heap.size, 7, none⟩ = some (.slice ap np cp) := (cell_of_row _ _ 7 _ 31 (0, 0) y1).trans rfl
  clear y1
  by_cases hneg1 : r1 < 0
  · clear hr1
    go_wp2
    go_ret
    exact ⟨_, rfl, .inl (by decide), B1.out⟩
  have h1 : 0 ≤ r1 ∧ r1 ≤ 1048576 := by omega
  have HR1 : Hid (x.want.g.text.size ≤ 1048576 ∧ nw ≤ 1048576 ∧ ∀ k, k < nw → (x.want.parts.getD k default).val.size ≤ 1048576) := by rcases hr1 with h | h; exact absurd h hneg1; exact h.2.2
  clear hr1
  go_wp2_with fail
  refine (szInt64S_q ap np cp r1 _ HK.out.xp h1.1 h1.2).mono ?_
  rintro e w2 ⟨r2, rfl, hr2, hw2⟩; subst hw2
  have B2 : Hid (Below w.heap.size w w1) := B1.out
  have y2 := Y1.out
  have Y2 : Hid (_ = _) := y2
  have l2 : w.heap.size < w1.heap.size := (Array.getElem?_eq_some_iff.1 y2).1
  clear q7
  have q11 : w1.cell? ⟨w.heap.size, 11, none⟩ = some (.slice ak nk ck) := (cell_of_row _ _ 11 _ 31 (0, 0) y2).trans rfl
  clear y2
  by_cases hneg2 : r2 < 0
  · clear hr2
    go_wp2
    go_ret
    exact ⟨_, rfl, .inl (by decide), B2.out⟩
  have h2 : 0 ≤ r2 ∧ r2 ≤ 1048576 := by omega
  have HR2 : Hid (np ≤ 1048576) := by rcases hr2 with h | h; exact absurd h hneg2; exact h.2.2
  clear hr2
  go_wp2_with fail
  refine (szInt64S_q ak nk ck r2 _ HK.out.xk h2.1 h2.2).mono ?_
  rintro e w3 ⟨r3, rfl, hr3, hw3⟩; subst hw3
  have B3 : Hid (Below w.heap.size w w1) := B2.out
  have y3 := Y2.out
  have Y3 : Hid (_ = _) := y3
  have l3 : w.heap.size < w1.heap.size := (Array.getElem?_eq_some_iff.1 y3).1
  clear q11
  have q12 : w1.cell? ⟨w.heap.size, 12, none⟩ = some (.slice al nl cl) := (cell_of_row _ _ 12 _ 31 (0, 0) y3).trans rfl
  clear y3
  by_cases hneg3 : r3 < 0
  · clear hr3
    go_wp2
    go_ret
    exact ⟨_, rfl, .inl (by decide), B3.out⟩
  have h3 : 0 ≤ r3 ∧ r3 ≤ 1048576 := by omega
  have HR3 : Hid (nk ≤ 1048576) := by rcases hr3 with h | h; exact absurd h hneg3; exact h.2.2
  clear hr3
  go_wp2_with fail
  refine (szCrlS_any al nl cl x.lists r3 _ (HK.out.kept B3.out).li h3.1 h3.2).mono ?_
  rintro e w4 ⟨r4, rfl, hr4, hb4⟩
  have B4 : Hid (Below w.heap.size w w4) := B3.out.trans (hb4.mono B3.out.size)
  have y4 := (hb4.block _ l3).trans Y3.out
  clear hb4
  have Y4 : Hid (_ = _) := y4
  have l4 : w.heap.size < w4.heap.size := (Array.getElem?_eq_some_iff.1 y4).1
  clear q12
  have q14 : w4.cell? ⟨w.heap.size, 14, none⟩ = some (.slice ai ni ci) := (cell_of_row _ _ 14 _ 31 (0, 0) y4).trans rfl
  clear y4
  by_cases hneg4 : r4 < 0
  · clear hr4
    go_wp2
    go_ret
    exact ⟨_, rfl, .inl (by decide), B4.out⟩
  have h4 : 0 ≤ r4 ∧ r4 ≤ 1048576 := by omega
  have HR4 : Hid (nl ≤ 1048576 ∧ ∀ k, k < nl → ClOk (x.lists.getD k default)) := by rcases hr4 with h | h; exact absurd h hneg4; exact h.2.2
  clear hr4
  go_wp2_with fail
  refine (szUint64S_q ai ni ci r4 _ HK.out.xi h4.1 h4.2).mono ?_
  rintro e w5 ⟨r5, rfl, hr5, hw5⟩; subst hw5
  have B5 : Hid (Below w.heap.size w w4) := B4.out
  have y5 := Y4.out
  have Y5 : Hid (_ = _) := y5
  have l5 : w.heap.size < w4.heap.size := (Array.getElem?_eq_some_iff.1 y5).1
  clear q14
  clear y5
  by_cases hneg5 : r5 < 0
  · clear hr5
    go_wp2
    go_ret
    exact ⟨_, rfl, .inl (by decide), B5.out⟩
  have h5 : 0 ≤ r5 ∧ r5 ≤ 1048576 := by omega
  have HR5 : Hid (ni ≤ 1048576) := by rcases hr5 with h | h; exact absurd h hneg5; exact h.2.2
  clear hr5
  go_wp2
  go_ret
  exact ⟨_, rfl, .inr ⟨h5.1, h5.2, HR1.out.1, HR1.out.2.1, HR1.out.2.2, HR2.out, HR3.out, HR4.out.1, HR4.out.2, HR5.out⟩, B5.out⟩

/-- An ask as it is copied. -/
structure TQ (w W : World) (aw : Option Addr) (nw cw : Nat) (ap : Option Addr) (np cp : Nat) (ak : Option Addr) (nk ck : Nat) (al : Option Addr) (nl cl : Nat) (ai : Option Addr) (ni ci : Nat) (x : QP) (R : World → Prop) (vs : Array Value) : Prop where
  b0 : W.heap[w.heap.size]? = some (.cells #[.int .i64 x.tm, .int .i64 x.uses, .int .i64 x.want.g.kind, .string x.want.g.text, .int .i64 x.want.g.addr, .int .i64 x.want.g.bits, .slice aw nw cw, .slice ap np cp, .bool x.need, .bool x.nomap, .bool x.noany, .slice ak nk ck, .slice al nl cl, .bool x.hard, .slice ai ni ci] 31 (0, 0))
  b1 : W.heap[w.heap.size + 1]? = some (.cells #[.int .i64 0, .int .i64 0, .int .i64 0, .string ⟨#[]⟩, .int .i64 0, .int .i64 0, .slice none 0 0, .slice none 0 0, .bool false, .bool false, .bool false, .slice none 0 0, .slice none 0 0, .bool false, .slice none 0 0] 41 (0, 0))
  b2 : W.heap[w.heap.size + 1 + 1]? = some (.cells vs 41 (0, 0))
  st : Stab (w.heap.size + 3) R
  r : R W
  below : Below w.heap.size w W
  lt : w.heap.size + 3 ≤ W.heap.size
theorem TQ.set {w W : World} {aw : Option Addr} {nw cw : Nat} {ap : Option Addr} {np cp : Nat} {ak : Option Addr} {nk ck : Nat} {al : Option Addr} {nl cl : Nat} {ai : Option Addr} {ni ci : Nat} {x : QP} {R : World → Prop} {vs : Array Value} (h : TQ w W aw nw cw ap np cp ak nk ck al nl cl ai ni ci x R vs) {us : Array Value} (j : Nat) (u : Value) (e : vs.setIfInBounds j u = us) : TQ w (W.setCell ⟨w.heap.size + 1 + 1, j, none⟩ u) aw nw cw ap np cp ak nk ck al nl cl ai ni ci x R us := by
  have f : ∀ l, l ≠ w.heap.size + 2 → (W.setCell ⟨w.heap.size + 1 + 1, j, none⟩ u).heap[l]? = W.heap[l]? := fun l hl => Below.heap_setCell _ _ _ _ (by show l ≠ w.heap.size + 1 + 1; omega)
  refine ⟨(f _ (by omega)).trans h.b0, (f _ (by omega)).trans h.b1, ?_, h.st, h.st W _ (fun l hl _ => f l (by omega)) (by simp) h.r, ⟨h.below.os, h.below.tape, h.below.output, by simpa [World.setCell] using h.below.size, fun l hl => (f l (by omega)).trans (h.below.block l hl)⟩, by simpa [World.setCell] using h.lt⟩
  rw [← e]
  exact heap_setCell_same W (w.heap.size + 1 + 1) j _ 41 u h.b2
theorem TQ.on {w W : World} {aw : Option Addr} {nw cw : Nat} {ap : Option Addr} {np cp : Nat} {ak : Option Addr} {nk ck : Nat} {al : Option Addr} {nl cl : Nat} {ai : Option Addr} {ni ci : Nat} {x : QP} {R : World → Prop} {vs : Array Value} {W' : World} (h : TQ w W aw nw cw ap np cp ak nk ck al nl cl ai ni ci x R vs) (hb : Below W.heap.size W W') : TQ w W' aw nw cw ap np cp ak nk ck al nl cl ai ni ci x R vs := by
  have hl := h.lt
  have hs := hb.size
  exact ⟨(hb.block _ (by omega)).trans h.b0, (hb.block _ (by omega)).trans h.b1, (hb.block _ (by omega)).trans h.b2, h.st, h.st W W' (fun l _ hl => hb.block l hl) hs h.r, h.below.trans (hb.mono h.below.size), by omega⟩
theorem TQ.more {w W : World} {aw : Option Addr} {nw cw : Nat} {ap : Option Addr} {np cp : Nat} {ak : Option Addr} {nk ck : Nat} {al : Option Addr} {nl cl : Nat} {ai : Option Addr} {ni ci : Nat} {x : QP} {R : World → Prop} {vs : Array Value} {Q : World → Prop} (h : TQ w W aw nw cw ap np cp ak nk ck al nl cl ai ni ci x R vs) (s : Stab (w.heap.size + 3) Q) (q : Q W) : TQ w W aw nw cw ap np cp ak nk ck al nl cl ai ni ci x Q vs := ⟨h.b0, h.b1, h.b2, s, q, h.below, h.lt⟩
theorem TQ.out {w W : World} {aw : Option Addr} {nw cw : Nat} {ap : Option Addr} {np cp : Nat} {ak : Option Addr} {nk ck : Nat} {al : Option Addr} {nl cl : Nat} {ai : Option Addr} {ni ci : Nat} {x : QP} {R : World → Prop} {vs : Array Value} (h : TQ w W aw nw cw ap np cp ak nk ck al nl cl ai ni ci x R vs) (j : Nat) : W.cell? ⟨w.heap.size + 1 + 1, j, none⟩ = vs[j]? ∧ W.frozen? ⟨w.heap.size + 1 + 1, j, none⟩ = false ∧ W.cell? ⟨w.heap.size, j, none⟩ = (#[.int .i64 x.tm, .int .i64 x.uses, .int .i64 x.want.g.kind, .string x.want.g.text, .int .i64 x.want.g.addr, .int .i64 x.want.g.bits, .slice aw nw cw, .slice ap np cp, .bool x.need, .bool x.nomap, .bool x.noany, .slice ak nk ck, .slice al nl cl, .bool x.hard, .slice ai ni ci] : Array Value)[j]? :=
  ⟨cell_of_row _ _ j _ 41 (0, 0) h.b2, frozen_of_row W _ j _ 41 h.b2, cell_of_row _ _ j _ 31 (0, 0) h.b0⟩

set_option maxRecDepth 10000 in
set_option maxHeartbeats 8000000 in
theorem toAsk_any (aw : Option Addr) (nw cw : Nat) (ap : Option Addr) (np cp : Nat) (ak : Option Addr) (nk ck : Nat) (al : Option Addr) (nl cl : Nat) (ai : Option Addr) (ni ci : Nat) (x : QP) (w : World) (h : Asks w aw nw ap np ak nk al nl ai ni x) (hz : AskZ nw np nk nl ni x) :
    Calls Tryz.prog 6 #[aqv aw nw cw ap np cp ak nk ck al nl cl ai ni ci x] w fun e w' => ∃ bw bp bk bl bi, e = .returned (aqv bw nw nw bp np np bk nk nk bl nl nl bi ni ni x) ∧ Asks w' bw nw bp np bk nk bl nl bi ni x ∧ Below w.heap.size w w' := by
  have HK : Hid (Asks w aw nw ap np ak nk al nl ai ni x) := h
  have HZ : Hid (AskZ nw np nk nl ni x) := hz
  clear h hz
  unfold aqv
  obtain ⟨w1, hW0⟩ : ∃ W0, W0 = (((w.alloc (.cells #[.int .i64 x.tm, .int .i64 x.uses, .int .i64 x.want.g.kind, .string x.want.g.text, .int .i64 x.want.g.addr, .int .i64 x.want.g.bits, .slice aw nw cw, .slice ap np cp, .bool x.need, .bool x.nomap, .bool x.noany, .slice ak nk ck, .slice al nl cl, .bool x.hard, .slice ai ni ci] 31)).alloc (.cells #[.int .i64 0, .int .i64 0, .int .i64 0, .string ⟨#[]⟩, .int .i64 0, .int .i64 0, .slice none 0 0, .slice none 0 0, .bool false, .bool false, .bool false, .slice none 0 0, .slice none 0 0, .bool false, .slice none 0 0] 41)).alloc (.cells #[.int .i64 0, .int .i64 0, .int .i64 0, .string ⟨#[]⟩, .int .i64 0, .int .i64 0, .slice none 0 0, .slice none 0 0, .bool false, .bool false, .bool false, .slice none 0 0, .slice none 0 0, .bool false, .slice none 0 0] 41)) := ⟨_, rfl⟩
  have hB0 : Below w.heap.size w w1 := by rw [hW0]; exact three_below _ _ _ _
  have hS0 : w1.heap.size = w.heap.size + 3 := by rw [hW0]; simp
  obtain ⟨b0, b1, b2⟩ := three_blocks' w (.cells #[.int .i64 x.tm, .int .i64 x.uses, .int .i64 x.want.g.kind, .string x.want.g.text, .int .i64 x.want.g.addr, .int .i64 x.want.g.bits, .slice aw nw cw, .slice ap np cp, .bool x.need, .bool x.nomap, .bool x.noany, .slice ak nk ck, .slice al nl cl, .bool x.hard, .slice ai ni ci] 31) (.cells #[.int .i64 0, .int .i64 0, .int .i64 0, .string ⟨#[]⟩, .int .i64 0, .int .i64 0, .slice none 0 0, .slice none 0 0, .bool false, .bool false, .bool false, .slice none 0 0, .slice none 0 0, .bool false, .slice none 0 0] 41) (.cells #[.int .i64 0, .int .i64 0, .int .i64 0, .string ⟨#[]⟩, .int .i64 0, .int .i64 0, .slice none 0 0, .slice none 0 0, .bool false, .bool false, .bool false, .slice none 0 0, .slice none 0 0, .bool false, .slice none 0 0] 41)
  rw [← hW0] at b0 b1 b2
  have T1 : Hid (TQ w w1 aw nw cw ap np cp ak nk ck al nl cl ai ni ci x (fun _ => True) #[.int .i64 0, .int .i64 0, .int .i64 0, .string ⟨#[]⟩, .int .i64 0, .int .i64 0, .slice none 0 0, .slice none 0 0, .bool false, .bool false, .bool false, .slice none 0 0, .slice none 0 0, .bool false, .slice none 0 0]) := ⟨b0, b1, b2, fun _ _ _ _ _ => trivial, trivial, hB0, by omega⟩
  clear b0 b1 b2 hB0 hS0
  go_enter Tryz.func6, Tryz.ntmps6
  go_upto_region 2 with fail
  rw [← hW0]
  clear hW0
  obtain ⟨o0, f0, l0⟩ := T1.out.out 0
  have o0 : w1.cell? ⟨w.heap.size + 1 + 1, 0, none⟩ = some (.int .i64 0) := o0
  have l0 : w1.cell? ⟨w.heap.size, 0, none⟩ = some (.int .i64 x.tm) := l0
  have m1 := T1.out.lt
  obtain ⟨w2, hw2⟩ : ∃ W, W = (w1.setCell ⟨w.heap.size + 1 + 1, 0, none⟩ (.int .i64 x.tm)) := ⟨_, rfl⟩
  have T2 : Hid (TQ w w2 aw nw cw ap np cp ak nk ck al nl cl ai ni ci x (fun _ => True) #[.int .i64 x.tm, .int .i64 0, .int .i64 0, .string ⟨#[]⟩, .int .i64 0, .int .i64 0, .slice none 0 0, .slice none 0 0, .bool false, .bool false, .bool false, .slice none 0 0, .slice none 0 0, .bool false, .slice none 0 0]) := by rw [hw2]; exact (T1.out.set 0 _ rfl)
  have HW2 : Hid (_ = _) := hw2
  clear hw2
  go_upto_region 3 with fail
  rw [← HW2.out]
  clear HW2 o0 f0 l0 m1 T1
  obtain ⟨o1, f1, l1⟩ := T2.out.out 1
  have o1 : w2.cell? ⟨w.heap.size + 1 + 1, 1, none⟩ = some (.int .i64 0) := o1
  have l1 : w2.cell? ⟨w.heap.size, 1, none⟩ = some (.int .i64 x.uses) := l1
  have m2 := T2.out.lt
  obtain ⟨w3, hw3⟩ : ∃ W, W = (w2.setCell ⟨w.heap.size + 1 + 1, 1, none⟩ (.int .i64 x.uses)) := ⟨_, rfl⟩
  have T3 : Hid (TQ w w3 aw nw cw ap np cp ak nk ck al nl cl ai ni ci x (fun _ => True) #[.int .i64 x.tm, .int .i64 x.uses, .int .i64 0, .string ⟨#[]⟩, .int .i64 0, .int .i64 0, .slice none 0 0, .slice none 0 0, .bool false, .bool false, .bool false, .slice none 0 0, .slice none 0 0, .bool false, .slice none 0 0]) := by rw [hw3]; exact (T2.out.set 1 _ rfl)
  have HW3 : Hid (_ = _) := hw3
  clear hw3
  go_upto_region 4 with fail
  rw [← HW3.out]
  clear HW3 o1 f1 l1 m2 T2
  obtain ⟨_, _, l2⟩ := T3.out.out 2
  have l2 : w3.cell? ⟨w.heap.size, 2, none⟩ = some (.int .i64 x.want.g.kind) := l2
  obtain ⟨_, _, l3⟩ := T3.out.out 3
  have l3 : w3.cell? ⟨w.heap.size, 3, none⟩ = some (.string x.want.g.text) := l3
  obtain ⟨_, _, l4⟩ := T3.out.out 4
  have l4 : w3.cell? ⟨w.heap.size, 4, none⟩ = some (.int .i64 x.want.g.addr) := l4
  obtain ⟨_, _, l5⟩ := T3.out.out 5
  have l5 : w3.cell? ⟨w.heap.size, 5, none⟩ = some (.int .i64 x.want.g.bits) := l5
  obtain ⟨_, _, l6⟩ := T3.out.out 6
  have l6 : w3.cell? ⟨w.heap.size, 6, none⟩ = some (.slice aw nw cw) := l6
  have m3 := T3.out.lt
  go_wp2_with fail
  refine (toGenName_at x.want.g aw nw cw x.want.parts _ (HK.out.kept T3.out.below).nm HZ.out.2.1).mono ?_
  rintro e w4 ⟨gw, rfl, hgw, hp, hb⟩
  have T4 : Hid (TQ w w4 aw nw cw ap np cp ak nk ck al nl cl ai ni ci x (fun W => Keeps (w.heap.size + 3) W (fun W => Pts W (some ⟨gw, 0, none⟩) nw x.want.parts)) #[.int .i64 x.tm, .int .i64 x.uses, .int .i64 0, .string ⟨#[]⟩, .int .i64 0, .int .i64 0, .slice none 0 0, .slice none 0 0, .bool false, .bool false, .bool false, .slice none 0 0, .slice none 0 0, .bool false, .slice none 0 0]) := (T3.out.on hb).more (stab_keeps _ _) (keeps_of (stab_pts (by omega)) hp)
  clear hb hp T3 l2 l3 l4 l5 l6 m3
  unfold gnv
  obtain ⟨o2, f2, l2⟩ := T4.out.out 2
  have o2 : w4.cell? ⟨w.heap.size + 1 + 1, 2, none⟩ = some (.int .i64 0) := o2
  have l2 : w4.cell? ⟨w.heap.size, 2, none⟩ = some (.int .i64 x.want.g.kind) := l2
  obtain ⟨o3, f3, l3⟩ := T4.out.out 3
  have o3 : w4.cell? ⟨w.heap.size + 1 + 1, 3, none⟩ = some (.string ⟨#[]⟩) := o3
  have l3 : w4.cell? ⟨w.heap.size, 3, none⟩ = some (.string x.want.g.text) := l3
  obtain ⟨o4, f4, l4⟩ := T4.out.out 4
  have o4 : w4.cell? ⟨w.heap.size + 1 + 1, 4, none⟩ = some (.int .i64 0) := o4
  have l4 : w4.cell? ⟨w.heap.size, 4, none⟩ = some (.int .i64 x.want.g.addr) := l4
  obtain ⟨o5, f5, l5⟩ := T4.out.out 5
  have o5 : w4.cell? ⟨w.heap.size + 1 + 1, 5, none⟩ = some (.int .i64 0) := o5
  have l5 : w4.cell? ⟨w.heap.size, 5, none⟩ = some (.int .i64 x.want.g.bits) := l5
  obtain ⟨o6, f6, l6⟩ := T4.out.out 6
  have o6 : w4.cell? ⟨w.heap.size + 1 + 1, 6, none⟩ = some (.slice none 0 0) := o6
  have l6 : w4.cell? ⟨w.heap.size, 6, none⟩ = some (.slice aw nw cw) := l6
  have m4 := T4.out.lt
  obtain ⟨w5, hw5⟩ : ∃ W, W = (((((w4.setCell ⟨w.heap.size + 1 + 1, 2, none⟩ (.int .i64 x.want.g.kind)).setCell ⟨w.heap.size + 1 + 1, 3, none⟩ (.string x.want.g.text)).setCell ⟨w.heap.size + 1 + 1, 4, none⟩ (.int .i64 x.want.g.addr)).setCell ⟨w.heap.size + 1 + 1, 5, none⟩ (.int .i64 x.want.g.bits)).setCell ⟨w.heap.size + 1 + 1, 6, none⟩ (.slice (some ⟨gw, 0, none⟩) nw nw)) := ⟨_, rfl⟩
  have T5 : Hid (TQ w w5 aw nw cw ap np cp ak nk ck al nl cl ai ni ci x (fun W => Keeps (w.heap.size + 3) W (fun W => Pts W (some ⟨gw, 0, none⟩) nw x.want.parts)) #[.int .i64 x.tm, .int .i64 x.uses, .int .i64 x.want.g.kind, .string x.want.g.text, .int .i64 x.want.g.addr, .int .i64 x.want.g.bits, .slice (some ⟨gw, 0, none⟩) nw nw, .slice none 0 0, .bool false, .bool false, .bool false, .slice none 0 0, .slice none 0 0, .bool false, .slice none 0 0]) := by rw [hw5]; exact (((((T4.out.set 2 _ rfl).set 3 _ rfl).set 4 _ rfl).set 5 _ rfl).set 6 _ rfl)
  have HW5 : Hid (_ = _) := hw5
  clear hw5
  go_upto_region 5 with fail
  rw [← HW5.out]
  clear HW5 o2 f2 l2 o3 f3 l3 o4 f4 l4 o5 f5 l5 o6 f6 l6 m4 T4
  obtain ⟨_, _, l7⟩ := T5.out.out 7
  have l7 : w5.cell? ⟨w.heap.size, 7, none⟩ = some (.slice ap np cp) := l7
  have m5 := T5.out.lt
  go_wp2_with fail
  refine (toInt64S_k ap np cp x.pol _ (HK.out.kept T5.out.below).po HZ.out.2.2.2.1).mono ?_
  rintro e w6 ⟨sp, rfl, hp, hb⟩
  have T6 : Hid (TQ w w6 aw nw cw ap np cp ak nk ck al nl cl ai ni ci x (fun W => (Keeps (w.heap.size + 3) W (fun W => Pts W (some ⟨gw, 0, none⟩) nw x.want.parts)) ∧ Keeps (w.heap.size + 3) W (fun W => Row64 W sp np x.pol)) #[.int .i64 x.tm, .int .i64 x.uses, .int .i64 x.want.g.kind, .string x.want.g.text, .int .i64 x.want.g.addr, .int .i64 x.want.g.bits, .slice (some ⟨gw, 0, none⟩) nw nw, .slice none 0 0, .bool false, .bool false, .bool false, .slice none 0 0, .slice none 0 0, .bool false, .slice none 0 0]) := (T5.out.on hb).more (stab_and T5.out.st (stab_keeps _ _)) ⟨(T5.out.on hb).r, hp.mono (by omega)⟩
  clear hb hp T5 l7 m5
  obtain ⟨o7, f7, l7⟩ := T6.out.out 7
  have o7 : w6.cell? ⟨w.heap.size + 1 + 1, 7, none⟩ = some (.slice none 0 0) := o7
  have l7 : w6.cell? ⟨w.heap.size, 7, none⟩ = some (.slice ap np cp) := l7
  have m6 := T6.out.lt
  obtain ⟨w7, hw7⟩ : ∃ W, W = (w6.setCell ⟨w.heap.size + 1 + 1, 7, none⟩ (.slice sp np np)) := ⟨_, rfl⟩
  have T7 : Hid (TQ w w7 aw nw cw ap np cp ak nk ck al nl cl ai ni ci x (fun W => (Keeps (w.heap.size + 3) W (fun W => Pts W (some ⟨gw, 0, none⟩) nw x.want.parts)) ∧ Keeps (w.heap.size + 3) W (fun W => Row64 W sp np x.pol)) #[.int .i64 x.tm, .int .i64 x.uses, .int .i64 x.want.g.kind, .string x.want.g.text, .int .i64 x.want.g.addr, .int .i64 x.want.g.bits, .slice (some ⟨gw, 0, none⟩) nw nw, .slice sp np np, .bool false, .bool false, .bool false, .slice none 0 0, .slice none 0 0, .bool false, .slice none 0 0]) := by rw [hw7]; exact (T6.out.set 7 _ rfl)
  have HW7 : Hid (_ = _) := hw7
  clear hw7
  go_upto_region 6 with fail
  rw [← HW7.out]
  clear HW7 o7 f7 l7 m6 T6
  obtain ⟨o8, f8, l8⟩ := T7.out.out 8
  have o8 : w7.cell? ⟨w.heap.size + 1 + 1, 8, none⟩ = some (.bool false) := o8
  have l8 : w7.cell? ⟨w.heap.size, 8, none⟩ = some (.bool x.need) := l8
  have m7 := T7.out.lt
  obtain ⟨w8, hw8⟩ : ∃ W, W = (w7.setCell ⟨w.heap.size + 1 + 1, 8, none⟩ (.bool x.need)) := ⟨_, rfl⟩
  have T8 : Hid (TQ w w8 aw nw cw ap np cp ak nk ck al nl cl ai ni ci x (fun W => (Keeps (w.heap.size + 3) W (fun W => Pts W (some ⟨gw, 0, none⟩) nw x.want.parts)) ∧ Keeps (w.heap.size + 3) W (fun W => Row64 W sp np x.pol)) #[.int .i64 x.tm, .int .i64 x.uses, .int .i64 x.want.g.kind, .string x.want.g.text, .int .i64 x.want.g.addr, .int .i64 x.want.g.bits, .slice (some ⟨gw, 0, none⟩) nw nw, .slice sp np np, .bool x.need, .bool false, .bool false, .slice none 0 0, .slice none 0 0, .bool false, .slice none 0 0]) := by rw [hw8]; exact (T7.out.set 8 _ rfl)
  have HW8 : Hid (_ = _) := hw8
  clear hw8
  go_upto_region 7 with fail
  rw [← HW8.out]
  clear HW8 o8 f8 l8 m7 T7
  obtain ⟨o9, f9, l9⟩ := T8.out.out 9
  have o9 : w8.cell? ⟨w.heap.size + 1 + 1, 9, none⟩ = some (.bool false) := o9
  have l9 : w8.cell? ⟨w.heap.size, 9, none⟩ = some (.bool x.nomap) := l9
  have m8 := T8.out.lt
  obtain ⟨w9, hw9⟩ : ∃ W, W = (w8.setCell ⟨w.heap.size + 1 + 1, 9, none⟩ (.bool x.nomap)) := ⟨_, rfl⟩
  have T9 : Hid (TQ w w9 aw nw cw ap np cp ak nk ck al nl cl ai ni ci x (fun W => (Keeps (w.heap.size + 3) W (fun W => Pts W (some ⟨gw, 0, none⟩) nw x.want.parts)) ∧ Keeps (w.heap.size + 3) W (fun W => Row64 W sp np x.pol)) #[.int .i64 x.tm, .int .i64 x.uses, .int .i64 x.want.g.kind, .string x.want.g.text, .int .i64 x.want.g.addr, .int .i64 x.want.g.bits, .slice (some ⟨gw, 0, none⟩) nw nw, .slice sp np np, .bool x.need, .bool x.nomap, .bool false, .slice none 0 0, .slice none 0 0, .bool false, .slice none 0 0]) := by rw [hw9]; exact (T8.out.set 9 _ rfl)
  have HW9 : Hid (_ = _) := hw9
  clear hw9
  go_upto_region 8 with fail
  rw [← HW9.out]
  clear HW9 o9 f9 l9 m8 T8
  obtain ⟨o10, f10, l10⟩ := T9.out.out 10
  have o10 : w9.cell? ⟨w.heap.size + 1 + 1, 10, none⟩ = some (.bool false) := o10
  have l10 : w9.cell? ⟨w.heap.size, 10, none⟩ = some (.bool x.noany) := l10
  have m9 := T9.out.lt
  obtain ⟨w10, hw10⟩ : ∃ W, W = (w9.setCell ⟨w.heap.size + 1 + 1, 10, none⟩ (.bool x.noany)) := ⟨_, rfl⟩
  have T10 : Hid (TQ w w10 aw nw cw ap np cp ak nk ck al nl cl ai ni ci x (fun W => (Keeps (w.heap.size + 3) W (fun W => Pts W (some ⟨gw, 0, none⟩) nw x.want.parts)) ∧ Keeps (w.heap.size + 3) W (fun W => Row64 W sp np x.pol)) #[.int .i64 x.tm, .int .i64 x.uses, .int .i64 x.want.g.kind, .string x.want.g.text, .int .i64 x.want.g.addr, .int .i64 x.want.g.bits, .slice (some ⟨gw, 0, none⟩) nw nw, .slice sp np np, .bool x.need, .bool x.nomap, .bool x.noany, .slice none 0 0, .slice none 0 0, .bool false, .slice none 0 0]) := by rw [hw10]; exact (T9.out.set 10 _ rfl)
  have HW10 : Hid (_ = _) := hw10
  clear hw10
  go_upto_region 9 with fail
  rw [← HW10.out]
  clear HW10 o10 f10 l10 m9 T9
  obtain ⟨_, _, l11⟩ := T10.out.out 11
  have l11 : w10.cell? ⟨w.heap.size, 11, none⟩ = some (.slice ak nk ck) := l11
  have m10 := T10.out.lt
  go_wp2_with fail
  refine (toInt64S_k ak nk ck x.known _ (HK.out.kept T10.out.below).kn HZ.out.2.2.2.2.1).mono ?_
  rintro e w11 ⟨sk, rfl, hp, hb⟩
  have T11 : Hid (TQ w w11 aw nw cw ap np cp ak nk ck al nl cl ai ni ci x (fun W => ((Keeps (w.heap.size + 3) W (fun W => Pts W (some ⟨gw, 0, none⟩) nw x.want.parts)) ∧ Keeps (w.heap.size + 3) W (fun W => Row64 W sp np x.pol)) ∧ Keeps (w.heap.size + 3) W (fun W => Row64 W sk nk x.known)) #[.int .i64 x.tm, .int .i64 x.uses, .int .i64 x.want.g.kind, .string x.want.g.text, .int .i64 x.want.g.addr, .int .i64 x.want.g.bits, .slice (some ⟨gw, 0, none⟩) nw nw, .slice sp np np, .bool x.need, .bool x.nomap, .bool x.noany, .slice none 0 0, .slice none 0 0, .bool false, .slice none 0 0]) := (T10.out.on hb).more (stab_and T10.out.st (stab_keeps _ _)) ⟨(T10.out.on hb).r, hp.mono (by omega)⟩
  clear hb hp T10 l11 m10
  obtain ⟨o11, f11, l11⟩ := T11.out.out 11
  have o11 : w11.cell? ⟨w.heap.size + 1 + 1, 11, none⟩ = some (.slice none 0 0) := o11
  have l11 : w11.cell? ⟨w.heap.size, 11, none⟩ = some (.slice ak nk ck) := l11
  have m11 := T11.out.lt
  obtain ⟨w12, hw12⟩ : ∃ W, W = (w11.setCell ⟨w.heap.size + 1 + 1, 11, none⟩ (.slice sk nk nk)) := ⟨_, rfl⟩
  have T12 : Hid (TQ w w12 aw nw cw ap np cp ak nk ck al nl cl ai ni ci x (fun W => ((Keeps (w.heap.size + 3) W (fun W => Pts W (some ⟨gw, 0, none⟩) nw x.want.parts)) ∧ Keeps (w.heap.size + 3) W (fun W => Row64 W sp np x.pol)) ∧ Keeps (w.heap.size + 3) W (fun W => Row64 W sk nk x.known)) #[.int .i64 x.tm, .int .i64 x.uses, .int .i64 x.want.g.kind, .string x.want.g.text, .int .i64 x.want.g.addr, .int .i64 x.want.g.bits, .slice (some ⟨gw, 0, none⟩) nw nw, .slice sp np np, .bool x.need, .bool x.nomap, .bool x.noany, .slice sk nk nk, .slice none 0 0, .bool false, .slice none 0 0]) := by rw [hw12]; exact (T11.out.set 11 _ rfl)
  have HW12 : Hid (_ = _) := hw12
  clear hw12
  go_upto_region 10 with fail
  rw [← HW12.out]
  clear HW12 o11 f11 l11 m11 T11
  obtain ⟨_, _, l12⟩ := T12.out.out 12
  have l12 : w12.cell? ⟨w.heap.size, 12, none⟩ = some (.slice al nl cl) := l12
  have m12 := T12.out.lt
  go_wp2_with fail
  refine (toCrlS_k al nl cl x.lists _ (HK.out.kept T12.out.below).li HZ.out.2.2.2.2.2.1 HZ.out.2.2.2.2.2.2.1).mono ?_
  rintro e w13 ⟨sl, rfl, hp, hb⟩
  have T13 : Hid (TQ w w13 aw nw cw ap np cp ak nk ck al nl cl ai ni ci x (fun W => (((Keeps (w.heap.size + 3) W (fun W => Pts W (some ⟨gw, 0, none⟩) nw x.want.parts)) ∧ Keeps (w.heap.size + 3) W (fun W => Row64 W sp np x.pol)) ∧ Keeps (w.heap.size + 3) W (fun W => Row64 W sk nk x.known)) ∧ Keeps (w.heap.size + 3) W (fun W => Cls W sl nl x.lists)) #[.int .i64 x.tm, .int .i64 x.uses, .int .i64 x.want.g.kind, .string x.want.g.text, .int .i64 x.want.g.addr, .int .i64 x.want.g.bits, .slice (some ⟨gw, 0, none⟩) nw nw, .slice sp np np, .bool x.need, .bool x.nomap, .bool x.noany, .slice sk nk nk, .slice none 0 0, .bool false, .slice none 0 0]) := (T12.out.on hb).more (stab_and T12.out.st (stab_keeps _ _)) ⟨(T12.out.on hb).r, hp.mono (by omega)⟩
  clear hb hp T12 l12 m12
  obtain ⟨o12, f12, l12⟩ := T13.out.out 12
  have o12 : w13.cell? ⟨w.heap.size + 1 + 1, 12, none⟩ = some (.slice none 0 0) := o12
  have l12 : w13.cell? ⟨w.heap.size, 12, none⟩ = some (.slice al nl cl) := l12
  have m13 := T13.out.lt
  obtain ⟨w14, hw14⟩ : ∃ W, W = (w13.setCell ⟨w.heap.size + 1 + 1, 12, none⟩ (.slice sl nl nl)) := ⟨_, rfl⟩
  have T14 : Hid (TQ w w14 aw nw cw ap np cp ak nk ck al nl cl ai ni ci x (fun W => (((Keeps (w.heap.size + 3) W (fun W => Pts W (some ⟨gw, 0, none⟩) nw x.want.parts)) ∧ Keeps (w.heap.size + 3) W (fun W => Row64 W sp np x.pol)) ∧ Keeps (w.heap.size + 3) W (fun W => Row64 W sk nk x.known)) ∧ Keeps (w.heap.size + 3) W (fun W => Cls W sl nl x.lists)) #[.int .i64 x.tm, .int .i64 x.uses, .int .i64 x.want.g.kind, .string x.want.g.text, .int .i64 x.want.g.addr, .int .i64 x.want.g.bits, .slice (some ⟨gw, 0, none⟩) nw nw, .slice sp np np, .bool x.need, .bool x.nomap, .bool x.noany, .slice sk nk nk, .slice sl nl nl, .bool false, .slice none 0 0]) := by rw [hw14]; exact (T13.out.set 12 _ rfl)
  have HW14 : Hid (_ = _) := hw14
  clear hw14
  go_upto_region 11 with fail
  rw [← HW14.out]
  clear HW14 o12 f12 l12 m13 T13
  obtain ⟨o13, f13, l13⟩ := T14.out.out 13
  have o13 : w14.cell? ⟨w.heap.size + 1 + 1, 13, none⟩ = some (.bool false) := o13
  have l13 : w14.cell? ⟨w.heap.size, 13, none⟩ = some (.bool x.hard) := l13
  have m14 := T14.out.lt
  obtain ⟨w15, hw15⟩ : ∃ W, W = (w14.setCell ⟨w.heap.size + 1 + 1, 13, none⟩ (.bool x.hard)) := ⟨_, rfl⟩
  have T15 : Hid (TQ w w15 aw nw cw ap np cp ak nk ck al nl cl ai ni ci x (fun W => (((Keeps (w.heap.size + 3) W (fun W => Pts W (some ⟨gw, 0, none⟩) nw x.want.parts)) ∧ Keeps (w.heap.size + 3) W (fun W => Row64 W sp np x.pol)) ∧ Keeps (w.heap.size + 3) W (fun W => Row64 W sk nk x.known)) ∧ Keeps (w.heap.size + 3) W (fun W => Cls W sl nl x.lists)) #[.int .i64 x.tm, .int .i64 x.uses, .int .i64 x.want.g.kind, .string x.want.g.text, .int .i64 x.want.g.addr, .int .i64 x.want.g.bits, .slice (some ⟨gw, 0, none⟩) nw nw, .slice sp np np, .bool x.need, .bool x.nomap, .bool x.noany, .slice sk nk nk, .slice sl nl nl, .bool x.hard, .slice none 0 0]) := by rw [hw15]; exact (T14.out.set 13 _ rfl)
  have HW15 : Hid (_ = _) := hw15
  clear hw15
  go_upto_region 12 with fail
  rw [← HW15.out]
  clear HW15 o13 f13 l13 m14 T14
  obtain ⟨_, _, l14⟩ := T15.out.out 14
  have l14 : w15.cell? ⟨w.heap.size, 14, none⟩ = some (.slice ai ni ci) := l14
  have m15 := T15.out.lt
  go_wp2_with fail
  refine (toUint64S_k ai ni ci x.pins _ (HK.out.kept T15.out.below).pi HZ.out.2.2.2.2.2.2.2).mono ?_
  rintro e w16 ⟨si, rfl, hp, hb⟩
  have T16 : Hid (TQ w w16 aw nw cw ap np cp ak nk ck al nl cl ai ni ci x (fun W => ((((Keeps (w.heap.size + 3) W (fun W => Pts W (some ⟨gw, 0, none⟩) nw x.want.parts)) ∧ Keeps (w.heap.size + 3) W (fun W => Row64 W sp np x.pol)) ∧ Keeps (w.heap.size + 3) W (fun W => Row64 W sk nk x.known)) ∧ Keeps (w.heap.size + 3) W (fun W => Cls W sl nl x.lists)) ∧ Keeps (w.heap.size + 3) W (fun W => RowV W si ni x.pins)) #[.int .i64 x.tm, .int .i64 x.uses, .int .i64 x.want.g.kind, .string x.want.g.text, .int .i64 x.want.g.addr, .int .i64 x.want.g.bits, .slice (some ⟨gw, 0, none⟩) nw nw, .slice sp np np, .bool x.need, .bool x.nomap, .bool x.noany, .slice sk nk nk, .slice sl nl nl, .bool x.hard, .slice none 0 0]) := (T15.out.on hb).more (stab_and T15.out.st (stab_keeps _ _)) ⟨(T15.out.on hb).r, hp.mono (by omega)⟩
  clear hb hp T15 l14 m15
  obtain ⟨o14, f14, l14⟩ := T16.out.out 14
  have o14 : w16.cell? ⟨w.heap.size + 1 + 1, 14, none⟩ = some (.slice none 0 0) := o14
  have l14 : w16.cell? ⟨w.heap.size, 14, none⟩ = some (.slice ai ni ci) := l14
  have m16 := T16.out.lt
  obtain ⟨w17, hw17⟩ : ∃ W, W = (w16.setCell ⟨w.heap.size + 1 + 1, 14, none⟩ (.slice si ni ni)) := ⟨_, rfl⟩
  have T17 : Hid (TQ w w17 aw nw cw ap np cp ak nk ck al nl cl ai ni ci x (fun W => ((((Keeps (w.heap.size + 3) W (fun W => Pts W (some ⟨gw, 0, none⟩) nw x.want.parts)) ∧ Keeps (w.heap.size + 3) W (fun W => Row64 W sp np x.pol)) ∧ Keeps (w.heap.size + 3) W (fun W => Row64 W sk nk x.known)) ∧ Keeps (w.heap.size + 3) W (fun W => Cls W sl nl x.lists)) ∧ Keeps (w.heap.size + 3) W (fun W => RowV W si ni x.pins)) #[.int .i64 x.tm, .int .i64 x.uses, .int .i64 x.want.g.kind, .string x.want.g.text, .int .i64 x.want.g.addr, .int .i64 x.want.g.bits, .slice (some ⟨gw, 0, none⟩) nw nw, .slice sp np np, .bool x.need, .bool x.nomap, .bool x.noany, .slice sk nk nk, .slice sl nl nl, .bool x.hard, .slice si ni ni]) := by rw [hw17]; exact (T16.out.set 14 _ rfl)
  have HW17 : Hid (_ = _) := hw17
  clear hw17
  go_upto_region 13 with fail
  rw [← HW17.out]
  clear HW17 o14 f14 l14 m16 T16
  have HMX : Hid (x.want.g.text.size ≤ 9223372036854775807 ∧ np ≤ 9223372036854775807 ∧ nk ≤ 9223372036854775807 ∧ ni ≤ 9223372036854775807) := ⟨HK.out.tx, HK.out.xp, HK.out.xk, HK.out.xi⟩
  clear HK
  have hlF := T17.out.lt
  rename_i K0 hK0
  apply wp_region_lit
  refine wpList_load_row rfl 41 _ rfl (w.heap.size + 1 + 1) rfl 41 #[.int .i64 x.tm, .int .i64 x.uses, .int .i64 x.want.g.kind, .string x.want.g.text, .int .i64 x.want.g.addr, .int .i64 x.want.g.bits, .slice (some ⟨gw, 0, none⟩) nw nw, .slice sp np np, .bool x.need, .bool x.nomap, .bool x.noany, .slice sk nk nk, .slice sl nl nl, .bool x.hard, .slice si ni ni] (0, 0) _ T17.out.b2 Tryz.underlying41 rfl infoSizeAsk ?_
  refine wpList_store_rowTo rfl 41 _ _ rfl rfl (w.heap.size + 1) #[.int .i64 x.tm, .int .i64 x.uses, .int .i64 x.want.g.kind, .string x.want.g.text, .int .i64 x.want.g.addr, .int .i64 x.want.g.bits, .slice (some ⟨gw, 0, none⟩) nw nw, .slice sp np np, .bool x.need, .bool x.nomap, .bool x.noany, .slice sk nk nk, .slice sl nl nl, .bool x.hard, .slice si ni ni] rfl rfl 41 #[.int .i64 0, .int .i64 0, .int .i64 0, .string ⟨#[]⟩, .int .i64 0, .int .i64 0, .slice none 0 0, .slice none 0 0, .bool false, .bool false, .bool false, .slice none 0 0, .slice none 0 0, .bool false, .slice none 0 0] T17.out.b1 infoSizeAsk rfl (by simp [Value.oneCell']) ?_
  apply wpList_nil
  refine hK0 _ _ ?_
  clear hK0 K0
  have hrow : (w17.setRow (w.heap.size + 1) #[.int .i64 x.tm, .int .i64 x.uses, .int .i64 x.want.g.kind, .string x.want.g.text, .int .i64 x.want.g.addr, .int .i64 x.want.g.bits, .slice (some ⟨gw, 0, none⟩) nw nw, .slice sp np np, .bool x.need, .bool x.nomap, .bool x.noany, .slice sk nk nk, .slice sl nl nl, .bool x.hard, .slice si ni ni]).heap[w.heap.size + 1]? = some (.cells #[.int .i64 x.tm, .int .i64 x.uses, .int .i64 x.want.g.kind, .string x.want.g.text, .int .i64 x.want.g.addr, .int .i64 x.want.g.bits, .slice (some ⟨gw, 0, none⟩) nw nw, .slice sp np np, .bool x.need, .bool x.nomap, .bool x.noany, .slice sk nk nk, .slice sl nl nl, .bool x.hard, .slice si ni ni] 41 (0, 0)) := setRow_heap _ _ _ _ _ _ T17.out.b1
  have hoth : ∀ l, l ≠ w.heap.size + 1 → (w17.setRow (w.heap.size + 1) #[.int .i64 x.tm, .int .i64 x.uses, .int .i64 x.want.g.kind, .string x.want.g.text, .int .i64 x.want.g.addr, .int .i64 x.want.g.bits, .slice (some ⟨gw, 0, none⟩) nw nw, .slice sp np np, .bool x.need, .bool x.nomap, .bool x.noany, .slice sk nk nk, .slice sl nl nl, .bool x.hard, .slice si ni ni]).heap[l]? = w17.heap[l]? := fun l hl => setRow_other _ _ _ _ hl
  have hsz : (w17.setRow (w.heap.size + 1) #[.int .i64 x.tm, .int .i64 x.uses, .int .i64 x.want.g.kind, .string x.want.g.text, .int .i64 x.want.g.addr, .int .i64 x.want.g.bits, .slice (some ⟨gw, 0, none⟩) nw nw, .slice sp np np, .bool x.need, .bool x.nomap, .bool x.noany, .slice sk nk nk, .slice sl nl nl, .bool x.hard, .slice si ni ni]).heap.size = w17.heap.size := by simp
  have hbF : Below w.heap.size w (w17.setRow (w.heap.size + 1) #[.int .i64 x.tm, .int .i64 x.uses, .int .i64 x.want.g.kind, .string x.want.g.text, .int .i64 x.want.g.addr, .int .i64 x.want.g.bits, .slice (some ⟨gw, 0, none⟩) nw nw, .slice sp np np, .bool x.need, .bool x.nomap, .bool x.noany, .slice sk nk nk, .slice sl nl nl, .bool x.hard, .slice si ni ni]) := ⟨T17.out.below.os, T17.out.below.tape, T17.out.below.output, by rw [hsz]; exact T17.out.below.size, fun l hl => (hoth l (by omega)).trans (T17.out.below.block l hl)⟩
  have hr := T17.out.st w17 (w17.setRow (w.heap.size + 1) #[.int .i64 x.tm, .int .i64 x.uses, .int .i64 x.want.g.kind, .string x.want.g.text, .int .i64 x.want.g.addr, .int .i64 x.want.g.bits, .slice (some ⟨gw, 0, none⟩) nw nw, .slice sp np np, .bool x.need, .bool x.nomap, .bool x.noany, .slice sk nk nk, .slice sl nl nl, .bool x.hard, .slice si ni ni]) (fun l hl hl2 => hoth l (by omega)) (Nat.le_of_eq hsz.symm) T17.out.r
  go_wp2
  try simp only [Exit.inBlock, Exit.then]
  obtain ⟨⟨⟨⟨k1, k2⟩, k3⟩, k4⟩, k5⟩ := hr
  refine bodyPost_ret (results_cell_row rfl _ _ (w.heap.size + 1) 41 _ (0, 0) _ rfl hrow Tryz.underlying41 rfl infoSizeAsk) rfl ⟨_, _, _, _, _, rfl, ⟨k1.now, HMX.out.1, k2.now, HMX.out.2.1, k3.now, HMX.out.2.2.1, k4.now, k5.now, HMX.out.2.2.2⟩, hbF⟩

set_option maxRecDepth 10000 in
set_option maxHeartbeats 4000000 in
theorem eqAsk_same (aw : Option Addr) (nw cw : Nat) (ap : Option Addr) (np cp : Nat) (ak : Option Addr) (nk ck : Nat) (al : Option Addr) (nl cl : Nat) (ai : Option Addr) (ni ci : Nat) (x : QP) (bw : Option Addr) (dw : Nat) (bp : Option Addr) (dp : Nat) (bk : Option Addr) (dk : Nat) (bl : Option Addr) (dl : Nat) (bi : Option Addr) (di : Nat) (w : World) (h : Asks w aw nw ap np ak nk al nl ai ni x) (h2 : Asks w bw nw bp np bk nk bl nl bi ni x) (hz : AskZ nw np nk nl ni x) :
    Calls Tryz.prog 8 #[aqv aw nw cw ap np cp ak nk ck al nl cl ai ni ci x, aqv bw nw dw bp np dp bk nk dk bl nl dl bi ni di x] w fun e w' => e = .returned (.bool true) ∧ Below w.heap.size w w' := by
  have H1 : Hid (Asks w aw nw ap np ak nk al nl ai ni x) := h
  have H2 : Hid (Asks w bw nw bp np bk nk bl nl bi ni x) := h2
  have HZ : Hid (AskZ nw np nk nl ni x) := hz
  clear h h2 hz
  unfold aqv
  obtain ⟨w0, hW0⟩ : ∃ W0, W0 = ((w.alloc (.cells #[.int .i64 x.tm, .int .i64 x.uses, .int .i64 x.want.g.kind, .string x.want.g.text, .int .i64 x.want.g.addr, .int .i64 x.want.g.bits, .slice aw nw cw, .slice ap np cp, .bool x.need, .bool x.nomap, .bool x.noany, .slice ak nk ck, .slice al nl cl, .bool x.hard, .slice ai ni ci] 41)).alloc (.cells #[.int .i64 x.tm, .int .i64 x.uses, .int .i64 x.want.g.kind, .string x.want.g.text, .int .i64 x.want.g.addr, .int .i64 x.want.g.bits, .slice bw nw dw, .slice bp np dp, .bool x.need, .bool x.nomap, .bool x.noany, .slice bk nk dk, .slice bl nl dl, .bool x.hard, .slice bi ni di] 41)) := ⟨_, rfl⟩
  have HB0 : Hid (Below w.heap.size w w0) := by show Below w.heap.size w w0; rw [hW0]; exact ((Below.refl _ _).alloc (Nat.le_refl _) _).alloc (by simp) _
  obtain ⟨y0, y1⟩ := two_blocks w (.cells #[.int .i64 x.tm, .int .i64 x.uses, .int .i64 x.want.g.kind, .string x.want.g.text, .int .i64 x.want.g.addr, .int .i64 x.want.g.bits, .slice aw nw cw, .slice ap np cp, .bool x.need, .bool x.nomap, .bool x.noany, .slice ak nk ck, .slice al nl cl, .bool x.hard, .slice ai ni ci] 41) (.cells #[.int .i64 x.tm, .int .i64 x.uses, .int .i64 x.want.g.kind, .string x.want.g.text, .int .i64 x.want.g.addr, .int .i64 x.want.g.bits, .slice bw nw dw, .slice bp np dp, .bool x.need, .bool x.nomap, .bool x.noany, .slice bk nk dk, .slice bl nl dl, .bool x.hard, .slice bi ni di] 41)
  rw [← hW0] at y0 y1
  have Y0 : Hid (_ = _) := y0
  have Y1 : Hid (_ = _) := y1
  have l0 : w.heap.size + 1 < w0.heap.size := (Array.getElem?_eq_some_iff.1 y1).1
  have p0 : w0.cell? ⟨w.heap.size, 0, none⟩ = some (.int .i64 x.tm) := (cell_of_row _ _ 0 _ 41 (0, 0) y0).trans rfl
  have q0 : w0.cell? ⟨w.heap.size + 1, 0, none⟩ = some (.int .i64 x.tm) := (cell_of_row _ _ 0 _ 41 (0, 0) y1).trans rfl
  have p1 : w0.cell? ⟨w.heap.size, 1, none⟩ = some (.int .i64 x.uses) := (cell_of_row _ _ 1 _ 41 (0, 0) y0).trans rfl
  have q1 : w0.cell? ⟨w.heap.size + 1, 1, none⟩ = some (.int .i64 x.uses) := (cell_of_row _ _ 1 _ 41 (0, 0) y1).trans rfl
  have p2 : w0.cell? ⟨w.heap.size, 2, none⟩ = some (.int .i64 x.want.g.kind) := (cell_of_row _ _ 2 _ 41 (0, 0) y0).trans rfl
  have q2 : w0.cell? ⟨w.heap.size + 1, 2, none⟩ = some (.int .i64 x.want.g.kind) := (cell_of_row _ _ 2 _ 41 (0, 0) y1).trans rfl
  have p3 : w0.cell? ⟨w.heap.size, 3, none⟩ = some (.string x.want.g.text) := (cell_of_row _ _ 3 _ 41 (0, 0) y0).trans rfl
  have q3 : w0.cell? ⟨w.heap.size + 1, 3, none⟩ = some (.string x.want.g.text) := (cell_of_row _ _ 3 _ 41 (0, 0) y1).trans rfl
  have p4 : w0.cell? ⟨w.heap.size, 4, none⟩ = some (.int .i64 x.want.g.addr) := (cell_of_row _ _ 4 _ 41 (0, 0) y0).trans rfl
  have q4 : w0.cell? ⟨w.heap.size + 1, 4, none⟩ = some (.int .i64 x.want.g.addr) := (cell_of_row _ _ 4 _ 41 (0, 0) y1).trans rfl
  have p5 : w0.cell? ⟨w.heap.size, 5, none⟩ = some (.int .i64 x.want.g.bits) := (cell_of_row _ _ 5 _ 41 (0, 0) y0).trans rfl
  have q5 : w0.cell? ⟨w.heap.size + 1, 5, none⟩ = some (.int .i64 x.want.g.bits) := (cell_of_row _ _ 5 _ 41 (0, 0) y1).trans rfl
  have p6 : w0.cell? ⟨w.heap.size, 6, none⟩ = some (.slice aw nw cw) := (cell_of_row _ _ 6 _ 41 (0, 0) y0).trans rfl
  have q6 : w0.cell? ⟨w.heap.size + 1, 6, none⟩ = some (.slice bw nw dw) := (cell_of_row _ _ 6 _ 41 (0, 0) y1).trans rfl
  clear y0 y1
  have t1 : (x.tm != x.tm) = false := by simp
  have t2 : (x.uses != x.uses) = false := by simp
  have t3 : (x.need != x.need) = false := by simp
  have t4 : (x.nomap != x.nomap) = false := by simp
  have t5 : (x.noany != x.noany) = false := by simp
  have t6 : (x.hard != x.hard) = false := by simp
  go_enter Tryz.func8, Tryz.ntmps8
  go_upto_region 1 with fail
  rw [← hW0]
  clear hW0
  go_wp2_with fail
  refine (eqGenName_same x.want.g aw bw nw cw dw x.want.parts _ (H1.out.kept HB0.out).nm (H2.out.kept HB0.out).nm).mono ?_
  rintro e w1 ⟨rfl, hb1⟩
  have y0 := (hb1.block _ (by omega)).trans Y0.out
  have y1 := (hb1.block _ l0).trans Y1.out
  clear p0 q0 p1 q1 p2 q2 p3 q3 p4 q4 p5 q5 p6 q6
  have p7 : w1.cell? ⟨w.heap.size, 7, none⟩ = some (.slice ap np cp) := (cell_of_row _ _ 7 _ 41 (0, 0) y0).trans rfl
  have q7 : w1.cell? ⟨w.heap.size + 1, 7, none⟩ = some (.slice bp np dp) := (cell_of_row _ _ 7 _ 41 (0, 0) y1).trans rfl
  have HB1 : Hid (Below w.heap.size w w1) := HB0.out.trans (hb1.mono HB0.out.size)
  replace Y0 : Hid (_ = _) := y0
  replace Y1 : Hid (_ = _) := y1
  have l1 : w.heap.size + 1 < w1.heap.size := (Array.getElem?_eq_some_iff.1 y1).1
  clear hb1 y0 y1 HB0 l0
  go_wp2_with fail
  refine (eqInt64S_same ap bp np cp dp x.pol _ (H1.out.kept HB1.out).po (H2.out.kept HB1.out).po H1.out.xp).mono ?_
  rintro e w2 ⟨rfl, hb2⟩
  have y0 := (hb2.block _ (by omega)).trans Y0.out
  have y1 := (hb2.block _ l1).trans Y1.out
  clear p7 q7
  have p8 : w2.cell? ⟨w.heap.size, 8, none⟩ = some (.bool x.need) := (cell_of_row _ _ 8 _ 41 (0, 0) y0).trans rfl
  have q8 : w2.cell? ⟨w.heap.size + 1, 8, none⟩ = some (.bool x.need) := (cell_of_row _ _ 8 _ 41 (0, 0) y1).trans rfl
  have p9 : w2.cell? ⟨w.heap.size, 9, none⟩ = some (.bool x.nomap) := (cell_of_row _ _ 9 _ 41 (0, 0) y0).trans rfl
  have q9 : w2.cell? ⟨w.heap.size + 1, 9, none⟩ = some (.bool x.nomap) := (cell_of_row _ _ 9 _ 41 (0, 0) y1).trans rfl
  have p10 : w2.cell? ⟨w.heap.size, 10, none⟩ = some (.bool x.noany) := (cell_of_row _ _ 10 _ 41 (0, 0) y0).trans rfl
  have q10 : w2.cell? ⟨w.heap.size + 1, 10, none⟩ = some (.bool x.noany) := (cell_of_row _ _ 10 _ 41 (0, 0) y1).trans rfl
  have p11 : w2.cell? ⟨w.heap.size, 11, none⟩ = some (.slice ak nk ck) := (cell_of_row _ _ 11 _ 41 (0, 0) y0).trans rfl
  have q11 : w2.cell? ⟨w.heap.size + 1, 11, none⟩ = some (.slice bk nk dk) := (cell_of_row _ _ 11 _ 41 (0, 0) y1).trans rfl
  have HB2 : Hid (Below w.heap.size w w2) := HB1.out.trans (hb2.mono HB1.out.size)
  replace Y0 : Hid (_ = _) := y0
  replace Y1 : Hid (_ = _) := y1
  have l2 : w.heap.size + 1 < w2.heap.size := (Array.getElem?_eq_some_iff.1 y1).1
  clear hb2 y0 y1 HB1 l1
  go_wp2_with fail
  refine (eqInt64S_same ak bk nk ck dk x.known _ (H1.out.kept HB2.out).kn (H2.out.kept HB2.out).kn H1.out.xk).mono ?_
  rintro e w3 ⟨rfl, hb3⟩
  have y0 := (hb3.block _ (by omega)).trans Y0.out
  have y1 := (hb3.block _ l2).trans Y1.out
  clear p8 q8 p9 q9 p10 q10 p11 q11
  have p12 : w3.cell? ⟨w.heap.size, 12, none⟩ = some (.slice al nl cl) := (cell_of_row _ _ 12 _ 41 (0, 0) y0).trans rfl
  have q12 : w3.cell? ⟨w.heap.size + 1, 12, none⟩ = some (.slice bl nl dl) := (cell_of_row _ _ 12 _ 41 (0, 0) y1).trans rfl
  have HB3 : Hid (Below w.heap.size w w3) := HB2.out.trans (hb3.mono HB2.out.size)
  replace Y0 : Hid (_ = _) := y0
  replace Y1 : Hid (_ = _) := y1
  have l3 : w.heap.size + 1 < w3.heap.size := (Array.getElem?_eq_some_iff.1 y1).1
  clear hb3 y0 y1 HB2 l2
  go_wp2_with fail
  refine (eqCrlS_same al bl nl cl dl x.lists _ (H1.out.kept HB3.out).li (H2.out.kept HB3.out).li HZ.out.2.2.2.2.2.2.1).mono ?_
  rintro e w4 ⟨rfl, hb4⟩
  have y0 := (hb4.block _ (by omega)).trans Y0.out
  have y1 := (hb4.block _ l3).trans Y1.out
  clear p12 q12
  have p13 : w4.cell? ⟨w.heap.size, 13, none⟩ = some (.bool x.hard) := (cell_of_row _ _ 13 _ 41 (0, 0) y0).trans rfl
  have q13 : w4.cell? ⟨w.heap.size + 1, 13, none⟩ = some (.bool x.hard) := (cell_of_row _ _ 13 _ 41 (0, 0) y1).trans rfl
  have p14 : w4.cell? ⟨w.heap.size, 14, none⟩ = some (.slice ai ni ci) := (cell_of_row _ _ 14 _ 41 (0, 0) y0).trans rfl
  have q14 : w4.cell? ⟨w.heap.size + 1, 14, none⟩ = some (.slice bi ni di) := (cell_of_row _ _ 14 _ 41 (0, 0) y1).trans rfl
  have HB4 : Hid (Below w.heap.size w w4) := HB3.out.trans (hb4.mono HB3.out.size)
  replace Y0 : Hid (_ = _) := y0
  replace Y1 : Hid (_ = _) := y1
  have l4 : w.heap.size + 1 < w4.heap.size := (Array.getElem?_eq_some_iff.1 y1).1
  clear hb4 y0 y1 HB3 l3
  go_wp2_with fail
  refine (eqUint64S_q ai bi ni ci di x.pins _ (H1.out.kept HB4.out).pi (H2.out.kept HB4.out).pi H1.out.xi).mono ?_
  rintro e w5 ⟨rfl, hb5⟩
  have y0 := (hb5.block _ (by omega)).trans Y0.out
  have y1 := (hb5.block _ l4).trans Y1.out
  clear p13 q13 p14 q14
  have HB5 : Hid (Below w.heap.size w w5) := HB4.out.trans (hb5.mono HB4.out.size)
  replace Y0 : Hid (_ = _) := y0
  replace Y1 : Hid (_ = _) := y1
  have l5 : w.heap.size + 1 < w5.heap.size := (Array.getElem?_eq_some_iff.1 y1).1
  clear hb5 y0 y1 HB4 l4
  go_wp2
  go_ret
  exact ⟨rfl, HB5.out⟩

end Go.Proofs.YtilnjkbacaclbaaGreatDoor
