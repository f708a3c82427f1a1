import Derived.Test.YtjkkokjojaknkaaDoorG12
import Derived.Test.YtjkkokjojaknkaaDoorDI4
import Derived.Test.YtjkkokjojaknkaaDoorG10
import Derived.Test.YtjkkokjojaknkaaDoorRP0
namespace Go.Proofs.YtjkkokjojaknkaaDoor
open Go.RowKit

theorem own_capI {B : Nat} {w : World} {a : Option Addr} {n cap : Nat} {bs : List Int} (h : Own B w a n cap bs) : n ≤ cap := by
  rcases h.row.2 with ⟨hv, h0⟩ | ⟨g, cap', cur, hv, _, _, h3, _⟩
  · omega
  · simp only [Value.slice.injEq] at hv
    obtain ⟨_, _, rfl⟩ := hv
    omega

/-- A variable that holds an item, and all that the item reads. -/
structure IX (W : World) (g d : Nat) (x : It) (ab : Option Addr) (nb cb : Nat) (ak : Option Addr) (nk ck : Nat) : Prop where
  box : W.heap[g]? = some (.cells #[.int .i64 x.cls, .int .i64 x.tag, .bool x.cons, .slice ab nb cb, .slice ak nk ck] 26 (0, 0))
  row : Row W ab nb x.body
  nil : ab = none → cb = 0
  nb3 : nb ≤ 1048576
  kids : Kids d W ak nk x.kids
  wt : wtS d x.kids ≤ 1048576
theorem IX.lt {W : World} {g d : Nat} {x : It} {ab : Option Addr} {nb cb : Nat} {ak : Option Addr} {nk ck : Nat} (h : IX W g d x ab nb cb ak nk ck) : g < W.heap.size := (Array.getElem?_eq_some_iff.1 h.box).1
theorem IX.kept {W W' : World} {g d : Nat} {x : It} {ab : Option Addr} {nb cb : Nat} {ak : Option Addr} {nk ck : Nat} (h : IX W g d x ab nb cb ak nk ck) (hb : Below W.heap.size W W') : IX W' g d x ab nb cb ak nk ck :=
  ⟨(hb.block _ h.lt).trans h.box, h.row.kept hb, h.nil, h.nb3, h.kids.kept hb, h.wt⟩
theorem ix_new {w : World} {d : Nat} {x : It} {ab : Option Addr} {nb cb : Nat} {ak : Option Addr} {nk ck : Nat} (hr : Row w ab nb x.body) (hn : ab = none → cb = 0) (h3 : nb ≤ 1048576) (hk : Kids d w ak nk x.kids) (hw : wtS d x.kids ≤ 1048576) :
    IX (w.alloc (.cells #[.int .i64 x.cls, .int .i64 x.tag, .bool x.cons, .slice ab nb cb, .slice ak nk ck] 26)) w.heap.size d x ab nb cb ak nk ck := by
  have hb : Below w.heap.size w (w.alloc (.cells #[.int .i64 x.cls, .int .i64 x.tag, .bool x.cons, .slice ab nb cb, .slice ak nk ck] 26)) := (Below.refl _ _).alloc (Nat.le_refl _) _
  exact ⟨heap_alloc_new w _, hr.kept hb, hn, h3, hk.kept hb, hw⟩
theorem IX.cells {W : World} {g d : Nat} {x : It} {ab : Option Addr} {nb cb : Nat} {ak : Option Addr} {nk ck : Nat} (h : IX W g d x ab nb cb ak nk ck) :
    W.cell? ⟨g, 0, none⟩ = some (.int .i64 x.cls) ∧ W.cell? ⟨g, 1, none⟩ = some (.int .i64 x.tag) ∧ W.cell? ⟨g, 2, none⟩ = some (.bool x.cons) ∧ W.cell? ⟨g, 3, none⟩ = some (.slice ab nb cb) ∧ W.cell? ⟨g, 4, none⟩ = some (.slice ak nk ck) :=
  ⟨(cell_of_row _ _ 0 _ _ _ h.box).trans rfl, (cell_of_row _ _ 1 _ _ _ h.box).trans rfl, (cell_of_row _ _ 2 _ _ _ h.box).trans rfl, (cell_of_row _ _ 3 _ _ _ h.box).trans rfl, (cell_of_row _ _ 4 _ _ _ h.box).trans rfl⟩
/-- A literal of one number. -/
theorem row64_one (w : World) (v : Int) : Row64 (w.alloc (.cells #[.int .i64 v] 2)) (some ⟨w.heap.size, 0, none⟩) 1 [v] := by
  refine ⟨rfl, fun k hk => ⟨w.heap.size, 0, rfl, by simp, ?_⟩⟩
  have : k = 0 := by omega
  subst this
  exact (cell_of_row _ _ 0 _ _ _ (heap_alloc_new w _)).trans rfl
theorem walkL_one {x : It} (h : (enc 12 x).isSome = true) (i : Nat) (hi : i < x.kids.length) : walkL x [(i : Int)] = some (x.kids.getD i default) := by
  unfold walkL
  rw [if_pos h]
  simp only [walkP, stepL]
  rw [if_pos (by omega)]
  simp
theorem walkL_out {x : It} (h : (enc 12 x).isSome = true) : walkL x [(x.kids.length : Int)] = none := by
  unfold walkL
  rw [if_pos h]
  simp only [walkP, stepL]
  rw [if_neg (by omega)]
theorem walkL_all {x : It} (h : (enc 12 x).isSome = true) : walkL x [] = some x := by
  unfold walkL
  rw [if_pos h]
  rfl
theorem cnL_back {x : It} {l : List Int} (h : enc 12 x = some l) : cnL l = l := by
  unfold cnL
  rw [readR_back h]
  show (enc 12 x).getD [] = l
  rw [h]
  rfl
theorem Kids.len {d : Nat} {w : World} {a : Option Addr} {n : Nat} {xs : List It} (h : Kids d w a n xs) : xs.length = n := by
  cases d with
  | zero => exact h.elim
  | succ d => exact h.1
theorem OwnKids.out {d lo hi : Nat} {w : World} {a : Option Addr} {n : Nat} {xs : List It} (h : OwnKids d lo hi w a n xs) : Kids d w a n xs := h.kids

set_option maxRecDepth 10000 in
set_option maxHeartbeats 400000 in
theorem big_anyI (a : Option Addr) (n cap : Nat) (w : World) (_hn : n ≤ 9223372036854775807) : Calls Tryd.prog 8 #[.slice a n cap] w fun e w' => e = .returned (.bool (decide (1048576 < (n : Int)))) ∧ w = w' := by
  go_enter Tryd.func8, Tryd.ntmps8
  go_wp2
  go_ret
  exact ⟨rfl, rfl⟩

/-- What a reading answers: an item that reads, a code, a place. -/
def RdI (x : It) (c p : Int) (w : World) (ev : Ending) (w' : World) : Prop := Below w.heap.size w w' ∧ ∃ ab nb cb ak nk ck, ev = .returned (.tuple #[itv x ab nb cb ak nk ck, .int .i64 c, .int .i64 p]) ∧ Row w' ab nb x.body ∧ (ab = none → cb = 0) ∧ nb ≤ 1048576 ∧ Kids 12 w' ak nk x.kids ∧ wtS 12 x.kids ≤ 1048576
theorem read_any (a : Option Addr) (n cap : Nat) (lax : Bool) (bs : List Int) (w : World) (hE : ErrT w) (h : Row w a n bs) (hcap : n ≤ cap) (hn63 : n ≤ 9223372036854775807) :
    Calls Tryd.prog 14 #[.slice a n cap, .bool lax] w fun ev w' => RdI (yO (readR lax bs)) (cO (readR lax bs)) (pO (readR lax bs)) w ev w' := by
  refine (implReadItem_any a n cap lax bs w hE h hcap hn63).mono ?_
  intro ev w' hp
  obtain ⟨b2, ab, nb, cb, ak, nk, ck, M, rfl, m1, m2, ob, ok⟩ := hp.out
  have hs := readR_size lax bs
  have hl := ob.own.length
  exact ⟨b2, ab, nb, cb, ak, nk, ck, rfl, ob.own.toRow, ob.own.nil, by omega, ok.kids, by omega⟩
theorem read_back (a : Option Addr) (n cap : Nat) (lax : Bool) {x : It} {l : List Int} (hl : enc 12 x = some l) (w : World) (hE : ErrT w) (h : Row w a n l) (hcap : n ≤ cap) (hn63 : n ≤ 9223372036854775807) :
    Calls Tryd.prog 14 #[.slice a n cap, .bool lax] w fun ev w' => RdI x 0 0 w ev w' := by
  have := read_any a n cap lax l w hE h hcap hn63
  rw [readR_back hl] at this
  exact this
theorem read_short (a : Option Addr) (n cap : Nat) {x : It} {l : List Int} (hl : enc 12 x = some l) (hi : n < l.length) (w : World) (hE : ErrT w) (h : Row w a n (l.take n)) (hcap : n ≤ cap) (hn63 : n ≤ 9223372036854775807) :
    Calls Tryd.prog 14 #[.slice a n cap, .bool false] w fun ev w' => RdI zeroIt 1 (n : Int) w ev w' := by
  have := read_any a n cap false (l.take n) w hE h hcap hn63
  rw [readR_short hl n hi] at this
  exact this
theorem read_more (a : Option Addr) (n cap : Nat) {x : It} {l m : List Int} (hl : enc 12 x = some l) (hm : 1 ≤ m.length) (w : World) (hE : ErrT w) (h : Row w a n (l ++ m)) (hcap : n ≤ cap) (hn63 : n ≤ 9223372036854775807) :
    Calls Tryd.prog 14 #[.slice a n cap, .bool false] w fun ev w' => ∃ y c p, RdI y c p w ev w' ∧ (l.length + m.length ≤ 20000 → c = 6 ∧ p = (l.length : Int)) := by
  refine (read_any a n cap false (l ++ m) w hE h hcap hn63).mono ?_
  intro ev w' hp
  refine ⟨_, _, _, hp, fun h2 => ?_⟩
  rw [readR_more hl hm h2]
  exact ⟨rfl, rfl⟩
theorem canon_back (a : Option Addr) (n cap : Nat) {x : It} {l : List Int} (hl : enc 12 x = some l) (w : World) (hE : ErrT w) (h : Row w a n l) (hcap : n ≤ cap) (hn63 : n ≤ 9223372036854775807) :
    Calls Tryd.prog 16 #[.slice a n cap] w fun ev w' => Below w.heap.size w w' ∧ ∃ a cap, ev = .returned (.tuple #[.slice a l.length cap, .int .i64 0, .int .i64 0]) ∧ Own w.heap.size w' a l.length cap l := by
  refine (implCanon_any a n cap l w hE h hcap hn63).mono ?_
  intro ev w' hp
  obtain ⟨b, a2, c2, h1, h2⟩ := hp
  rw [cnL_back hl, readR_back hl] at h1
  rw [cnL_back hl] at h2
  exact ⟨b, a2, c2, h1, h2⟩
/-- What a step down an item's path answers. -/
theorem walk_some (d : Nat) (x y : It) (ab : Option Addr) (nb cb : Nat) (ak : Option Addr) (nk ck : Nat) (ap : Option Addr) (np cp : Nat) (ps : List Int) (w : World) (hr : Row w ab nb x.body) (hnil : ab = none → cb = 0) (hnb : nb ≤ 1048576) (hk : Kids d w ak nk x.kids) (hwt : wtS d x.kids ≤ 1048576) (hp : Row64 w ap np ps) (hnp : np ≤ 1048576) (hy : walkL x ps = some y) :
    Calls Tryd.prog 19 #[itv x ab nb cb ak nk ck, .slice ap np cp] w fun e w' => Below w.heap.size w w' ∧ ∃ d2 ab nb cb ak nk ck, e = .returned (.tuple #[itv y ab nb cb ak nk ck, .bool true]) ∧ Row w' ab nb y.body ∧ (ab = none → cb = 0) ∧ nb ≤ 1048576 ∧ Kids d2 w' ak nk y.kids ∧ wtS d2 y.kids ≤ 1048576 := by
  refine (implWalk_any d x ab nb cb ak nk ck ap np cp ps w hr hnil hnb hk hwt hp hnp).mono ?_
  intro e w' ⟨y', d2, ab2, nb2, cb2, ak2, nk2, ck2, M, s, he, hy', hs, h3, h4, m1, m2, ob, ok, hb⟩
  have e1 : y' = y := by rw [hy'.out, hy]; rfl
  have e2 : s = true := by rw [hs.out, hy]; rfl
  subst e1 e2
  exact ⟨hb, d2, ab2, nb2, cb2, ak2, nk2, ck2, he, ob.own.toRow, ob.own.nil, h3, ok.kids, h4.out⟩
theorem walk_none (d : Nat) (x : It) (ab : Option Addr) (nb cb : Nat) (ak : Option Addr) (nk ck : Nat) (ap : Option Addr) (np cp : Nat) (ps : List Int) (w : World) (hr : Row w ab nb x.body) (hnil : ab = none → cb = 0) (hnb : nb ≤ 1048576) (hk : Kids d w ak nk x.kids) (hwt : wtS d x.kids ≤ 1048576) (hp : Row64 w ap np ps) (hnp : np ≤ 1048576) (hy : walkL x ps = none) :
    Calls Tryd.prog 19 #[itv x ab nb cb ak nk ck, .slice ap np cp] w fun e w' => Below w.heap.size w w' ∧ ∃ y ab nb cb ak nk ck, e = .returned (.tuple #[itv y ab nb cb ak nk ck, .bool false]) := by
  refine (implWalk_any d x ab nb cb ak nk ck ap np cp ps w hr hnil hnb hk hwt hp hnp).mono ?_
  intro e w' ⟨y', d2, ab2, nb2, cb2, ak2, nk2, ck2, M, s, he, hy', hs, h3, h4, m1, m2, ob, ok, hb⟩
  have e2 : s = false := by rw [hs.out, hy]; rfl
  subst e2
  exact ⟨hb, y', ab2, nb2, cb2, ak2, nk2, ck2, he⟩

end Go.Proofs.YtjkkokjojaknkaaDoor
