import Derived.Test.YtdkgilkjcndonaaPL6b
namespace Go.Proofs.Ytdkgilkjcndonaa
open Go.RowKit

/-- What is named: by who asks, then by the certificates ahead of k. -/
def two (m : Int × Int) : List Int := [m.1, m.2]
def nmOf (x : PC) : List Int := x.pols ++ x.maps.flatMap two
def namesL (q : List Int) (xs : List PC) (k : Nat) : List Int := q ++ (xs.take k).flatMap nmOf
theorem names_zero (q : List Int) (xs : List PC) : namesL q xs 0 = q := by simp [namesL]
theorem names_next (q : List Int) (xs : List PC) (k : Nat) (h : k < xs.length) : namesL q xs (k + 1) = namesL q xs k ++ nmOf (xs.getD k default) := by
  have e : xs.getD k default = xs[k] := by simp [h]
  unfold namesL
  rw [e, List.take_succ_eq_append_getElem h, List.flatMap_append]
  simp
theorem maps_next (ms : List (Int × Int)) (t : Nat) (h : t < ms.length) : (ms.take (t + 1)).flatMap two = (ms.take t).flatMap two ++ [(ms.getD t (0, 0)).1] ++ [(ms.getD t (0, 0)).2] := by
  have e : ms.getD t (0, 0) = ms[t] := by simp [h]
  rw [e, List.take_succ_eq_append_getElem h, List.flatMap_append]
  simp [two]
theorem take_next64 (l : List Int) (k : Nat) (h : k < l.length) : l.take (k + 1) = l.take k ++ [l.getD k 0] := by
  have e : l.getD k 0 = l[k] := by simp [h]
  rw [e, List.take_succ_eq_append_getElem h]
theorem two_len (ms : List (Int × Int)) : (ms.flatMap two).length = 2 * ms.length := by
  induction ms with
  | nil => rfl
  | cons m r ih => rw [List.flatMap_cons, List.length_append, ih]; simp [two]; omega
theorem names_len {xs : List PC} {q : List Int} (hp : pathP xs) (hq : q.length ≤ 20) : ∀ k, k ≤ xs.length → (namesL q xs k).length ≤ 20 + 18 * k
  | 0, _ => by rw [names_zero]; omega
  | k + 1, h => by
    have i := names_len hp hq k (by omega)
    have c := hp.2 k (by omega)
    rw [names_next q xs k (by omega), List.length_append]
    have e : (nmOf (xs.getD k default)).length ≤ 18 := by
      unfold nmOf
      rw [List.length_append, two_len]
      have := c.1.1
      have := c.1.2
      omega
    omega
/-- So many are named ahead of one that is not. -/
theorem run_len : ∀ (k : Nat) (N : List Int), (∀ p : Int, 1 ≤ p → p ≤ k → p ∈ N) → k ≤ N.length
  | 0, _, _ => Nat.zero_le _
  | k + 1, N, h => by
    have hm : ((k + 1 : Nat) : Int) ∈ N := h _ (by omega) (Int.le_refl _)
    have i := run_len k (N.erase ((k + 1 : Nat) : Int)) (fun p h1 h2 => (List.mem_erase_of_ne (by omega)).2 (h p h1 (by omega)))
    rw [List.length_erase_of_mem hm] at i
    have := List.length_pos_of_mem hm
    omega
def othF (N : List Int) : Nat → Int → Int
  | 0, o => o
  | f + 1, o => if o ∈ N then othF N f (o + 1) else o
def oth (N : List Int) : Int := othF N 1000 1
theorem oth_next {N : List Int} {j : Nat} (hj : j < 1000) (h : othF N (1000 - j) ((j : Int) + 1) = oth N) (hm : (j : Int) + 1 ∈ N) : othF N (1000 - (j + 1)) (((j + 1 : Nat) : Int) + 1) = oth N := by
  rw [show 1000 - j = (1000 - (j + 1)) + 1 by omega] at h
  rw [← h]
  show _ = othF N ((1000 - (j + 1)) + 1) ((j : Int) + 1)
  unfold othF
  rw [if_pos hm]
  cases 1000 - (j + 1) <;> simp [othF]
theorem oth_end {N : List Int} {j : Nat} (hj : j < 1000) (h : othF N (1000 - j) ((j : Int) + 1) = oth N) (hm : ¬ ((j : Int) + 1 ∈ N)) : oth N = (j : Int) + 1 := by
  rw [show 1000 - j = (1000 - (j + 1)) + 1 by omega] at h
  rw [← h]
  show othF N ((1000 - (j + 1)) + 1) ((j : Int) + 1) = _
  unfold othF
  rw [if_neg hm]

/-- The policies that are told. -/
def tellB (N q : List Int) (hold : Int → Bool) (p : Int) : Bool := decide (p ∈ N) && (decide (0 ∈ q) || decide (p ∈ q)) && hold p
def headT (N q : List Int) (hold : Int → Bool) : List Int := if (decide (0 ∈ q) && hold (oth N)) = true then [0] else []
def tailT (N q : List Int) (hold : Int → Bool) (k : Nat) : List Int := ((List.range k).map (fun i => ((i : Nat) : Int) + 1)).filter (tellB N q hold)
theorem tail_zero (N q : List Int) (hold : Int → Bool) : tailT N q hold 0 = [] := rfl
theorem tail_next (N q : List Int) (hold : Int → Bool) (k : Nat) : tailT N q hold (k + 1) = tailT N q hold k ++ (if tellB N q hold ((k : Int) + 1) = true then [(k : Int) + 1] else []) := by
  unfold tailT
  rw [List.range_succ, List.map_append, List.filter_append]
  congr 1
  cases h : tellB N q hold ((k : Int) + 1) <;> simp [h]
def toldL (N q : List Int) (hold : Int → Bool) : List Int := headT N q hold ++ tailT N q hold 1000
theorem head_len (N q : List Int) (hold : Int → Bool) : (headT N q hold).length ≤ 1 := by unfold headT; split <;> simp
theorem tail_len (N q : List Int) (hold : Int → Bool) (k : Nat) : (tailT N q hold k).length ≤ k := by
  unfold tailT
  refine Nat.le_trans (List.length_filter_le _ _) (by simp)

def askP (q : List Int) : Prop := (1 ≤ q.length ∧ q.length ≤ 20) ∧ ∀ j, j < q.length → 0 ≤ q.getD j 0 ∧ q.getD j 0 ≤ 1000
def holdB (xs : List PC) (noMap noAny : Bool) (p : Int) : Bool := decide (0 < chn xs (ctr0 noMap xs.length) (ctr0 noAny xs.length) xs.length 0 p)
def ppT (xs : List PC) (q : List Int) (noMap noAny : Bool) : List Int := toldL (namesL q xs xs.length) q (holdB xs noMap noAny)
def ppP (xs : List PC) (q : List Int) (need noMap noAny : Bool) : Prop := pathP xs ∧ askP q ∧ ¬ (ppT xs q noMap noAny = [] ∧ ctr PC.need (ctr0 need xs.length) xs xs.length = 0)
/-- The one pure answer. -/
def IsPp (xs : List PC) (q : List Int) (need noMap noAny : Bool) (L : List Int) (b : Bool) : Prop :=
  (b = true ∧ ppP xs q need noMap noAny ∧ L = ppT xs q noMap noAny) ∨ (b = false ∧ ¬ ppP xs q need noMap noAny ∧ L = [])
theorem IsPp.same {xs : List PC} {q : List Int} {need noMap noAny : Bool} {L L' : List Int} {b b' : Bool} (h : IsPp xs q need noMap noAny L b) (h' : IsPp xs q need noMap noAny L' b') : L = L' ∧ b = b' := by
  rcases h with ⟨rfl, h, rfl⟩ | ⟨rfl, h, rfl⟩ <;> rcases h' with ⟨rfl, h', rfl⟩ | ⟨rfl, h', rfl⟩
  · exact ⟨rfl, rfl⟩
  · exact absurd h h'
  · exact absurd h' h
  · exact ⟨rfl, rfl⟩
theorem pp_len (xs : List PC) (q : List Int) (noMap noAny : Bool) : (ppT xs q noMap noAny).length ≤ 1001 := by
  unfold ppT toldL
  rw [List.length_append]
  have := head_len (namesL q xs xs.length) q (holdB xs noMap noAny)
  have := tail_len (namesL q xs xs.length) q (holdB xs noMap noAny) 1000
  omega
def PpR (xs : List PC) (q : List Int) (need noMap noAny : Bool) (w : World) (e : Ending) (w' : World) : Prop :=
  ∃ a n c L b, e = .returned (.tuple #[.slice a n c, .bool b]) ∧ IsPp xs q need noMap noAny L b ∧ OwnL w.heap.size w' a n c L ∧ n ≤ 1001 ∧ Below w.heap.size w w'

/-- Block g tells of each number up to 1000 whether it is among N. -/
structure Arr (g : Nat) (w : World) (N : List Int) : Prop where
  get : ∃ cur : Array Value, w.heap[g]? = some (.cells cur 4 (0, 0)) ∧ cur.size = 1001 ∧ ∀ i, i < 1001 → cur[i]? = some (.bool (decide ((i : Int) ∈ N)))
theorem Arr.lt {g : Nat} {w : World} {N : List Int} (h : Arr g w N) : g < w.heap.size := by
  obtain ⟨cur, hg, _⟩ := h.get
  exact (Array.getElem?_eq_some_iff.1 hg).1
theorem Arr.cell {g : Nat} {w : World} {N : List Int} (h : Arr g w N) (i : Nat) (hi : i < 1001) : w.cell? ⟨g, i, none⟩ = some (.bool (decide ((i : Int) ∈ N))) := by
  obtain ⟨cur, hg, _, hc⟩ := h.get
  rw [cell_of_row _ _ _ _ _ _ hg, hc i hi]
theorem Arr.frozen {g : Nat} {w : World} {N : List Int} (h : Arr g w N) (i : Nat) : w.frozen? ⟨g, i, none⟩ = false := by
  obtain ⟨cur, hg, _⟩ := h.get
  exact frozen_of_row w g i _ _ hg
theorem Arr.of_block {g : Nat} {w w' : World} {N : List Int} (h : Arr g w N) (e : w'.heap[g]? = w.heap[g]?) : Arr g w' N := by
  obtain ⟨cur, hg, r⟩ := h.get
  exact ⟨cur, e.trans hg, r⟩
theorem Arr.kept {g : Nat} {w w' : World} {N : List Int} (h : Arr g w N) (hb : Below w.heap.size w w') : Arr g w' N := h.of_block (hb.block g h.lt)
theorem Arr.store {g : Nat} {w : World} {N : List Int} (h : Arr g w N) (m : Nat) : Arr g (w.setCell ⟨g, m, none⟩ (.bool true)) (N ++ [(m : Int)]) := by
  obtain ⟨cur, hg, hs, hc⟩ := h.get
  refine ⟨_, heap_setCell_same w g m cur 4 _ hg, by simp [hs], fun i hi => ?_⟩
  rw [Array.getElem?_setIfInBounds]
  by_cases e : m = i
  · subst e
    rw [if_pos rfl, if_pos (by rw [hs]; exact hi)]
    simp
  · rw [if_neg e, hc i hi]
    congr 2
    have : ¬ (i : Int) = (m : Int) := by omega
    simp [this]
theorem touch_setP {g : Nat} (w : World) (j : Nat) (u : Value) : Touch g (g + 1) w (w.setCell ⟨g, j, none⟩ u) :=
  ⟨rfl, rfl, rfl, by simp, fun k _ ho => Below.heap_setCell _ _ _ _ (by show k ≠ g; omega)⟩
theorem touch_refl {lo hi : Nat} (w : World) : Touch lo hi w w := ⟨rfl, rfl, rfl, Nat.le_refl _, fun _ _ _ => rfl⟩
theorem Try.info4P : (Try.prog.info? 4).map (fun i => (i.zero, i.size, i.bytes)) = some (some (.bool false), 1, 1) := by kernel_rfl
theorem mk_bools (W : World) : (Instr.makeSlice 69 (.int .i64 1001) (.int .i64 1001)).run Try.prog W = .ok (.slice (some ⟨W.heap.size, 0, none⟩) 1001 1001) (W.alloc (.cells (madeCells #[Value.bool false] 1001) 4)) := by
  obtain ⟨i0, hi, hz0, hz1, hz2⟩ := info_parts Try.info4P
  have hr := run_make (P := Try.prog) W 69 4 i0 (.bool false) Try.underlying69 hi hz0 .i64 .i64 1001 1001 (by omega) (Int.le_refl _) (by rw [hz2]; omega) (by omega)
  rw [hz1] at hr
  exact hr
theorem arr_made (W : World) : Arr W.heap.size (W.alloc (.cells (madeCells #[Value.bool false] 1001) 4)) [] :=
  ⟨_, heap_alloc_new _ _, size_madeCells _ _, fun i hi => by simp [madeCells, hi, Nat.mod_one]⟩
theorem ownL_empty_at {B g : Nat} {W : World} (h : W.heap[g]? = some (.cells #[] 2 (0, 0))) (hB : B ≤ g) : OwnL B W (some ⟨g, 0, none⟩) 0 0 [] :=
  ⟨⟨rfl, .inr ⟨g, 0, #[], rfl, hB, h, Nat.le_refl _, Nat.zero_le _, rfl, rfl⟩⟩⟩
/-- The counter of needing behind the last certificate. -/
theorem need_last (c need : Int) (self : Bool) (h0 : 0 ≤ c) (h9 : c ≤ 9) (hn : -1 ≤ need) : (if need = 0 then 0 else nxt c self (-1)) = 0 ↔ nxt c self need = 0 := by
  unfold nxt
  have e : ∃ d : Int, 0 ≤ d ∧ (if self = false ∧ 0 < c then c - 1 else c) = d := ⟨_, by split <;> omega, rfl⟩
  obtain ⟨d, hd, e⟩ := e
  rw [e, if_neg (show ¬ (0 ≤ (-1 : Int) ∧ (-1 : Int) < d) by omega)]
  by_cases z : need = 0
  · subst z
    rw [if_pos rfl]
    by_cases y : 0 < d
    · rw [if_pos ⟨Int.le_refl _, y⟩]
    · rw [if_neg (fun h => y h.2)]; omega
  · rw [if_neg z]
    by_cases y : 0 ≤ need ∧ need < d
    · rw [if_pos y]; omega
    · rw [if_neg y]

end Go.Proofs.Ytdkgilkjcndonaa
