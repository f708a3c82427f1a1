import Derived.Test.YtdkgilkjcndonaaPP4
import Derived.Maps.RangeWalk
namespace Go.Proofs.Ytdkgilkjcndonaa
open Go.RowKit Go.Maps

theorem mem_tail (N q : List Int) (hold : Int → Bool) (p : Int) : p ∈ tailT N q hold 1000 ↔ (1 ≤ p ∧ p ≤ 1000) ∧ tellB N q hold p = true := by
  unfold tailT
  rw [List.mem_filter, List.mem_map]
  constructor
  · rintro ⟨⟨i, hi, rfl⟩, h⟩
    have := List.mem_range.1 hi
    exact ⟨by omega, h⟩
  · rintro ⟨h1, h⟩
    exact ⟨⟨(p - 1).toNat, List.mem_range.2 (by omega), by omega⟩, h⟩
theorem mem_head (N q : List Int) (hold : Int → Bool) (p : Int) : p ∈ headT N q hold ↔ p = 0 ∧ (decide (0 ∈ q) && hold (oth N)) = true := by
  unfold headT
  split
  · simp_all
  · simp_all
theorem told_sorted (N q : List Int) (hold : Int → Bool) : (toldL N q hold).Pairwise (fun x y => x < y) := by
  unfold toldL
  rw [List.pairwise_append]
  refine ⟨?_, ?_, ?_⟩
  · unfold headT; split <;> simp
  · unfold tailT
    refine List.Pairwise.filter _ (List.pairwise_map.2 ?_)
    exact (List.pairwise_lt_range).imp (fun h => by omega)
  · intro x hx y hy
    have h1 := ((mem_head N q hold x).1 hx).1
    have h2 := ((mem_tail N q hold y).1 hy).1
    omega
theorem sorted_is {N q : List Int} {hold : Int → Bool} {F : List Int} (hn : F.Nodup) (hm : ∀ p, p ∈ F ↔ p ∈ toldL N q hold) : F.mergeSort (fun x y => decide (x ≤ y)) = toldL N q hold := by
  have hs := told_sorted N q hold
  have hp : F.Perm (toldL N q hold) := (List.perm_ext_iff_of_nodup hn (hs.imp (fun h => by omega))).2 hm
  refine List.Perm.eq_of_pairwise (le := fun x y : Int => x ≤ y) (fun a b _ _ h1 h2 => by omega) ?_ (hs.imp (fun h => by omega)) ((List.mergeSort_perm F _).trans hp)
  refine (List.pairwise_mergeSort (le := fun x y : Int => decide (x ≤ y)) (fun a b c h1 h2 => ?_) (fun a b => ?_) F).imp (fun h => of_decide_eq_true h)
  · exact decide_eq_true (by have := of_decide_eq_true h1; have := of_decide_eq_true h2; omega)
  · by_cases e : a ≤ b
    · simp [e]
    · simp [show b ≤ a by omega]

/-- What a policy that is told must be, of those that are named. -/
def tells (q : List Int) (hold : Int → Bool) (p : Int) : Prop := (0 ∈ q ∨ p ∈ q) ∧ (1 ≤ p ∧ p ≤ 1000) ∧ hold p = true
structure LsOk (N q : List Int) (hold : Int → Bool) (Ls : List Int) (left : Lit → Bool) : Prop where
  nodup : Ls.Nodup
  mem : ∀ p : Int, p ∈ Ls ↔ p ∈ N ∧ left (.int .i64 p) = false ∧ tells q hold p
theorem LsOk.start {N q : List Int} {hold : Int → Bool} {D : DataW Unit} (h : TmOk D N) (hN : ∀ p ∈ N, (Lit.int .i64 p).wf = true) : LsOk N q hold [] (Maps.has D) :=
  ⟨List.nodup_nil, fun p => ⟨fun h => by simp at h, fun hp => by have := (h p (hN p hp.1)).2.2 hp.1; rw [hp.2.1] at this; cases this⟩⟩
theorem same_int (x p : Int) : (Lit.int .i64 p).sameKey (.int .i64 x) = decide (p = x) := by
  by_cases e : p = x
  · subst e; rw [decide_eq_true rfl]; exact WideAt.sameKey_self (show WideAt.IsKeyLit (Lit.int .i64 p) from trivial)
  · rw [decide_eq_false e]
    simp [Lit.sameKey, e]
theorem LsOk.skip {N q : List Int} {hold : Int → Bool} {Ls : List Int} {left : Lit → Bool} (h : LsOk N q hold Ls left) (x : Int) (hx : ¬ tells q hold x) : LsOk N q hold Ls (fun z => left z && !z.sameKey (.int .i64 x)) := by
  refine ⟨h.nodup, fun p => ?_⟩
  rw [h.mem p]
  simp only [same_int]
  by_cases e : p = x
  · subst e; exact ⟨fun h => absurd h.2.2 hx, fun h => absurd h.2.2 hx⟩
  · simp [e]
theorem LsOk.take {N q : List Int} {hold : Int → Bool} {Ls : List Int} {left : Lit → Bool} (h : LsOk N q hold Ls left) (x : Int) (hN : x ∈ N) (hl : left (.int .i64 x) = true) (hx : tells q hold x) : LsOk N q hold (Ls ++ [x]) (fun z => left z && !z.sameKey (.int .i64 x)) := by
  have hnm : x ∉ Ls := fun hm => by have := ((h.mem x).1 hm).2.1; rw [hl] at this; cases this
  refine ⟨?_, fun p => ?_⟩
  · rw [List.nodup_append]
    refine ⟨h.nodup, by simp, fun a ha b hb => ?_⟩
    simp at hb
    subst hb
    exact fun e => hnm (e ▸ ha)
  · rw [List.mem_append, h.mem p]
    simp only [same_int, List.mem_singleton]
    by_cases e : p = x
    · subst e; simp [hN, hx]
    · simp [e]
theorem LsOk.fin {N q : List Int} {hold : Int → Bool} {Ls : List Int} {left : Lit → Bool} (h : LsOk N q hold Ls left) (hl : ∀ kl, left kl = false) (p : Int) : p ∈ Ls ↔ p ∈ tailT N q hold 1000 := by
  rw [h.mem p, mem_tail]
  unfold tells tellB
  simp [hl]
  constructor
  · rintro ⟨h1, h2, h3, h4⟩; exact ⟨h3, ⟨h1, h2⟩, h4⟩
  · rintro ⟨h3, ⟨h1, h2⟩, h4⟩; exact ⟨h1, h2, h3, h4⟩
theorem LsOk.none {N q : List Int} {hold : Int → Bool} {Ls : List Int} {left : Lit → Bool} (h : LsOk N q hold Ls left) (hl : ∀ kl, left kl = false) (ho : (decide (0 ∈ q) && hold (oth N)) = false) : Ls.mergeSort (fun x y => decide (x ≤ y)) = toldL N q hold :=
  sorted_is h.nodup fun p => by
    unfold toldL
    rw [List.mem_append, mem_head, ho, h.fin hl p]
    simp
theorem LsOk.zero {N q : List Int} {hold : Int → Bool} {Ls : List Int} {left : Lit → Bool} (h : LsOk N q hold Ls left) (hl : ∀ kl, left kl = false) (ho : (decide (0 ∈ q) && hold (oth N)) = true) : (Ls ++ [0]).mergeSort (fun x y => decide (x ≤ y)) = toldL N q hold := by
  refine sorted_is ?_ fun p => ?_
  · rw [List.nodup_append]
    refine ⟨h.nodup, by simp, fun a ha b hb => ?_⟩
    simp at hb
    subst hb
    have := ((h.mem a).1 ha).2.2.2.1
    omega
  · unfold toldL
    rw [List.mem_append, List.mem_append, mem_head, ho, h.fin hl p]
    simp [or_comm]

/-- Of what was in w nothing has turned but the walk's map and the loop's own mark. -/
structure KR (bm r : Nat) (w w' : World) : Prop where
  os : w'.os = w.os
  tape : w'.tape = w.tape
  output : w'.output = w.output
  size : w.heap.size ≤ w'.heap.size
  block : ∀ k, k < w.heap.size → k ≠ bm → k ≠ r → w'.heap[k]? = w.heap[k]?
theorem KR.refl (bm r : Nat) (w : World) : KR bm r w w := ⟨rfl, rfl, rfl, Nat.le_refl _, fun _ _ _ _ => rfl⟩
theorem KR.touch {bm r : Nat} {w w' w'' : World} (h : KR bm r w w') (t : Touch bm (bm + 1) w' w'') : KR bm r w w'' :=
  ⟨t.os.trans h.os, t.tape.trans h.tape, t.output.trans h.output, Nat.le_trans h.size t.size, fun k hk h1 h2 => (t.block k (Nat.lt_of_lt_of_le hk h.size) (by omega)).trans (h.block k hk h1 h2)⟩
theorem KR.grown {bm r : Nat} {w w' w'' : World} {row : Option Nat} (h : KR bm r w w') (t : w'.grownBy w'' row) (hr : ∀ k, row = some k → k = r ∨ w.heap.size ≤ k) : KR bm r w w'' :=
  ⟨t.os.trans h.os, t.tape.trans h.tape, t.output.trans h.output, Nat.le_trans h.size t.size, fun k hk h1 h2 => (t.block k (Nat.lt_of_lt_of_le hk h.size) (fun e => by
    rcases hr k e.symm with h | h
    · exact h2 h
    · omega)).trans (h.block k hk h1 h2)⟩
theorem KR.cells {bm r : Nat} {w w' : World} (h : KR bm r w w') (hm : ∃ es cl, w.heap[bm]? = some (.map es cl)) (hr : ∃ a b c d, w.heap[r]? = some (.mapIter a b c d)) : KeptC w w' := by
  refine ⟨h.size, fun b o v hc => ?_⟩
  have hb := World.block_lt_of_cell? w _ hc
  have hne : b ≠ bm := fun e => by
    subst e
    obtain ⟨es, cl, he⟩ := hm
    simp [World.cell?, he] at hc
  have hnr : b ≠ r := fun e => by
    subst e
    obtain ⟨x, y, z, u, he⟩ := hr
    simp [World.cell?, he] at hc
  exact (World.cell?_of_block (a := ⟨b, o, none⟩) (h.block b hb hne hnr)).trans hc
theorem size_of_owns {w : World} {b n : Nat} {D : DataW Unit} (h : w.ownsMap Try.prog 2 (plainElem Try.prog 2) b n D) : Maps.size D ≤ n := by
  obtain ⟨es, clock, _, _, hs, hD⟩ := h
  rw [hD]
  simp only [Maps.size]
  rw [(Go.WideShapes.sorted_perm _).length_eq, List.length_map]
  simpa using hs

end Go.Proofs.Ytdkgilkjcndonaa
