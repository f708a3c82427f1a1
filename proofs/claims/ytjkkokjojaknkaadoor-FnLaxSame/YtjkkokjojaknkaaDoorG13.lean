import Derived.Test.YtjkkokjojaknkaaDoorBase
import Derived.Test.YtjkkokjojaknkaaDoorFE
import Derived.Handy
namespace Go.Proofs.YtjkkokjojaknkaaDoor
open Go.RowKit

/-- Of what was there in w only blocks from lo up to hi may have turned. -/
structure Touch (lo hi : Nat) (w w' : World) : Prop where
  os : w'.os = w.os
  tape : w'.tape = w.tape
  output : w'.output = w.output
  size : w.heap.size ≤ w'.heap.size
  block : ∀ k, k < w.heap.size → k < lo ∨ hi ≤ k → w'.heap[k]? = w.heap[k]?

theorem Touch.of_below {lo hi : Nat} {w w' : World} (h : Below w.heap.size w w') : Touch lo hi w w' := ⟨h.os, h.tape, h.output, h.size, fun k hk _ => h.block k hk⟩
theorem Touch.trans {lo hi : Nat} {a b c : World} (h : Touch lo hi a b) (k : Touch lo hi b c) : Touch lo hi a c :=
  ⟨k.os.trans h.os, k.tape.trans h.tape, k.output.trans h.output, Nat.le_trans h.size k.size, fun i hi' ho => (k.block i (Nat.lt_of_lt_of_le hi' h.size) ho).trans (h.block i hi' ho)⟩
theorem Touch.mono {lo hi lo' hi' : Nat} {w w' : World} (h : Touch lo hi w w') (h1 : lo' ≤ lo) (h2 : hi ≤ hi') : Touch lo' hi' w w' :=
  ⟨h.os, h.tape, h.output, h.size, fun k hk ho => h.block k hk (by omega)⟩
theorem Touch.below {lo hi B : Nat} {w w' : World} (h : Touch lo hi w w') (hB : B ≤ lo) (hw : B ≤ w.heap.size) : Below B w w' :=
  ⟨h.os, h.tape, h.output, h.size, fun k hk => h.block k (by omega) (by omega)⟩

/-- Where a slice's cells lie. -/
def In (a : Option Addr) (n lo hi : Nat) : Prop := ∀ b off, a = some ⟨b, off, none⟩ → 0 < n → lo ≤ b ∧ b < hi

theorem Own.in_ {B : Nat} {w : World} {a : Option Addr} {n cap : Nat} {bs : List Int} (h : Own B w a n cap bs) : In a n B w.heap.size := by
  intro b off ha hn
  obtain ⟨g, hg⟩ := h.shape hn
  rw [hg] at ha
  simp at ha
  obtain ⟨rfl, _⟩ := ha
  subst hg
  exact h.base
theorem Row.in_ {w : World} {a : Option Addr} {n : Nat} {bs : List Int} (h : Row w a n bs) : In a n 0 w.heap.size := by
  intro b off ha hn
  obtain ⟨b', off', ha', hb, _⟩ := h.get 0 hn
  rw [ha'] at ha
  simp at ha
  omega
theorem Row.touch {lo hi p q : Nat} {w w' : World} {a : Option Addr} {n : Nat} {bs : List Int} (h : Row w a n bs) (hi' : In a n p q) (hd : q ≤ lo ∨ hi ≤ p) (ht : Touch lo hi w w') : Row w' a n bs := by
  refine ⟨h.len, fun k hk => ?_, h.byte⟩
  obtain ⟨b, off, ha, hb, hc⟩ := h.get k hk
  have hp := hi' b off ha (by omega)
  exact ⟨b, off, ha, Nat.lt_of_lt_of_le hb ht.size, (World.cell?_of_block (a := ⟨b, off + k, none⟩) (ht.block b hb (by omega))).trans hc⟩
theorem Own.touch {lo hi p q B : Nat} {w w' : World} {a : Option Addr} {n cap : Nat} {bs : List Int} (h : Own B w a n cap bs) (hi' : In a n p q) (hd : q ≤ lo ∨ hi ≤ p) (ht : Touch lo hi w w') (hn : 0 < n) : Own B w' a n cap bs := by
  refine ⟨⟨h.row.1, ?_⟩, h.byte⟩
  rcases h.row.2 with hn' | ⟨g, cap', cur, hv, hbb, hgg, rest⟩
  · exact .inl hn'
  · simp only [Value.slice.injEq] at hv
    obtain ⟨rfl, _, rfl⟩ := hv
    have hp := hi' g 0 rfl hn
    exact .inr ⟨g, cap, cur, rfl, hbb, (ht.block g (Array.getElem?_eq_some_iff.1 hgg).1 (by omega)).trans hgg, rest⟩

/-- A write into a row of our own that lies in lo .. hi. -/
theorem Own.wrote {B lo hi : Nat} {w w' : World} {a : Option Addr} {n cap : Nat} {bs : List Int} (h : Own B w a n cap bs) (hp : In a n lo hi) (hn : 0 < n) (hg : w.grownBy w' (Value.slice a n cap).ownBlock) : Touch lo hi w w' := by
  obtain ⟨g, rfl⟩ := h.shape hn
  have := hp g 0 rfl hn
  exact ⟨hg.os, hg.tape, hg.output, hg.size, fun k hk ho => hg.block k hk (by simp [Value.ownBlock]; omega)⟩

end Go.Proofs.YtjkkokjojaknkaaDoor

namespace Go.Proofs.YtjkkokjojaknkaaDoor
open Go.RowKit

/-- Bytes of our own, between lo and hi. -/
structure OwnB (lo hi : Nat) (w : World) (a : Option Addr) (n cap : Nat) (bs : List Int) : Prop where
  own : Own lo w a n cap bs
  lt : ∀ x, a = some x → x.block < hi

theorem Own.max {B : Nat} {w : World} {a : Option Addr} {n cap : Nat} {bs : List Int} (h : Own B w a n cap bs) : n ≤ 9223372036854775807 := by
  rcases h.row.2 with ⟨_, h0⟩ | ⟨g, cap', cur, _, _, _, hc, hm, _⟩
  · omega
  · unfold maxLen at hm; omega
theorem Own.ownB {B : Nat} {w : World} {a : Option Addr} {n cap : Nat} {bs : List Int} (h : Own B w a n cap bs) : OwnB B w.heap.size w a n cap bs := by
  refine ⟨h, fun x hx => ?_⟩
  rcases h.row.2 with ⟨hv, _⟩ | ⟨g, cap', cur, hv, _, hg, _⟩
  · simp only [Value.slice.injEq] at hv; rw [hv.1] at hx; cases hx
  · simp only [Value.slice.injEq] at hv; rw [hv.1] at hx; cases hx; exact (Array.getElem?_eq_some_iff.1 hg).1

theorem OwnB.touch {lo hi p q : Nat} {w w' : World} {a : Option Addr} {n cap : Nat} {bs : List Int} (h : OwnB lo hi w a n cap bs) (hd : hi ≤ p ∨ q ≤ lo) (ht : Touch p q w w') : OwnB lo hi w' a n cap bs := by
  refine ⟨⟨⟨h.own.row.1, ?_⟩, h.own.byte⟩, h.lt⟩
  rcases h.own.row.2 with hn' | ⟨g, cap', cur, hv, hbb, hgg, rest⟩
  · exact .inl hn'
  · simp only [Value.slice.injEq] at hv
    obtain ⟨rfl, _, rfl⟩ := hv
    have hp := h.lt _ rfl
    simp at hp
    exact .inr ⟨g, cap, cur, rfl, hbb, (ht.block g (Array.getElem?_eq_some_iff.1 hgg).1 (by omega)).trans hgg, rest⟩
theorem OwnB.kept {lo hi : Nat} {w w' : World} {a : Option Addr} {n cap : Nat} {bs : List Int} (h : OwnB lo hi w a n cap bs) (hb : Below w.heap.size w w') : OwnB lo hi w' a n cap bs := ⟨h.own.kept hb, h.lt⟩

/-- The first i of the items xs lie in the row g, what hangs on them between lo and hi. -/
def OwnPre (K : Nat → Nat → World → Option Addr → Nat → List It → Prop) (lo hi : Nat) (w : World) (g i : Nat) (xs : List It) : Prop :=
  ∃ L H : Nat → Nat, (∀ k, k < i → lo ≤ L k ∧ L k ≤ H k ∧ H k ≤ hi ∧ (g < L k ∨ H k ≤ g)) ∧ (∀ j k, j < k → k < i → H j ≤ L k) ∧
    ∀ k, k < i → ∃ ab nb cb ak nk ck M, w.cell? ⟨g, k * 5, none⟩ = some (.int .i64 (xs.getD k default).cls) ∧ w.cell? ⟨g, k * 5 + 1, none⟩ = some (.int .i64 (xs.getD k default).tag) ∧ w.cell? ⟨g, k * 5 + 2, none⟩ = some (.bool (xs.getD k default).cons)
      ∧ w.cell? ⟨g, k * 5 + 3, none⟩ = some (.slice ab nb cb) ∧ w.cell? ⟨g, k * 5 + 4, none⟩ = some (.slice ak nk ck)
      ∧ L k ≤ M ∧ M ≤ H k ∧ OwnB (L k) M w ab nb cb (xs.getD k default).body ∧ K M (H k) w ak nk (xs.getD k default).kids

/-- The slice at a holds the items xs, all of it our own memory, between lo and hi; no two parts share any. -/
def OwnKids : Nat → Nat → Nat → World → Option Addr → Nat → List It → Prop
  | 0, _, _, _, _, _, _ => False
  | d + 1, lo, hi, w, a, n, xs => xs.length = n ∧ n ≤ 9223372036854775807 ∧ (n = 0 ∨ ∃ g cap vs, a = some ⟨g, 0, none⟩ ∧ lo ≤ g ∧ g < hi ∧ w.ownsRow lo 26 5 (.slice a n cap) n vs ∧ OwnPre (OwnKids d) lo hi w g n xs)

def Moves (K : Nat → Nat → World → Option Addr → Nat → List It → Prop) : Prop := ∀ lo hi p q w w' a n xs, K lo hi w a n xs → hi ≤ p ∨ q ≤ lo → Touch p q w w' → K lo hi w' a n xs

theorem OwnPre.move {K : Nat → Nat → World → Option Addr → Nat → List It → Prop} (hK : Moves K) {lo hi p q : Nat} {w w' : World} {g i : Nat} {xs : List It} (h : OwnPre K lo hi w g i xs)
    (hc : ∀ j, j < i * 5 → w'.cell? ⟨g, j, none⟩ = w.cell? ⟨g, j, none⟩) (hd : (hi ≤ p ∨ q ≤ lo) ∨ (p = g ∧ q = g + 1)) (ht : Touch p q w w') : OwnPre K lo hi w' g i xs := by
  obtain ⟨L, H, h1, h2, h3⟩ := h
  refine ⟨L, H, h1, h2, fun k hk => ?_⟩
  obtain ⟨ab, nb, cb, ak, nk, ck, M, c0, c1, c2, c3, c4, m1, m2, ob, ok⟩ := h3 k hk
  have hb := h1 k hk
  exact ⟨ab, nb, cb, ak, nk, ck, M, (hc _ (by omega)).trans c0, (hc _ (by omega)).trans c1, (hc _ (by omega)).trans c2, (hc _ (by omega)).trans c3, (hc _ (by omega)).trans c4, m1, m2,
    ob.touch (by omega) ht, hK _ _ _ _ _ _ _ _ _ ok (by omega) ht⟩

theorem ownKids_moves (d : Nat) : Moves (OwnKids d) := by
  induction d with
  | zero => intro _ _ _ _ _ _ _ _ _ h; exact h.elim
  | succ d ih =>
    intro lo hi p q w w' a n xs h hd ht
    refine ⟨h.1, h.2.1, ?_⟩
    rcases h.2.2 with h0 | ⟨g, cap, vs, rfl, g1, g2, hr, hp⟩
    · exact .inl h0
    · have hlt := (hr.lt g rfl).2
      have hblk : w'.heap[g]? = w.heap[g]? := ht.block g hlt (by omega)
      refine .inr ⟨g, cap, vs, rfl, g1, g2, ⟨hr.1, ?_⟩, hp.move ih (fun j _ => World.cell?_of_block (a := ⟨g, j, none⟩) hblk) (.inl hd) ht⟩
      rcases hr.2 with hn | ⟨g', cap', cur, hv, hbb, hgg, rest⟩
      · exact .inl hn
      · simp only [Value.slice.injEq, Option.some.injEq, Addr.mk.injEq, and_true, true_and] at hv
        obtain ⟨rfl, rfl⟩ := hv
        exact .inr ⟨g, cap, cur, rfl, hbb, hblk.trans hgg, rest⟩

theorem OwnKids.kept {d lo hi : Nat} {w w' : World} {a : Option Addr} {n : Nat} {xs : List It} (h : OwnKids d lo hi w a n xs) (hb : Below w.heap.size w w') : OwnKids d lo hi w' a n xs :=
  ownKids_moves d lo hi hi hi w w' a n xs h (.inl (Nat.le_refl _)) (Touch.of_below hb)

theorem OwnKids.kids {d : Nat} : ∀ {lo hi : Nat} {w : World} {a : Option Addr} {n : Nat} {xs : List It}, OwnKids d lo hi w a n xs → Kids d w a n xs := by
  induction d with
  | zero => intro _ _ _ _ _ _ h; exact h.elim
  | succ d ih =>
    intro lo hi w a n xs h
    refine ⟨h.1, h.2.1, fun k hk => ?_⟩
    rcases h.2.2 with h0 | ⟨g, cap, vs, rfl, g1, g2, hr, L, H, h1, h2, h3⟩
    · omega
    · obtain ⟨ab, nb, cb, ak, nk, ck, M, c0, c1, c2, c3, c4, m1, m2, ob, ok⟩ := h3 k hk
      exact ⟨g, 0, rfl, (hr.lt g rfl).2, ab, nb, cb, ak, nk, ck, by rw [Nat.zero_add]; exact c0, by rw [Nat.zero_add]; exact c1, by rw [Nat.zero_add]; exact c2, by rw [Nat.zero_add]; exact c3, by rw [Nat.zero_add]; exact c4, ob.own.toRow, ob.own.nil, ob.own.max, ih ok⟩

theorem OwnPre.more {K : Nat → Nat → World → Option Addr → Nat → List It → Prop} {lo hi s hi' M : Nat} {w : World} {g i : Nat} {xs : List It} (h : OwnPre K lo hi w g i xs) (hs : hi ≤ s) (hg : g < s) (hlo : lo ≤ s) (m1 : s ≤ M) (m2 : M ≤ hi')
    {ab : Option Addr} {nb cb : Nat} {ak : Option Addr} {nk ck : Nat} (c0 : w.cell? ⟨g, i * 5, none⟩ = some (.int .i64 (xs.getD i default).cls)) (c1 : w.cell? ⟨g, i * 5 + 1, none⟩ = some (.int .i64 (xs.getD i default).tag)) (c2 : w.cell? ⟨g, i * 5 + 2, none⟩ = some (.bool (xs.getD i default).cons))
    (c3 : w.cell? ⟨g, i * 5 + 3, none⟩ = some (.slice ab nb cb)) (c4 : w.cell? ⟨g, i * 5 + 4, none⟩ = some (.slice ak nk ck)) (ob : OwnB s M w ab nb cb (xs.getD i default).body) (ok : K M hi' w ak nk (xs.getD i default).kids) : OwnPre K lo hi' w g (i + 1) xs := by
  obtain ⟨L, H, h1, h2, h3⟩ := h
  refine ⟨fun k => if k = i then s else L k, fun k => if k = i then hi' else H k, fun k hk => ?_, fun j k hjk hk => ?_, fun k hk => ?_⟩
  · by_cases hki : k = i
    · subst hki
      simp only [if_true]
      omega
    · have := h1 k (by omega)
      simp only [if_neg hki]
      omega
  · have hj := h1 j (by omega)
    simp only [if_neg (show j ≠ i by omega)]
    by_cases hki : k = i
    · simp only [if_pos hki]; omega
    · simp only [if_neg hki]; exact h2 j k hjk (by omega)
  · by_cases hki : k = i
    · subst hki
      simp only [if_true]
      exact ⟨ab, nb, cb, ak, nk, ck, M, c0, c1, c2, c3, c4, m1, m2, ob, ok⟩
    · simp only [if_neg hki]
      exact h3 k (by omega)
theorem ownPre_zero {K : Nat → Nat → World → Option Addr → Nat → List It → Prop} (lo hi : Nat) (w : World) (g : Nat) (xs : List It) : OwnPre K lo hi w g 0 xs :=
  ⟨fun _ => 0, fun _ => 0, fun _ hk => absurd hk (Nat.not_lt_zero _), fun _ _ _ hk => absurd hk (Nat.not_lt_zero _), fun _ hk => absurd hk (Nat.not_lt_zero _)⟩

end Go.Proofs.YtjkkokjojaknkaaDoor

namespace Go.Proofs.YtjkkokjojaknkaaDoor
open Go.RowKit

theorem Tryd.infoItem : (Tryd.prog.info? 26).map (fun i => (i.zero, i.size, i.bytes)) = some (some (.agg #[.int .i64 0, .int .i64 0, .bool false, .slice none 0 0, .slice none 0 0]), 5, 72) := by kernel_rfl

/-- What toItem answers. -/
def ToPost (d : Nat) (x : It) (nb nk : Nat) (w : World) (e : Ending) (w' : World) : Prop :=
  ∃ ab ak M, e = .returned (itv x ab nb nb ak nk nk) ∧ w.heap.size ≤ M ∧ M ≤ w'.heap.size ∧ OwnB w.heap.size M w' ab nb nb x.body ∧ OwnKids d M w'.heap.size w' ak nk x.kids ∧ Below w.heap.size w w'

theorem alloc_old (w : World) (o : Obj) (g : Nat) (hg : g < w.heap.size) : (w.alloc o).heap[g]? = w.heap[g]? := ((Below.refl w.heap.size w).alloc (Nat.le_refl _) o).block g hg
theorem three_blocks (w : World) (o0 o1 o2 : Obj) : (((w.alloc o0).alloc o1).alloc o2).heap[w.heap.size]? = some o0 ∧ (((w.alloc o0).alloc o1).alloc o2).heap[w.heap.size + 1]? = some o1 ∧ (((w.alloc o0).alloc o1).alloc o2).heap[w.heap.size + 2]? = some o2 := by
  have s1 : (w.alloc o0).heap.size = w.heap.size + 1 := by simp
  have s2 : ((w.alloc o0).alloc o1).heap.size = w.heap.size + 2 := by simp
  exact ⟨(alloc_old _ o2 _ (by omega)).trans ((alloc_old _ o1 _ (by omega)).trans (heap_alloc_new w o0)), (alloc_old _ o2 _ (by omega)).trans (by rw [← s1]; exact heap_alloc_new _ o1), by rw [← s2]; exact heap_alloc_new _ o2⟩
theorem touch_set {p q : Nat} (w : World) (g j : Nat) (u : Value) (h1 : p ≤ g) (h2 : g < q) : Touch p q w (w.setCell ⟨g, j, none⟩ u) :=
  ⟨rfl, rfl, rfl, by simp, fun k _ hk => heap_setCell_other w ⟨g, j, none⟩ k u (by simp; omega)⟩
theorem OwnB.mono {lo hi lo' hi' : Nat} {w : World} {a : Option Addr} {n cap : Nat} {bs : List Int} (h : OwnB lo hi w a n cap bs) (h1 : lo' ≤ lo) (h2 : hi ≤ hi') : OwnB lo' hi' w a n cap bs := ⟨h.own.mono h1, fun x hx => Nat.lt_of_lt_of_le (h.lt x hx) h2⟩

theorem results_item {fn : Func} {t : Tmp} (h : fn.results = #[.cell t 26]) (tmps : Array Value) (g : Nat) (ht : tmps.getD t undef = .pointer (some ⟨g, 0, none⟩)) (w : World) (c0 c1 c2 c3 c4 : Value)
    (hb : w.heap[g]? = some (.cells #[c0, c1, c2, c3, c4] 26 (0, 0))) : (results fn tmps).run Tryd.prog w = .ok (.agg #[c0, c1, c2, c3, c4]) w := by
  have d0 : w.cell? ⟨g, 0, none⟩ = some c0 := (cell_of_row _ g 0 _ 26 (0, 0) hb).trans rfl
  have d1 : w.cell? ⟨g, 1, none⟩ = some c1 := (cell_of_row _ g 1 _ 26 (0, 0) hb).trans rfl
  have d2 : w.cell? ⟨g, 2, none⟩ = some c2 := (cell_of_row _ g 2 _ 26 (0, 0) hb).trans rfl
  have d3 : w.cell? ⟨g, 3, none⟩ = some c3 := (cell_of_row _ g 3 _ 26 (0, 0) hb).trans rfl
  have d4 : w.cell? ⟨g, 4, none⟩ = some c4 := (cell_of_row _ g 4 _ 26 (0, 0) hb).trans rfl
  clear hb
  have ht' : tmps[t]?.getD undef = .pointer (some ⟨g, 0, none⟩) := by rw [← ht]; simp
  simp [results, h, go_sem, ht', d0, d1, d2, d3, d4]

theorem heap_kept {B : Nat} {w w' : World} (h : Below B w w') {g : Nat} (hg : g < B) {o : Obj} (e : w.heap[g]? = some o) : w'.heap[g]? = some o := (h.block g hg).trans e

end Go.Proofs.YtjkkokjojaknkaaDoor

namespace Go.Proofs.YtjkkokjojaknkaaDoor
open Go.RowKit

theorem ownsRow_below' {B e size n lo : Nat} {w w' : World} {v : Value} {xs : List Value} (h : w.ownsRow B e size v n xs) (hb : Below lo w w') (hl : ∀ k, v.ownBlock = some k → k < lo) : w'.ownsRow B e size v n xs := by
  refine ⟨h.1, ?_⟩
  rcases h.2 with hn | ⟨g, cap, cur, rfl, hbb, hgg, rest⟩
  · exact .inl hn
  · exact .inr ⟨g, cap, cur, rfl, hbb, (hb.block g (hl g rfl)).trans hgg, rest⟩

/-- The five cells of an item are stored. -/
def set5 (w : World) (g i : Nat) (u0 u1 u2 u3 u4 : Value) : World := ((((w.setCell ⟨g, i * 5, none⟩ u0).setCell ⟨g, i * 5 + 1, none⟩ u1).setCell ⟨g, i * 5 + 2, none⟩ u2).setCell ⟨g, i * 5 + 3, none⟩ u3).setCell ⟨g, i * 5 + 4, none⟩ u4

structure Set5 (B : Nat) (w w' : World) (g n cap i : Nat) (u0 u1 u2 u3 u4 : Value) : Prop where
  own : ∃ vs, w'.ownsRow B 26 5 (.slice (some ⟨g, 0, none⟩) n cap) n vs
  touch : Touch g (g + 1) w w'
  size : w'.heap.size = w.heap.size
  old : ∀ j, j < n * 5 → j < i * 5 ∨ i * 5 + 5 ≤ j → w'.cell? ⟨g, j, none⟩ = w.cell? ⟨g, j, none⟩
  c0 : w'.cell? ⟨g, i * 5, none⟩ = some u0
  c1 : w'.cell? ⟨g, i * 5 + 1, none⟩ = some u1
  c2 : w'.cell? ⟨g, i * 5 + 2, none⟩ = some u2
  c3 : w'.cell? ⟨g, i * 5 + 3, none⟩ = some u3
  c4 : w'.cell? ⟨g, i * 5 + 4, none⟩ = some u4

theorem set5_is {B : Nat} {w : World} {g n cap : Nat} {vs : List Value} (h : w.ownsRow B 26 5 (.slice (some ⟨g, 0, none⟩) n cap) n vs) (i : Nat) (hi : i < n) (u0 u1 u2 u3 u4 : Value) : Set5 B w (set5 w g i u0 u1 u2 u3 u4) g n cap i u0 u1 u2 u3 u4 := by
  have h1 := (((((h.stored (i * 5) u0).1.stored (i * 5 + 1) u1).1.stored (i * 5 + 2) u2).1.stored (i * 5 + 3) u3).1.stored (i * 5 + 4) u4).1
  have hl : vs.length = n * 5 := h.1
  have cc : ∀ j, j < n * 5 → (set5 w g i u0 u1 u2 u3 u4).cell? ⟨g, j, none⟩ = (((((vs.set (i * 5) u0).set (i * 5 + 1) u1).set (i * 5 + 2) u2).set (i * 5 + 3) u3).set (i * 5 + 4) u4)[j]? := fun j hj => h1.cellAt j hj
  refine ⟨⟨_, h1⟩, ?_, by simp [set5], fun j hj ho => ?_, ?_, ?_, ?_, ?_, ?_⟩
  · exact ((((touch_set _ _ _ _ (Nat.le_refl _) (Nat.lt_succ_self _)).trans (touch_set _ _ _ _ (Nat.le_refl _) (Nat.lt_succ_self _))).trans (touch_set _ _ _ _ (Nat.le_refl _) (Nat.lt_succ_self _))).trans (touch_set _ _ _ _ (Nat.le_refl _) (Nat.lt_succ_self _))).trans (touch_set _ _ _ _ (Nat.le_refl _) (Nat.lt_succ_self _))
  · rw [cc j hj, h.cellAt j hj]
    rw [List.getElem?_set_ne (by omega), List.getElem?_set_ne (by omega), List.getElem?_set_ne (by omega), List.getElem?_set_ne (by omega), List.getElem?_set_ne (by omega)]
  · rw [cc _ (by omega), List.getElem?_set_ne (by omega), List.getElem?_set_ne (by omega), List.getElem?_set_ne (by omega), List.getElem?_set_ne (by omega), List.getElem?_set_self (by omega)]
  · rw [cc _ (by omega), List.getElem?_set_ne (by omega), List.getElem?_set_ne (by omega), List.getElem?_set_ne (by omega), List.getElem?_set_self (by simp; omega)]
  · rw [cc _ (by omega), List.getElem?_set_ne (by omega), List.getElem?_set_ne (by omega), List.getElem?_set_self (by simp; omega)]
  · rw [cc _ (by omega), List.getElem?_set_ne (by omega), List.getElem?_set_self (by simp; omega)]
  · rw [cc _ (by omega), List.getElem?_set_self (by simp; omega)]

end Go.Proofs.YtjkkokjojaknkaaDoor
