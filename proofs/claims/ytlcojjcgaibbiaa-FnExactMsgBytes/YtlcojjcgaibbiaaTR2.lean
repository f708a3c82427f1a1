import Derived.Test.YtlcojjcgaibbiaaTR1
import Derived.Test.YtlcojjcgaibbiaaTouch
set_option linter.unusedVariables false
namespace Go.Proofs.Ytlcojjcgaibbiaa
open Go.RowKit

/-- Bytes of our own, between lo and hi. -/
structure OwnBT (lo hi : Nat) (w : World) (a : Option Addr) (n cap : Nat) (bs : List Int) : Prop where
  own : Own lo w a n cap bs
  lt : ∀ x, a = some x → x.block < hi

theorem own_capT {B : Nat} {w : World} {a : Option Addr} {n cap : Nat} {bs : List Int} (h : Own B w a n cap bs) : n ≤ cap := by
  rcases h.row.2 with ⟨hv, h0⟩ | ⟨g, cap', cur, hv, _, _, hc, hm, _⟩
  · omega
  · simp only [Value.slice.injEq] at hv; omega
theorem Own.maxT {B : Nat} {w : World} {a : Option Addr} {n cap : Nat} {bs : List Int} (h : Own B w a n cap bs) : n ≤ 9223372036854775807 := by
  rcases h.row.2 with ⟨_, h0⟩ | ⟨g, cap', cur, _, _, _, hc, hm, _⟩
  · omega
  · unfold maxLen at hm; omega
theorem Own.ownBT {B : Nat} {w : World} {a : Option Addr} {n cap : Nat} {bs : List Int} (h : Own B w a n cap bs) : OwnBT B w.heap.size w a n cap bs := by
  refine ⟨h, fun x hx => ?_⟩
  rcases h.row.2 with ⟨hv, _⟩ | ⟨g, cap', cur, hv, _, hg, _⟩
  · simp only [Value.slice.injEq] at hv; rw [hv.1] at hx; cases hx
  · simp only [Value.slice.injEq] at hv; rw [hv.1] at hx; cases hx; exact (Array.getElem?_eq_some_iff.1 hg).1

theorem OwnBT.touch {lo hi p q : Nat} {w w' : World} {a : Option Addr} {n cap : Nat} {bs : List Int} (h : OwnBT lo hi w a n cap bs) (hd : hi ≤ p ∨ q ≤ lo) (ht : Touch p q w w') : OwnBT lo hi w' a n cap bs := by
  refine ⟨⟨⟨h.own.row.1, ?_⟩, h.own.byte⟩, h.lt⟩
  rcases h.own.row.2 with hn' | ⟨g, cap', cur, hv, hbb, hgg, rest⟩
  · exact .inl hn'
  · simp only [Value.slice.injEq] at hv
    obtain ⟨rfl, _, rfl⟩ := hv
    have hp := h.lt _ rfl
    simp at hp
    exact .inr ⟨g, cap, cur, rfl, hbb, (ht.block g (Array.getElem?_eq_some_iff.1 hgg).1 (by omega)).trans hgg, rest⟩
theorem OwnBT.kept {lo hi : Nat} {w w' : World} {a : Option Addr} {n cap : Nat} {bs : List Int} (h : OwnBT lo hi w a n cap bs) (hb : Below w.heap.size w w') : OwnBT lo hi w' a n cap bs := ⟨h.own.kept hb, h.lt⟩

/-- The first i of the items xs lie in the row g, what hangs on them between lo and hi. -/
def OwnPreT (K : Nat → Nat → World → Option Addr → Nat → List ItT → Prop) (lo hi : Nat) (w : World) (g i : Nat) (xs : List ItT) : Prop :=
  ∃ L H : Nat → Nat, (∀ k, k < i → lo ≤ L k ∧ L k ≤ H k ∧ H k ≤ hi ∧ (g < L k ∨ H k ≤ g)) ∧ (∀ j k, j < k → k < i → H j ≤ L k) ∧
    ∀ k, k < i → ∃ ab nb cb ak nk ck M, w.cell? ⟨g, k * 4, none⟩ = some (.int .u64 (xs.getD k default).ky) ∧ w.cell? ⟨g, k * 4 + 1, none⟩ = some (.int .i64 (xs.getD k default).at2)
      ∧ w.cell? ⟨g, k * 4 + 2, none⟩ = some (.slice ab nb cb) ∧ w.cell? ⟨g, k * 4 + 3, none⟩ = some (.slice ak nk ck)
      ∧ L k ≤ M ∧ M ≤ H k ∧ U64 (xs.getD k default).ky ∧ OwnBT (L k) M w ab nb cb (xs.getD k default).sg ∧ K M (H k) w ak nk (xs.getD k default).over

/-- The slice at a holds the items xs, all of it our own memory, between lo and hi; no two parts share any. -/
def OwnKidsT : Nat → Nat → Nat → World → Option Addr → Nat → List ItT → Prop
  | 0, _, _, _, _, _, _ => False
  | d + 1, lo, hi, w, a, n, xs => xs.length = n ∧ n ≤ 9223372036854775807 ∧ (n = 0 ∨ ∃ g cap vs, a = some ⟨g, 0, none⟩ ∧ lo ≤ g ∧ g < hi ∧ w.ownsRow lo 59 4 (.slice a n cap) n vs ∧ OwnPreT (OwnKidsT d) lo hi w g n xs)

def MovesT (K : Nat → Nat → World → Option Addr → Nat → List ItT → Prop) : Prop := ∀ lo hi p q w w' a n xs, K lo hi w a n xs → hi ≤ p ∨ q ≤ lo → Touch p q w w' → K lo hi w' a n xs

theorem OwnPreT.move {K : Nat → Nat → World → Option Addr → Nat → List ItT → Prop} (hK : MovesT K) {lo hi p q : Nat} {w w' : World} {g i : Nat} {xs : List ItT} (h : OwnPreT K lo hi w g i xs)
    (hc : ∀ j, j < i * 4 → w'.cell? ⟨g, j, none⟩ = w.cell? ⟨g, j, none⟩) (hd : (hi ≤ p ∨ q ≤ lo) ∨ (p = g ∧ q = g + 1)) (ht : Touch p q w w') : OwnPreT K lo hi w' g i xs := by
  obtain ⟨L, H, h1, h2, h3⟩ := h
  refine ⟨L, H, h1, h2, fun k hk => ?_⟩
  obtain ⟨ab, nb, cb, ak, nk, ck, M, c0, c1, c3, c4, m1, m2, hu, ob, ok⟩ := h3 k hk
  have hb := h1 k hk
  exact ⟨ab, nb, cb, ak, nk, ck, M, (hc _ (by omega)).trans c0, (hc _ (by omega)).trans c1, (hc _ (by omega)).trans c3, (hc _ (by omega)).trans c4, m1, m2, hu,
    ob.touch (by omega) ht, hK _ _ _ _ _ _ _ _ _ ok (by omega) ht⟩

theorem ownKids_movesT (d : Nat) : MovesT (OwnKidsT d) := by
  induction d with
  | zero => intro _ _ _ _ _ _ _ _ _ h; exact h.elim
  | succ d ih =>
    intro lo hi p q w w' a n xs h hd ht
    refine ⟨h.1, h.2.1, ?_⟩
    rcases h.2.2 with h0 | ⟨g, cap, vs, rfl, g1, g2, hr, hp⟩
    · exact .inl h0
    · have hlt := (hr.lt g rfl).2
      have hblk : w'.heap[g]? = w.heap[g]? := ht.block g hlt (by omega)
      refine .inr ⟨g, cap, vs, rfl, g1, g2, ⟨hr.1, ?_⟩, hp.move ih (fun j _ => World.cell?_of_block (a := ⟨g, j, none⟩) hblk) (.inl hd) ht⟩
      rcases hr.2 with hn | ⟨g', cap', cur, hv, hbb, hgg, rest⟩
      · exact .inl hn
      · simp only [Value.slice.injEq, Option.some.injEq, Addr.mk.injEq, and_true, true_and] at hv
        obtain ⟨rfl, rfl⟩ := hv
        exact .inr ⟨g, cap, cur, rfl, hbb, hblk.trans hgg, rest⟩

theorem OwnKidsT.kept {d lo hi : Nat} {w w' : World} {a : Option Addr} {n : Nat} {xs : List ItT} (h : OwnKidsT d lo hi w a n xs) (hb : Below w.heap.size w w') : OwnKidsT d lo hi w' a n xs :=
  ownKids_movesT d lo hi hi hi w w' a n xs h (.inl (Nat.le_refl _)) (Touch.of_below hb)

theorem OwnKidsT.over {d : Nat} : ∀ {lo hi : Nat} {w : World} {a : Option Addr} {n : Nat} {xs : List ItT}, OwnKidsT d lo hi w a n xs → KidsT d w a n xs := by
  induction d with
  | zero => intro _ _ _ _ _ _ h; exact h.elim
  | succ d ih =>
    intro lo hi w a n xs h
    refine ⟨h.1, h.2.1, fun k hk => ?_⟩
    rcases h.2.2 with h0 | ⟨g, cap, vs, rfl, g1, g2, hr, L, H, h1, h2, h3⟩
    · omega
    · obtain ⟨ab, nb, cb, ak, nk, ck, M, c0, c1, c3, c4, m1, m2, hu, ob, ok⟩ := h3 k hk
      exact ⟨g, 0, rfl, (hr.lt g rfl).2, ab, nb, cb, ak, nk, ck, by rw [Nat.zero_add]; exact c0, by rw [Nat.zero_add]; exact c1, by rw [Nat.zero_add]; exact c3, by rw [Nat.zero_add]; exact c4, ob.own.toRow, ⟨ob.own.nil, own_capT ob.own⟩, ob.own.maxT, hu, ih ok⟩

theorem OwnPreT.more {K : Nat → Nat → World → Option Addr → Nat → List ItT → Prop} {lo hi s hi' M : Nat} {w : World} {g i : Nat} {xs : List ItT} (h : OwnPreT K lo hi w g i xs) (hs : hi ≤ s) (hg : g < s) (hlo : lo ≤ s) (m1 : s ≤ M) (m2 : M ≤ hi')
    {ab : Option Addr} {nb cb : Nat} {ak : Option Addr} {nk ck : Nat} (c0 : w.cell? ⟨g, i * 4, none⟩ = some (.int .u64 (xs.getD i default).ky)) (c1 : w.cell? ⟨g, i * 4 + 1, none⟩ = some (.int .i64 (xs.getD i default).at2))
    (c3 : w.cell? ⟨g, i * 4 + 2, none⟩ = some (.slice ab nb cb)) (c4 : w.cell? ⟨g, i * 4 + 3, none⟩ = some (.slice ak nk ck)) (hu : U64 (xs.getD i default).ky) (ob : OwnBT s M w ab nb cb (xs.getD i default).sg) (ok : K M hi' w ak nk (xs.getD i default).over) : OwnPreT K lo hi' w g (i + 1) xs := by
  obtain ⟨L, H, h1, h2, h3⟩ := h
  refine ⟨fun k => if k = i then s else L k, fun k => if k = i then hi' else H k, fun k hk => ?_, fun j k hjk hk => ?_, fun k hk => ?_⟩
  · by_cases hki : k = i
    · subst hki
      simp only [if_true]
      omega
    · have := h1 k (by omega)
      simp only [if_neg hki]
      omega
  · have hj := h1 j (by omega)
    simp only [if_neg (show j ≠ i by omega)]
    by_cases hki : k = i
    · simp only [if_pos hki]; omega
    · simp only [if_neg hki]; exact h2 j k hjk (by omega)
  · by_cases hki : k = i
    · subst hki
      simp only [if_true]
      exact ⟨ab, nb, cb, ak, nk, ck, M, c0, c1, c3, c4, m1, m2, hu, ob, ok⟩
    · simp only [if_neg hki]
      exact h3 k (by omega)
theorem ownPre_zeroT {K : Nat → Nat → World → Option Addr → Nat → List ItT → Prop} (lo hi : Nat) (w : World) (g : Nat) (xs : List ItT) : OwnPreT K lo hi w g 0 xs :=
  ⟨fun _ => 0, fun _ => 0, fun _ hk => absurd hk (Nat.not_lt_zero _), fun _ _ _ hk => absurd hk (Nat.not_lt_zero _), fun _ hk => absurd hk (Nat.not_lt_zero _)⟩

end Go.Proofs.Ytlcojjcgaibbiaa
