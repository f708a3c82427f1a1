import Derived.Test.YtdoobkffkmphfaaDU2
import Derived.Test.YtdoobkffkmphfaaDN3
import Derived.Test.YtdoobkffkmphfaaWLv
namespace Go.Proofs.Ytdoobkffkmphfaa
open Go.RowKit

theorem big_any6 (a : Option Addr) (n cap : Nat) (w : World) (hn : n ≤ 9223372036854775807) :
    Calls Try.prog 4 #[.slice a n cap] w fun r w' => r = .returned (.bool (decide (1048576 < n))) ∧ w' = w := by
  have e : decide (1048576 < n) = decide ((1048576 : Int) < (n : Int)) := by simp; omega
  rw [e]
  go_enter Try.func4, Try.ntmps4
  go_wp2
  go_ret
  exact ⟨rfl, rfl⟩

/-- A name whose parts are there. -/
structure Nm (W : World) (a : Option Addr) (n : Nat) (xs : List PT) : Prop where
  pts : Pts W a n xs
  sz : ∀ k, k < n → (xs.getD k default).val.size ≤ 1048576
  le : n ≤ 9
theorem Nm.kept {W W' : World} {a : Option Addr} {n : Nat} {xs : List PT} (h : Nm W a n xs) (hb : Below W.heap.size W W') : Nm W' a n xs := ⟨h.pts.kept hb, h.sz, h.le⟩
theorem OwnPt.nm {B : Nat} {w : World} {a : Option Addr} {n cap : Nat} {xs : List PT} (h : OwnPt B w a n cap xs) (hn : n ≤ 9) : Nm w a n xs := by
  refine ⟨h.pts (by omega), fun k hk => ?_, hn⟩
  have := h.small _ (getD_mem' xs k (by rw [h.len]; exact hk))
  omega
theorem nm_nil (W : World) : Nm W none 0 [] := ⟨⟨rfl, by decide, fun k hk => absurd hk (Nat.not_lt_zero _)⟩, fun k hk => absurd hk (Nat.not_lt_zero _), by decide⟩

theorem bool_iff {P : Prop} {a b : Bool} (h : a = true ↔ P) (k : b = true ↔ P) : a = b := by
  cases a <;> cases b <;> simp_all
theorem says_b {P : Prop} {w w' : World} {e : Ending} (h : Says P w e w') {b : Bool} (hb : b = true ↔ P) : e = .returned (.bool b) ∧ Below w.heap.size w w' := by
  obtain ⟨c, rfl, hc, hw⟩ := h
  exact ⟨by rw [bool_iff hc.out hb], hw⟩
theorem kNameI (a : Option Addr) (n c : Nat) (xs : List PT) (w : World) (h : Nm w a n xs) (b : Bool) (hb : b = true ↔ nameP xs) :
    Calls Try.prog 7 #[.agg #[.slice a n c]] w fun e w' => e = .returned (.bool b) ∧ Below w.heap.size w w' := (implNameOk_any a n c xs w h.pts h.sz).mono fun _ _ k => says_b k hb
theorem kNameS (a : Option Addr) (n c : Nat) (xs : List PT) (w : World) (h : Nm w a n xs) (b : Bool) (hb : b = true ↔ nameP xs) :
    Calls Try.prog 8 #[.agg #[.slice a n c]] w fun e w' => e = .returned (.bool b) ∧ Below w.heap.size w w' := (specNameOk_any a n c xs w h.pts h.sz).mono fun _ _ k => says_b k hb
theorem kSameI (a : Option Addr) (n c : Nat) (xs : List PT) (a2 : Option Addr) (n2 c2 : Nat) (ys : List PT) (w : World) (h : Nm w a n xs) (h2 : Nm w a2 n2 ys) (b : Bool) (hb : b = true ↔ sameP xs ys) :
    Calls Try.prog 9 #[.agg #[.slice a n c], .agg #[.slice a2 n2 c2]] w fun e w' => e = .returned (.bool b) ∧ Below w.heap.size w w' := (implSameName_any a n c xs a2 n2 c2 ys w h.pts h2.pts h.sz h2.sz).mono fun _ _ k => says_b k hb
theorem kSameS (a : Option Addr) (n c : Nat) (xs : List PT) (a2 : Option Addr) (n2 c2 : Nat) (ys : List PT) (w : World) (h : Nm w a n xs) (h2 : Nm w a2 n2 ys) (b : Bool) (hb : b = true ↔ sameP xs ys) :
    Calls Try.prog 12 #[.agg #[.slice a n c], .agg #[.slice a2 n2 c2]] w fun e w' => e = .returned (.bool b) ∧ Below w.heap.size w w' := (specSameName_any a n c xs a2 n2 c2 ys w h.pts h2.pts h.sz h2.sz).mono fun _ _ k => says_b k hb
theorem kUnderI (a : Option Addr) (n c : Nat) (xs : List PT) (a2 : Option Addr) (n2 c2 : Nat) (ys : List PT) (w : World) (h : Nm w a n xs) (h2 : Nm w a2 n2 ys) (b : Bool) (hb : b = true ↔ underP xs ys) :
    Calls Try.prog 10 #[.agg #[.slice a n c], .agg #[.slice a2 n2 c2]] w fun e w' => e = .returned (.bool b) ∧ Below w.heap.size w w' := (implUnder_any a n c xs a2 n2 c2 ys w h.pts h2.pts h.sz h2.sz).mono fun _ _ k => says_b k hb
theorem kUnderS (a : Option Addr) (n c : Nat) (xs : List PT) (a2 : Option Addr) (n2 c2 : Nat) (ys : List PT) (w : World) (h : Nm w a n xs) (h2 : Nm w a2 n2 ys) (b : Bool) (hb : b = true ↔ underP xs ys) :
    Calls Try.prog 13 #[.agg #[.slice a n c], .agg #[.slice a2 n2 c2]] w fun e w' => e = .returned (.bool b) ∧ Below w.heap.size w w' := (specUnder_any a n c xs a2 n2 c2 ys w h.pts h2.pts h.sz h2.sz).mono fun _ _ k => says_b k hb
theorem ptc_len (xs : List PT) : (ptc xs).length = xs.length * 2 := by
  induction xs with
  | nil => rfl
  | cons x r ih => simp [ptc] at ih ⊢; omega
theorem pts_news {w : World} {b off n : Nat} {xs : List PT} (h : Pts w (some ⟨b, off, none⟩) n xs) (k : Nat) (hk : k ≤ n) : ∀ j u, (ptc (xs.take k))[j]? = some u → w.cell? ((⟨b, off, none⟩ : Addr).add j) = some u := by
  intro j u hu
  have hl := h.len
  have hj : j < k * 2 := by
    have := (List.getElem?_eq_some_iff.1 hu).1
    rw [ptc_len, List.length_take] at this
    omega
  have hq : j / 2 < (xs.take k).length := by rw [List.length_take]; omega
  obtain ⟨g1, g2⟩ := ptc_get' (xs.take k) (j / 2) hq
  obtain ⟨b', off', ha, _, hc, _⟩ := h.get (j / 2) (by omega)
  simp only [Option.some.injEq, Addr.mk.injEq, and_true] at ha
  obtain ⟨rfl, rfl⟩ := ha
  rw [take_getD xs k (j / 2) (by omega)] at g1 g2
  rw [Addr.add_lit]
  rcases Nat.mod_two_eq_zero_or_one j with hm | hm
  · have e : j = j / 2 * 2 := by omega
    rw [e] at hu ⊢
    rw [g1] at hu
    simp only [Option.some.injEq] at hu
    rw [← hu]
    exact hc.c0
  · have e : j = j / 2 * 2 + 1 := by omega
    rw [e] at hu ⊢
    rw [g2] at hu
    simp only [Option.some.injEq] at hu
    rw [← hu, ← Nat.add_assoc]
    exact hc.c1
theorem ptc_one (xs : List PT) : ∀ u ∈ ptc xs, u.oneCell' = true := by
  intro u hu
  obtain ⟨x, _, hx⟩ := List.mem_flatMap.1 hu
  simp at hx
  rcases hx with rfl | rfl
  · rfl
  · rfl
theorem row_nm {B : Nat} {w : World} {a : Option Addr} {n cap : Nat} {xs : List PT} (h : w.ownsRow B 39 2 (.slice a n cap) n (ptc xs)) (hl : xs.length = n) (hn : n ≤ 9) (hs : ∀ k, k < n → (xs.getD k default).val.size ≤ 1048576) : Nm w a n xs := by
  refine ⟨⟨hl, by omega, fun k hk => ?_⟩, hs, hn⟩
  have hkl : k < xs.length := by rw [hl]; exact hk
  rcases h.2 with ⟨_, h0⟩ | ⟨g, cap', cur, hv, hb, hg, _⟩
  · omega
  · simp only [Value.slice.injEq] at hv
    obtain ⟨rfl, _, rfl⟩ := hv
    obtain ⟨g1, g2⟩ := ptc_get' xs k hkl
    refine ⟨g, 0, rfl, (Array.getElem?_eq_some_iff.1 hg).1, ⟨?_, ?_⟩, ?_⟩
    · rw [Nat.zero_add, h.cellAt (k * 2) (by omega), g1]
    · rw [Nat.zero_add, h.cellAt (k * 2 + 1) (by omega), g2]
    · have := hs k hk
      omega
theorem bt {P : Prop} (h : P) : true = true ↔ P := ⟨fun _ => h, fun _ => rfl⟩
theorem bf {P : Prop} (h : ¬ P) : false = true ↔ P := ⟨fun e => Bool.noConfusion e, fun k => absurd k h⟩
theorem bool_of (P : Prop) : ∃ b : Bool, b = true ↔ P := by
  rcases Classical.em P with h | h
  · exact ⟨true, by simp [h]⟩
  · exact ⟨false, by simp [h]⟩

/-- The four names of the law. -/
structure NL (w : World) (L p5 p6 p7 p8 : Nat) (A : Nat → Option Addr) (N C : Nat → Nat) (X : Nat → List PT) (W : World) : Prop where
  nm : ∀ i, i < 4 → Nm W (A i) (N i) (X i)
  cap : ∀ i, i < 4 → N i ≤ C i
  row : ∀ i, i < 4 → W.cell? ⟨L, i, none⟩ = some (.slice (A i) (N i) (C i))
  c5 : W.cell? ⟨p5, 0, none⟩ = some (.slice (A 0) (N 0) (C 0))
  c6 : W.cell? ⟨p6, 0, none⟩ = some (.slice (A 1) (N 1) (C 1))
  c7 : W.cell? ⟨p7, 0, none⟩ = some (.slice (A 2) (N 2) (C 2))
  c8 : W.cell? ⟨p8, 0, none⟩ = some (.slice (A 3) (N 3) (C 3))
  lt : L < W.heap.size ∧ p5 < W.heap.size ∧ p6 < W.heap.size ∧ p7 < W.heap.size ∧ p8 < W.heap.size
  below : Below w.heap.size w W
theorem NL.on {w : World} {L p5 p6 p7 p8 : Nat} {A : Nat → Option Addr} {N C : Nat → Nat} {X : Nat → List PT} {W W' : World} (h : NL w L p5 p6 p7 p8 A N C X W) (hb : Below W.heap.size W W') : NL w L p5 p6 p7 p8 A N C X W' := by
  have hs := hb.size
  obtain ⟨l0, l5, l6, l7, l8⟩ := h.lt
  exact ⟨fun i hi => (h.nm i hi).kept hb, h.cap, fun i hi => (hb.cell (p := ⟨L, i, none⟩) l0).trans (h.row i hi), (hb.cell (p := ⟨p5, 0, none⟩) l5).trans h.c5, (hb.cell (p := ⟨p6, 0, none⟩) l6).trans h.c6, (hb.cell (p := ⟨p7, 0, none⟩) l7).trans h.c7, (hb.cell (p := ⟨p8, 0, none⟩) l8).trans h.c8, by omega, h.below.trans (hb.mono h.below.size)⟩
/-- The box of one of them. -/
structure Bxn (A : Nat → Option Addr) (N C : Nat → Nat) (xb i : Nat) (W : World) : Prop where
  cell : W.cell? ⟨xb, 0, none⟩ = some (.slice (A i) (N i) (C i))
  lt : xb < W.heap.size
theorem Bxn.on {A : Nat → Option Addr} {N C : Nat → Nat} {xb i : Nat} {W W' : World} (h : Bxn A N C xb i W) (hb : Below W.heap.size W W') : Bxn A N C xb i W' := ⟨(hb.cell (p := ⟨xb, 0, none⟩) h.lt).trans h.cell, Nat.lt_of_lt_of_le h.lt hb.size⟩
theorem bxn_new (A : Nat → Option Addr) (N C : Nat → Nat) (i : Nat) (w : World) : Bxn A N C w.heap.size i (w.alloc (.cells #[.slice (A i) (N i) (C i)] 26)) := ⟨(cell_of_row _ _ 0 _ 26 (0, 0) (heap_alloc_new w _)).trans rfl, by simp⟩

end Go.Proofs.Ytdoobkffkmphfaa
