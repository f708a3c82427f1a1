import Derived.Test.YtoncodoimnideaaGreatDoorMBX
import Derived.Test.YtoncodoimnideaaGreatDoorQBW0
import Derived.Test.YtoncodoimnideaaGreatDoorDN3
import Derived.Deep.DeepCutAuto
import Derived.Deep.RegionHeldLaw
namespace Go.Proofs.YtoncodoimnideaaGreatDoor
open Go.RowKit

theorem ptc_len (xs : List PT) : (ptc xs).length = xs.length * 2 := by
  induction xs with
  | nil => rfl
  | cons x r ih => simp [ptc] at ih ⊢; omega
theorem pts_news {w : World} {b off n : Nat} {xs : List PT} (h : Pts w (some ⟨b, off, none⟩) n xs) (k : Nat) (hk : k ≤ n) : ∀ j u, (ptc (xs.take k))[j]? = some u → w.cell? ((⟨b, off, none⟩ : Addr).add j) = some u := by
  intro j u hu
  have hl := h.len
  have hj : j < k * 2 := by
    have := (List.getElem?_eq_some_iff.1 hu).1
    rw [ptc_len, List.length_take] at this
    omega
  have hq : j / 2 < (xs.take k).length := by rw [List.length_take]; omega
  obtain ⟨g1, g2⟩ := ptc_get' (xs.take k) (j / 2) hq
  obtain ⟨b', off', ha, _, hc, _⟩ := h.get (j / 2) (by omega)
  simp only [Option.some.injEq, Addr.mk.injEq, and_true] at ha
  obtain ⟨rfl, rfl⟩ := ha
  rw [take_getD xs k (j / 2) (by omega)] at g1 g2
  rw [Addr.add_lit]
  rcases Nat.mod_two_eq_zero_or_one j with hm | hm
  · have e : j = j / 2 * 2 := by omega
    rw [e] at hu ⊢
    rw [g1] at hu
    simp only [Option.some.injEq] at hu
    rw [← hu]
    exact hc.c0
  · have e : j = j / 2 * 2 + 1 := by omega
    rw [e] at hu ⊢
    rw [g2] at hu
    simp only [Option.some.injEq] at hu
    rw [← hu, ← Nat.add_assoc]
    exact hc.c1
theorem ptc_one (xs : List PT) : ∀ u ∈ ptc xs, u.oneCell' = true := by
  intro u hu
  obtain ⟨x, _, hx⟩ := List.mem_flatMap.1 hu
  simp at hx
  rcases hx with rfl | rfl
  · rfl
  · rfl
/-- Two general names as they are drawn, in their boxes X and Y; the results' boxes; the reader R. -/
structure DW (w : World) (R B X Y : Nat) (a : Option Addr) (n cap : Nat) (bs : List Int) (W : World) (k : Int) (t : ByteArray) (ad bi : Int) (ao : Option Addr) (m c : Nat) (xs : List PT) (k2 : Int) (t2 : ByteArray) (ad2 bi2 : Int) (a2 : Option Addr) (m2 c2 : Nat) (ys : List PT) : Prop where
  lo : w.heap.size + 2 ≤ R ∧ R < B ∧ B ≤ X ∧ X < Y ∧ Y < W.heap.size
  rd : Rd W R a n cap bs
  res1 : W.heap[w.heap.size]? = some (.cells #[.int .i64 0, .string ⟨#[]⟩, .int .i64 0, .int .i64 0, .slice none 0 0] 30 (0, 0))
  res2 : W.heap[w.heap.size + 1]? = some (.cells #[.int .i64 0, .string ⟨#[]⟩, .int .i64 0, .int .i64 0, .slice none 0 0] 30 (0, 0))
  box1 : W.heap[X]? = some (.cells #[.int .i64 k, .string t, .int .i64 ad, .int .i64 bi, .slice ao m c] 30 (0, 0))
  box2 : W.heap[Y]? = some (.cells #[.int .i64 k2, .string t2, .int .i64 ad2, .int .i64 bi2, .slice a2 m2 c2] 30 (0, 0))
  own1 : OwnPt B W ao m c xs
  l1 : ∀ q, ao = some q → q.block < X
  own2 : OwnPt (X + 1) W a2 m2 c2 ys
  ne2 : ∀ q, a2 = some q → q.block ≠ Y
  below : Below w.heap.size w W
theorem DW.move {w : World} {R B X Y : Nat} {a : Option Addr} {n cap : Nat} {bs : List Int} {W : World} {k : Int} {t : ByteArray} {ad bi : Int} {ao : Option Addr} {m c : Nat} {xs : List PT} {k2 : Int} {t2 : ByteArray} {ad2 bi2 : Int} {a2 : Option Addr} {m2 c2 : Nat} {ys : List PT} (h : DW w R B X Y a n cap bs W k t ad bi ao m c xs k2 t2 ad2 bi2 a2 m2 c2 ys) {W' : World} (r : Rd W' R a n cap bs) (e1 : W'.os = W.os) (e2 : W'.tape = W.tape) (e3 : W'.output = W.output) (e4 : W.heap.size ≤ W'.heap.size) (e5 : ∀ l, l < W.heap.size → l ≠ R → W'.heap[l]? = W.heap[l]?) : DW w R B X Y a n cap bs W' k t ad bi ao m c xs k2 t2 ad2 bi2 a2 m2 c2 ys := by
  obtain ⟨h1, h2, h3, h4, h5⟩ := h.lo
  exact ⟨⟨h1, h2, h3, h4, by omega⟩, r, (e5 _ (by omega) (by omega)).trans h.res1, (e5 _ (by omega) (by omega)).trans h.res2, (e5 _ (by omega) (by omega)).trans h.box1, (e5 _ (by omega) (by omega)).trans h.box2, h.own1.keep fun q _ hb hl => e5 _ hl (by omega), h.l1, h.own2.keep fun q _ hb hl => e5 _ hl (by omega), h.ne2, e1.trans h.below.os, e2.trans h.below.tape, e3.trans h.below.output, Nat.le_trans h.below.size e4, fun l hl => (e5 l (by omega) (by omega)).trans (h.below.block l hl)⟩
theorem DW.rdp {w : World} {R B X Y : Nat} {a : Option Addr} {n cap : Nat} {bs : List Int} {W : World} {k : Int} {t : ByteArray} {ad bi : Int} {ao : Option Addr} {m c : Nat} {xs : List PT} {k2 : Int} {t2 : ByteArray} {ad2 bi2 : Int} {a2 : Option Addr} {m2 c2 : Nat} {ys : List PT} (h : DW w R B X Y a n cap bs W k t ad bi ao m c xs k2 t2 ad2 bi2 a2 m2 c2 ys) {W' : World} (hp : RdPost W R a n cap bs W') : DW w R B X Y a n cap bs W' k t ad bi ao m c xs k2 t2 ad2 bi2 a2 m2 c2 ys :=
  h.move hp.1 hp.2.os hp.2.tape hp.2.output hp.2.size fun l hl hg => hp.2.block l hl (by omega)
theorem DW.on {w : World} {R B X Y : Nat} {a : Option Addr} {n cap : Nat} {bs : List Int} {W : World} {k : Int} {t : ByteArray} {ad bi : Int} {ao : Option Addr} {m c : Nat} {xs : List PT} {k2 : Int} {t2 : ByteArray} {ad2 bi2 : Int} {a2 : Option Addr} {m2 c2 : Nat} {ys : List PT} (h : DW w R B X Y a n cap bs W k t ad bi ao m c xs k2 t2 ad2 bi2 a2 m2 c2 ys) {W' : World} (hb : Below W.heap.size W W') : DW w R B X Y a n cap bs W' k t ad bi ao m c xs k2 t2 ad2 bi2 a2 m2 c2 ys :=
  h.move (h.rd.kept hb) hb.os hb.tape hb.output hb.size fun l hl _ => hb.block l hl
/-- The second one is drawn anew. -/
theorem DW.two {w : World} {R B X Y : Nat} {a : Option Addr} {n cap : Nat} {bs : List Int} {W : World} {k : Int} {t : ByteArray} {ad bi : Int} {ao : Option Addr} {m c : Nat} {xs : List PT} {k2 : Int} {t2 : ByteArray} {ad2 bi2 : Int} {a2 : Option Addr} {m2 c2 : Nat} {ys : List PT} (h : DW w R B X Y a n cap bs W k t ad bi ao m c xs k2 t2 ad2 bi2 a2 m2 c2 ys) {k3 : Int} {t3 : ByteArray} {ad3 bi3 : Int} {a3 : Option Addr} {m3 c3 : Nat} {zs : List PT} (ho : OwnPt (X + 1) W a3 m3 c3 zs) (hn : ∀ q, a3 = some q → q.block ≠ Y) :
    DW w R B X Y a n cap bs (W.setRow Y #[.int .i64 k3, .string t3, .int .i64 ad3, .int .i64 bi3, .slice a3 m3 c3]) k t ad bi ao m c xs k3 t3 ad3 bi3 a3 m3 c3 zs := by
  obtain ⟨h1, h2, h3, h4, h5⟩ := h.lo
  have e : ∀ l, l ≠ Y → (W.setRow Y #[.int .i64 k3, .string t3, .int .i64 ad3, .int .i64 bi3, .slice a3 m3 c3]).heap[l]? = W.heap[l]? := fun l hl => setRow_other _ _ _ _ hl
  have hs : (W.setRow Y #[.int .i64 k3, .string t3, .int .i64 ad3, .int .i64 bi3, .slice a3 m3 c3]).heap.size = W.heap.size := by simp
  exact ⟨⟨h1, h2, h3, h4, by omega⟩, h.rd.touch (setRow_touchG _ _ _) (by omega), (e _ (by omega)).trans h.res1, (e _ (by omega)).trans h.res2, (e _ (by omega)).trans h.box1, setRow_heap _ _ _ _ _ _ h.box2, h.own1.keep fun q hq _ _ => e _ (by have := h.l1 q hq; omega), h.l1, ho.keep fun q hq _ _ => e _ (hn q hq), hn, h.below.os, h.below.tape, h.below.output, by rw [hs]; exact h.below.size, fun l hl => (e l (by omega)).trans (h.below.block l hl)⟩
theorem DW.cells {w : World} {R B X Y : Nat} {a : Option Addr} {n cap : Nat} {bs : List Int} {W : World} {k : Int} {t : ByteArray} {ad bi : Int} {ao : Option Addr} {m c : Nat} {xs : List PT} {k2 : Int} {t2 : ByteArray} {ad2 bi2 : Int} {a2 : Option Addr} {m2 c2 : Nat} {ys : List PT} (h : DW w R B X Y a n cap bs W k t ad bi ao m c xs k2 t2 ad2 bi2 a2 m2 c2 ys) :
    (W.cell? ⟨X, 0, none⟩ = some (.int .i64 k) ∧ W.cell? ⟨X, 1, none⟩ = some (.string t) ∧ W.cell? ⟨X, 2, none⟩ = some (.int .i64 ad) ∧ W.cell? ⟨X, 3, none⟩ = some (.int .i64 bi) ∧ W.cell? ⟨X, 4, none⟩ = some (.slice ao m c)) ∧
    (W.cell? ⟨Y, 0, none⟩ = some (.int .i64 k2) ∧ W.cell? ⟨Y, 1, none⟩ = some (.string t2) ∧ W.cell? ⟨Y, 2, none⟩ = some (.int .i64 ad2) ∧ W.cell? ⟨Y, 3, none⟩ = some (.int .i64 bi2) ∧ W.cell? ⟨Y, 4, none⟩ = some (.slice a2 m2 c2)) := by
  have hb := h.box1
  have hc := h.box2
  exact ⟨⟨(cell_of_row _ _ 0 _ 30 (0, 0) hb).trans rfl, (cell_of_row _ _ 1 _ 30 (0, 0) hb).trans rfl, (cell_of_row _ _ 2 _ 30 (0, 0) hb).trans rfl, (cell_of_row _ _ 3 _ 30 (0, 0) hb).trans rfl, (cell_of_row _ _ 4 _ 30 (0, 0) hb).trans rfl⟩, (cell_of_row _ _ 0 _ 30 (0, 0) hc).trans rfl, (cell_of_row _ _ 1 _ 30 (0, 0) hc).trans rfl, (cell_of_row _ _ 2 _ 30 (0, 0) hc).trans rfl, (cell_of_row _ _ 3 _ 30 (0, 0) hc).trans rfl, (cell_of_row _ _ 4 _ 30 (0, 0) hc).trans rfl⟩
theorem results_gg {fn : Func} {t u : Tmp} (h : fn.results = #[.cell t 30, .cell u 30]) (tmps : Array Value) (g g2 : Nat) (ht : tmps.getD t undef = .pointer (some ⟨g, 0, none⟩)) (hu : tmps.getD u undef = .pointer (some ⟨g2, 0, none⟩)) (w : World) (c0 c1 c2 c3 c4 d0 d1 d2 d3 d4 : Value)
    (hb : w.heap[g]? = some (.cells #[c0, c1, c2, c3, c4] 30 (0, 0))) (hb2 : w.heap[g2]? = some (.cells #[d0, d1, d2, d3, d4] 30 (0, 0))) : (results fn tmps).run Tryz.prog w = .ok (.tuple #[.agg #[c0, c1, c2, c3, c4], .agg #[d0, d1, d2, d3, d4]]) w := by
  have p0 : w.cell? ⟨g, 0, none⟩ = some c0 := (cell_of_row _ g 0 _ 30 (0, 0) hb).trans rfl
  have p1 : w.cell? ⟨g, 1, none⟩ = some c1 := (cell_of_row _ g 1 _ 30 (0, 0) hb).trans rfl
  have p2 : w.cell? ⟨g, 2, none⟩ = some c2 := (cell_of_row _ g 2 _ 30 (0, 0) hb).trans rfl
  have p3 : w.cell? ⟨g, 3, none⟩ = some c3 := (cell_of_row _ g 3 _ 30 (0, 0) hb).trans rfl
  have p4 : w.cell? ⟨g, 4, none⟩ = some c4 := (cell_of_row _ g 4 _ 30 (0, 0) hb).trans rfl
  have q0 : w.cell? ⟨g2, 0, none⟩ = some d0 := (cell_of_row _ g2 0 _ 30 (0, 0) hb2).trans rfl
  have q1 : w.cell? ⟨g2, 1, none⟩ = some d1 := (cell_of_row _ g2 1 _ 30 (0, 0) hb2).trans rfl
  have q2 : w.cell? ⟨g2, 2, none⟩ = some d2 := (cell_of_row _ g2 2 _ 30 (0, 0) hb2).trans rfl
  have q3 : w.cell? ⟨g2, 3, none⟩ = some d3 := (cell_of_row _ g2 3 _ 30 (0, 0) hb2).trans rfl
  have q4 : w.cell? ⟨g2, 4, none⟩ = some d4 := (cell_of_row _ g2 4 _ 30 (0, 0) hb2).trans rfl
  clear hb hb2
  have ht' : tmps[t]?.getD undef = .pointer (some ⟨g, 0, none⟩) := by rw [← ht]; simp
  have hu' : tmps[u]?.getD undef = .pointer (some ⟨g2, 0, none⟩) := by rw [← hu]; simp
  simp [results, h, go_sem, ht', hu', p0, p1, p2, p3, p4, q0, q1, q2, q3, q4]
abbrev set5 (W : World) (P : Nat) (v0 v1 v2 v3 v4 : Value) : World := ((((W.setCell ⟨P, 0, none⟩ v0).setCell ⟨P, 1, none⟩ v1).setCell ⟨P, 2, none⟩ v2).setCell ⟨P, 3, none⟩ v3).setCell ⟨P, 4, none⟩ v4
theorem ten_set {W : World} {P : Nat} {o0 o1 o2 o3 o4 o5 o6 o7 o8 o9 : Value} (h : W.heap[P]? = some (.cells #[o0, o1, o2, o3, o4] 30 (0, 0))) (h2 : W.heap[P + 1]? = some (.cells #[o5, o6, o7, o8, o9] 30 (0, 0))) (v0 v1 v2 v3 v4 v5 v6 v7 v8 v9 : Value) :
    (set5 (set5 W P v0 v1 v2 v3 v4) (P + 1) v5 v6 v7 v8 v9).heap[P]? = some (.cells #[v0, v1, v2, v3, v4] 30 (0, 0)) ∧ (set5 (set5 W P v0 v1 v2 v3 v4) (P + 1) v5 v6 v7 v8 v9).heap[P + 1]? = some (.cells #[v5, v6, v7, v8, v9] 30 (0, 0)) ∧ Touch P (P + 2) W (set5 (set5 W P v0 v1 v2 v3 v4) (P + 1) v5 v6 v7 v8 v9) := by
  have t1 := five_touch W P v0 v1 v2 v3 v4
  have t2 := five_touch (set5 W P v0 v1 v2 v3 v4) (P + 1) v5 v6 v7 v8 v9
  have r1 := five_set h v0 v1 v2 v3 v4
  have hl : P + 1 < W.heap.size := (Array.getElem?_eq_some_iff.1 h2).1
  have r2 : (set5 W P v0 v1 v2 v3 v4).heap[P + 1]? = some (.cells #[o5, o6, o7, o8, o9] 30 (0, 0)) := (t1.block _ hl (by omega)).trans h2
  refine ⟨(t2.block _ (Array.getElem?_eq_some_iff.1 r1).1 (by omega)).trans r1, five_set r2 _ _ _ _ _, t2.os.trans t1.os, t2.tape.trans t1.tape, t2.output.trans t1.output, Nat.le_trans t1.size t2.size, fun l hl ho => (t2.block l (Nat.lt_of_lt_of_le hl t1.size) (by omega)).trans (t1.block l hl (by omega))⟩
/-- Two drawn general names. -/
def DwR (w : World) (e : Ending) (w' : World) : Prop := ∃ (x : GT) (ao : Option Addr) (m c : Nat) (xs : List PT) (y : GT) (a2 : Option Addr) (m2 c2 : Nat) (ys : List PT), e = .returned (.tuple #[gnv x ao m c, gnv y a2 m2 c2]) ∧ (x.text.size ≤ 100 ∧ m ≤ 9) ∧ (y.text.size ≤ 100 ∧ m2 ≤ 9) ∧ OwnPt w.heap.size w' ao m c xs ∧ OwnPt w.heap.size w' a2 m2 c2 ys ∧ Below w.heap.size w w'
theorem bh_le (s : ByteArray) (c : Int) : (bh s c).size ≤ s.size := by
  unfold bh
  have key : ∀ k i, (behind s c k i).size ≤ s.size := by
    intro k
    induction k with
    | zero => intro i; exact Nat.zero_le _
    | succ k ih =>
      intro i
      rw [behind]
      split
      · rw [Lib.size_eq, Lib.extract_data, List.length_take, List.length_drop, ← Lib.size_eq]; omega
      · exact ih _
  exact key _ _

set_option maxRecDepth 10000 in
set_option maxHeartbeats 8000000 in
theorem drawWithin_any (a : Option Addr) (n cap : Nat) (bs : List Int) (w : World) (h : Row w a n bs) (hn : n ≤ 1000000000) :
    Calls Tryz.prog 7 #[.slice a n cap] w (DwR w) := by
  obtain ⟨i0, hi, hz0, hz1, hz2⟩ := info_parts Tryz.infoPart
  obtain ⟨w0, hw0⟩ : ∃ w0, w0 = (w.alloc (.cells #[.int .i64 0, .string ⟨#[]⟩, .int .i64 0, .int .i64 0, .slice none 0 0] 30)).alloc (.cells #[.int .i64 0, .string ⟨#[]⟩, .int .i64 0, .int .i64 0, .slice none 0 0] 30) := ⟨_, rfl⟩
  have HS0 : Hid (w0.heap.size = w.heap.size + 2) := by show _ = _; rw [hw0]; simp
  have HB0 : Hid (Below w.heap.size w w0) := by rw [hw0]; exact ((Below.refl _ _).alloc (Nat.le_refl _) _).alloc (by simp) _
  have HX0 : Hid (w0.heap[w.heap.size]? = some (.cells #[.int .i64 0, .string ⟨#[]⟩, .int .i64 0, .int .i64 0, .slice none 0 0] 30 (0, 0)) ∧ w0.heap[w.heap.size + 1]? = some (.cells #[.int .i64 0, .string ⟨#[]⟩, .int .i64 0, .int .i64 0, .slice none 0 0] 30 (0, 0))) := by
    refine ⟨?_, ?_⟩
    · rw [hw0]; exact (((Below.refl _ _).alloc (Nat.le_refl _) _).block w.heap.size (by simp)).trans (heap_alloc_new w _)
    · rw [hw0]; have := heap_alloc_new (w.alloc (.cells #[.int .i64 0, .string ⟨#[]⟩, .int .i64 0, .int .i64 0, .slice none 0 0] 30)) (.cells #[.int .i64 0, .string ⟨#[]⟩, .int .i64 0, .int .i64 0, .slice none 0 0] 30 (0, 0)); simpa using this
  have H : Hid (Row w0 a n bs) := h.kept HB0.out
  have HW0 : Hid (_ = _) := hw0
  clear h hw0
  go_enter Tryz.func7, Tryz.ntmps7
  go_upto_region 1 with fail
  rw [← HW0.out]
  clear HW0
  go_wp2_with fail
  refine (open_any a n cap bs _ H.out hn).mono ?_
  rintro e w1 ⟨rfl, hr1, hb1⟩
  have HR1 : Hid (Rd w1 w0.heap.size a n cap bs) := hr1
  have HB1 : Hid (Below w0.heap.size w0 w1) := hb1
  clear hr1 hb1
  go_wp2_with fail
  refine (drawGen_any _ a n cap bs _ HR1.out).mono ?_
  rintro e w2 ⟨⟨k, t, ad, bi⟩, ao, m, c, xs, rfl, ht, hm, hnz, ho, hp2⟩
  replace ht : t.size ≤ 60 := ht
  have HNZ : Hid (k = 4 → 1 ≤ m) := fun hk => hnz rfl hk
  have HO2 : Hid (OwnPt w1.heap.size w2 ao m c xs) := ho
  have HP2 : Hid (RdPost w1 w0.heap.size a n cap bs w2) := hp2
  clear ho hp2 hnz
  unfold gnv
  dsimp only
  obtain ⟨w3, hw3⟩ : ∃ w3, w3 = w2.alloc (.cells #[.int .i64 k, .string t, .int .i64 ad, .int .i64 bi, .slice ao m c] 30) := ⟨_, rfl⟩
  have HB3 : Hid (Below w2.heap.size w2 w3) := by rw [hw3]; exact (Below.refl _ _).alloc (Nat.le_refl _) _
  have HX3 : Hid (w3.heap[w2.heap.size]? = some (.cells #[.int .i64 k, .string t, .int .i64 ad, .int .i64 bi, .slice ao m c] 30 (0, 0))) := by rw [hw3]; exact heap_alloc_new w2 _
  have HW3 : Hid (_ = _) := hw3
  clear hw3
  go_upto_region 3 with fail
  rw [← HW3.out]
  clear HW3
  have hrd3 := HP2.out.1.kept HB3.out
  go_wp2_with fail
  refine (drawBase_any _ a n cap bs _ hrd3).mono ?_
  rintro e w4 ⟨⟨k2, t2, ad2, bi2⟩, a2, m2, c2, ys, rfl, ht2, hm2, _, ho, hp4⟩
  replace ht2 : t2.size ≤ 60 := ht2
  have HO4 : Hid (OwnPt w3.heap.size w4 a2 m2 c2 ys) := ho
  have HP4 : Hid (RdPost w3 w0.heap.size a n cap bs w4) := hp4
  clear ho hp4 hrd3
  unfold gnv
  dsimp only
  obtain ⟨w5, hw5⟩ : ∃ w5, w5 = w4.alloc (.cells #[.int .i64 k2, .string t2, .int .i64 ad2, .int .i64 bi2, .slice a2 m2 c2] 30) := ⟨_, rfl⟩
  have HB5 : Hid (Below w4.heap.size w4 w5) := by rw [hw5]; exact (Below.refl _ _).alloc (Nat.le_refl _) _
  have HX5 : Hid (w5.heap[w4.heap.size]? = some (.cells #[.int .i64 k2, .string t2, .int .i64 ad2, .int .i64 bi2, .slice a2 m2 c2] 30 (0, 0))) := by rw [hw5]; exact heap_alloc_new w4 _
  have HW5 : Hid (_ = _) := hw5
  clear hw5
  obtain ⟨R, hR⟩ : ∃ R, R = w0.heap.size := ⟨_, rfl⟩
  obtain ⟨B, hB⟩ : ∃ B, B = w1.heap.size := ⟨_, rfl⟩
  obtain ⟨X, hX⟩ : ∃ X, X = w2.heap.size := ⟨_, rfl⟩
  obtain ⟨Y, hY⟩ : ∃ Y, Y = w4.heap.size := ⟨_, rfl⟩
  have HDW : Hid (DW w R B X Y a n cap bs w5 k t ad bi ao m c xs k2 t2 ad2 bi2 a2 m2 c2 ys) := by
    have s0 := HS0.out
    have s1 := HR1.out.lt
    have s2 := HP2.out.2.size
    have s3 : w2.heap.size < w3.heap.size := (Array.getElem?_eq_some_iff.1 HX3.out).1
    have s4 := HP4.out.2.size
    have s5 : w4.heap.size < w5.heap.size := (Array.getElem?_eq_some_iff.1 HX5.out).1
    subst hR hB hX hY
    have b12 : ∀ l, l < w1.heap.size → l ≠ w0.heap.size → w2.heap[l]? = w1.heap[l]? := fun l h1 h2 => HP2.out.2.block l h1 (by omega)
    have b34 : ∀ l, l < w3.heap.size → l ≠ w0.heap.size → w4.heap[l]? = w3.heap[l]? := fun l h1 h2 => HP4.out.2.block l h1 (by omega)
    have b25 : ∀ l, l < w2.heap.size → l ≠ w0.heap.size → w5.heap[l]? = w2.heap[l]? := fun l h1 h2 => (HB5.out.block l (by omega)).trans ((b34 l (by omega) h2).trans (HB3.out.block l h1))
    have hbel : Below w.heap.size w w5 := ⟨HB5.out.os.trans (HP4.out.2.os.trans (HB3.out.os.trans (HP2.out.2.os.trans (HB1.out.os.trans HB0.out.os)))), HB5.out.tape.trans (HP4.out.2.tape.trans (HB3.out.tape.trans (HP2.out.2.tape.trans (HB1.out.tape.trans HB0.out.tape)))), HB5.out.output.trans (HP4.out.2.output.trans (HB3.out.output.trans (HP2.out.2.output.trans (HB1.out.output.trans HB0.out.output)))), by omega, fun l hl => (b25 l (by omega) (by omega)).trans ((b12 l (by omega) (by omega)).trans ((HB1.out.block l (by omega)).trans (HB0.out.block l hl)))⟩
    refine ⟨⟨by omega, s1, s2, by omega, s5⟩, HP4.out.1.kept HB5.out, ?_, ?_, ?_, HX5.out, ?_, fun q hq => (HO2.out.blk q hq).2.1, ?_, fun q hq => by have := (HO4.out.blk q hq).2.1; omega, hbel⟩
    · exact (b25 _ (by omega) (by omega)).trans ((b12 _ (by omega) (by omega)).trans ((HB1.out.block _ (by omega)).trans HX0.out.1))
    · exact (b25 _ (by omega) (by omega)).trans ((b12 _ (by omega) (by omega)).trans ((HB1.out.block _ (by omega)).trans HX0.out.2))
    · exact (HB5.out.block _ (by omega)).trans ((b34 _ s3 (by omega)).trans HX3.out)
    · exact HO2.out.keep fun q _ hq hl => b25 _ hl (by omega)
    · exact (HO4.out.keep fun q _ _ hl => HB5.out.block _ hl).lower (by omega)
  clear HB5 HX5 HP4 HO4 HB3 HX3 HP2 HO2 HB1 HR1 HX0 HB0 H
  go_upto_region 4 with fail
  rw [← HW5.out]
  clear HW5
  simp only [← hR, ← hX, ← hY]
  clear hR hX hY hB HS0
  go_wp2
  go_loopw [7] (fun i wr => ∃ (j : Nat) (k2 : Int) (t2 : ByteArray) (ad2 bi2 : Int) (a2 : Option Addr) (m2 c2 : Nat) (ys : List PT), j ≤ 4 ∧ i = .int .i64 j ∧ t2.size ≤ 60 ∧ m2 ≤ 3 ∧ Hid (DW w R B X Y a n cap bs wr k t ad bi ao m c xs k2 t2 ad2 bi2 a2 m2 c2 ys)) (fun i _ => 4 - (intOf i).toNat)
  case atStart => exact ⟨0, k2, t2, ad2, bi2, a2, m2, c2, ys, by omega, rfl, ht2, hm2, HDW⟩
  case round =>
    clear HDW ht2 hm2
    obtain ⟨j, k3, t3, ad3, bi3, a3, m3, c3, zs, hj, rfl, ht3, hm3, HD⟩ := hrel
    obtain ⟨⟨x0, x1, x2, x3, x4⟩, y0, y1, y2, y3, y4⟩ := HD.out.cells
    by_cases hgo : j < 4 ∧ k3 ≠ k
    · obtain ⟨hj4, hkk⟩ := hgo
      have hj4i : (j : Int) < 4 := by omega
      have hkb : (k3 == k) = false := beq_false_of_ne hkk
      go_wp2_with fail
      refine (drawBase_any _ a n cap bs _ HD.out.rd).mono ?_
      rintro e w6 ⟨⟨k4, t4, ad4, bi4⟩, a4, m4, c4, zs4, rfl, ht4, hm4, _, ho4, hp6⟩
      replace ht4 : t4.size ≤ 60 := ht4
      have H6 : Hid (DW w R B X Y a n cap bs w6 k t ad bi ao m c xs k3 t3 ad3 bi3 a3 m3 c3 zs) := HD.out.rdp hp6
      have H7 : Hid (DW w R B X Y a n cap bs (w6.setRow Y #[.int .i64 k4, .string t4, .int .i64 ad4, .int .i64 bi4, .slice a4 m4 c4]) k t ad bi ao m c xs k4 t4 ad4 bi4 a4 m4 c4 zs4) := H6.out.two (ho4.lower (by have := HD.out.lo; omega)) fun q hq => by have := (ho4.blk q hq).1; have := HD.out.lo; omega
      clear ho4 hp6 x0 x1 x2 x3 x4 y0 y1 y2 y3 y4
      unfold gnv
      dsimp only
      go_wp2_with (refine wpList_store_rowTo rfl 30 _ _ rfl rfl Y #[.int .i64 k4, .string t4, .int .i64 ad4, .int .i64 bi4, .slice a4 m4 c4] rfl rfl 30 #[.int .i64 k3, .string t3, .int .i64 ad3, .int .i64 bi3, .slice a3 m3 c3] H6.out.box2 infoSizeGn rfl (by simp [Value.oneCell']) ?_)
      go_roundw
      case rel => exact ⟨j + 1, k4, t4, ad4, bi4, a4, m4, c4, zs4, by omega, by go_num, ht4, hm4, H7⟩
      case measure => simp [intOf]; omega
    · go_upto_region 5 with fail
      go_cut [22] (fun v wx => v = .bool false ∧ Hid (DW w R B X Y a n cap bs wx k t ad bi ao m c xs k3 t3 ad3 bi3 a3 m3 c3 zs))
      case first =>
        by_cases hj4 : j < 4
        · have hj4i : (j : Int) < 4 := by omega
          have hkk : k3 = k := Classical.byContradiction fun q => hgo ⟨hj4, q⟩
          subst hkk
          go_wp2_with fail
          go_meet
          exact ⟨by simp, HD⟩
        · have hj4i : ¬ (j : Int) < 4 := by omega
          go_wp2_with fail
          go_meet
          exact ⟨rfl, HD⟩
      case rest =>
      obtain ⟨rfl, HD⟩ := hcut
      clear x0 x1 x2 x3 x4 y0 y1 y2 y3 y4 hgo
      obtain ⟨⟨x0, x1, x2, x3, x4⟩, y0, y1, y2, y3, y4⟩ := HD.out.cells
      go_upto_region 8 with fail
      go_cut [33] (fun v wx => ∃ b : Bool, v = .bool b ∧ Hid (DW w R B X Y a n cap bs wx k t ad bi ao m c xs k3 t3 ad3 bi3 a3 m3 c3 zs))
      case first =>
        by_cases hk1 : k = 1
        · subst hk1
          go_wp2_with fail
          refine (once_any _ a n cap bs 2 _ HD.out.rd (by decide) (by decide)).mono ?_
          rintro e w6 ⟨b, rfl, hp⟩
          have H6 : Hid (DW w R B X Y a n cap bs w6 1 t ad bi ao m c xs k3 t3 ad3 bi3 a3 m3 c3 zs) := HD.out.rdp hp
          clear hp
          go_wp2_with fail
          go_meet
          exact ⟨_, rfl, H6⟩
        · have hkb : (k == 1) = false := beq_false_of_ne hk1
          go_wp2_with fail
          go_meet
          exact ⟨_, rfl, HD⟩
      case rest =>
      clear HD x0 x1 x2 x3 x4 y0 y1 y2 y3 y4
      obtain ⟨b, rfl, HD⟩ := hcut
      obtain ⟨⟨x0, x1, x2, x3, x4⟩, y0, y1, y2, y3, y4⟩ := HD.out.cells
      go_upto_if 33 with fail
      go_cut [37] (fun _ wx => ∃ (k3 : Int) (t3 : ByteArray) (ad3 bi3 : Int) (a3 : Option Addr) (m3 c3 : Nat) (zs : List PT), t3.size ≤ 60 ∧ m3 ≤ 3 ∧ Hid (DW w R B X Y a n cap bs wx k t ad bi ao m c xs k3 t3 ad3 bi3 a3 m3 c3 zs))
      case first =>
        cases b with
        | false =>
          go_wp2_with fail
          go_meet
          exact ⟨_, _, _, _, _, _, _, _, ht3, hm3, HD⟩
        | true =>
          go_wp2_with fail
          refine (l6Behind_any t _ (by omega)).mono ?_
          rintro e w6 ⟨rfl, rfl⟩
          obtain ⟨q, hq⟩ : ∃ q, q = bh t 46 := ⟨_, rfl⟩
          have hqs : q.size ≤ 60 := by rw [hq]; have := bh_le t 46; omega
          rw [← hq]
          clear hq
          have H7 := HD.out.two (k3 := 1) (t3 := q) (ad3 := 0) (bi3 := 0) (ownPt_none (X + 1) _) (fun q hq => by cases hq)
          have H7' : Hid (_) := H7
          clear H7
          go_wp2_with (refine wpList_store_rowTo rfl 30 _ _ rfl rfl Y #[.int .i64 1, .string q, .int .i64 0, .int .i64 0, .slice none 0 0] rfl rfl 30 #[.int .i64 k3, .string t3, .int .i64 ad3, .int .i64 bi3, .slice a3 m3 c3] HD.out.box2 infoSizeGn rfl (by simp [Value.oneCell']) ?_)
          go_meet
          exact ⟨_, _, _, _, _, _, _, _, hqs, by omega, H7'⟩
      case rest =>
      clear HD x0 x1 x2 x3 x4 y0 y1 y2 y3 y4 ht3 hm3
      obtain ⟨k3, t3, ad3, bi3, a3, m3, c3, zs, ht3, hm3, HD⟩ := hcut
      obtain ⟨⟨x0, x1, x2, x3, x4⟩, y0, y1, y2, y3, y4⟩ := HD.out.cells
      go_upto_region 10 with fail
      go_cut [44] (fun v wx => ∃ b : Bool, v = .bool b ∧ Hid (b = true → k = 4) ∧ Hid (DW w R B X Y a n cap bs wx k t ad bi ao m c xs k3 t3 ad3 bi3 a3 m3 c3 zs))
      case first =>
        by_cases hk1 : k = 4
        · subst hk1
          go_wp2_with fail
          refine (once_any _ a n cap bs 2 _ HD.out.rd (by decide) (by decide)).mono ?_
          rintro e w6 ⟨b, rfl, hp⟩
          have H6 : Hid (DW w R B X Y a n cap bs w6 4 t ad bi ao m c xs k3 t3 ad3 bi3 a3 m3 c3 zs) := HD.out.rdp hp
          clear hp
          go_wp2_with fail
          go_meet
          exact ⟨_, rfl, fun _ => by trivial, H6⟩
        · have hkb : (k == 4) = false := beq_false_of_ne hk1
          go_wp2_with fail
          go_meet
          exact ⟨_, rfl, (fun h => nomatch h), HD⟩
      case rest =>
      clear HD x0 x1 x2 x3 x4 y0 y1 y2 y3 y4
      obtain ⟨b, rfl, HK4, HD⟩ := hcut
      obtain ⟨⟨x0, x1, x2, x3, x4⟩, y0, y1, y2, y3, y4⟩ := HD.out.cells
      go_upto_if 44 with fail
      go_cut [52] (fun _ wx => ∃ (k3 : Int) (t3 : ByteArray) (ad3 bi3 : Int) (a3 : Option Addr) (m3 c3 : Nat) (zs : List PT), t3.size ≤ 60 ∧ m3 ≤ 3 ∧ Hid (DW w R B X Y a n cap bs wx k t ad bi ao m c xs k3 t3 ad3 bi3 a3 m3 c3 zs))
      case first =>
        cases b with
        | false =>
          go_wp2_with fail
          go_meet
          exact ⟨_, _, _, _, _, _, _, _, ht3, hm3, HD⟩
        | true =>
          have hm1 : 1 ≤ m := HNZ.out (HK4.out rfl)
          obtain ⟨gb, rfl, hgb0, hgb1⟩ := HD.out.own1.there (by omega)
          have hcap := HD.out.own1.cap
          have hc1 : (1 : Int) ≤ (c : Int) := by omega
          have hbA : Below wc.heap.size wc (wc.alloc (.cells #[] 80)) := (Below.refl _ _).alloc (Nat.le_refl _) _
          have HA : Hid (DW w R B X Y a n cap bs (wc.alloc (.cells #[] 80)) k t ad bi (some ⟨gb, 0, none⟩) m c xs k3 t3 ad3 bi3 a3 m3 c3 zs) := HD.out.on hbA
          obtain ⟨⟨z0, z1, z2, z3, z4⟩, _⟩ := HA.out.cells
          have HNEWS : Hid (∀ j u, (ptc (xs.take 1))[j]? = some u → (wc.alloc (.cells #[] 80)).cell? ((⟨gb, 0, none⟩ : Addr).add j) = some u) := pts_news (HA.out.own1.pts (by omega)) 1 (by omega)
          have HLEN : Hid ((ptc (xs.take 1)).length = 1 * 2) := by show _ = _; rw [ptc_len, List.length_take, HD.out.own1.len]; omega
          have HOWN : Hid ((wc.alloc (.cells #[] 80)).ownsRow wc.heap.size 80 2 (.slice (some ⟨wc.heap.size, 0, none⟩) 0 0) 0 []) := World.ownsRow_lit wc #[] 0 (Nat.le_refl _) (Nat.zero_le _) rfl
          have HBA : Hid (wc.heap.size ≤ (wc.alloc (.cells #[] 80)).heap.size) := by show _ ≤ _; simp
          have HXS : Hid (∀ x ∈ xs.take 1, x.val.size ≤ 1000) := fun x hx => HD.out.own1.small x (List.mem_of_mem_take hx)
          have HLX : Hid ((xs.take 1).length = 1) := by show _ = _; rw [List.length_take, HD.out.own1.len]; omega
          have HSX : Hid (X + 1 ≤ wc.heap.size ∧ Y < wc.heap.size) := by have := HD.out.lo; exact ⟨by omega, by omega⟩
          clear hbA hgb0 hgb1
          go_upto_region 11 with fail
          go_wp2_with (first | (at_builtin; refine wpList_append_own _ rfl _ _ 26 rfl wc.heap.size 80 i0 _ 2 24 Tryz.underlying26 hi hz0 hz1 hz2 rfl (by decide) (.slice (some ⟨wc.heap.size, 0, none⟩) 0 0) 0 [] rfl HOWN.out ⟨gb, 0, none⟩ 1 c (ptc (xs.take 1)) rfl HLEN.out HNEWS.out (ptc_one _) (by unfold maxLen; omega) (by omega) HBA.out ?_; intro v8 w8 hown8 hgrow8 _; rw [Nat.zero_add, List.nil_append] at hown8; obtain ⟨a8, c8, rfl⟩ := owns_shapeN hown8; have hb8 : Below wc.heap.size wc w8 := ((Below.refl wc.heap.size wc).alloc (Nat.le_refl _) _).grown hgrow8 HBA.out (fun l hl => (HOWN.out.lt l hl).1); have HO8 : Hid (OwnPt (X + 1) w8 a8 1 c8 (xs.take 1)) := (OwnPt.lower (B := wc.heap.size) ⟨hown8, HLX.out, HXS.out⟩ HSX.out.1); have HN8 : Hid (∀ q, a8 = some q → q.block ≠ Y) := (fun q hq => by have := (OwnPt.blk (B := wc.heap.size) ⟨hown8, HLX.out, HXS.out⟩ q hq).1; have := HSX.out.2; omega); have HD8 : Hid (DW w R B X Y a n cap bs w8 k t ad bi (some ⟨gb, 0, none⟩) m c xs k3 t3 ad3 bi3 a3 m3 c3 zs) := HD.out.on hb8; clear hown8 hgrow8 hb8) | (refine wpList_store_rowTo rfl 30 _ _ rfl rfl Y #[.int .i64 4, .string ⟨#[]⟩, .int .i64 0, .int .i64 0, .slice a8 1 c8] rfl rfl 30 #[.int .i64 k3, .string t3, .int .i64 ad3, .int .i64 bi3, .slice a3 m3 c3] HD8.out.box2 infoSizeGn rfl (by simp [Value.oneCell']) ?_))
          go_meet
          exact ⟨4, ⟨#[]⟩, 0, 0, a8, 1, c8, xs.take 1, (show (0 : Nat) ≤ 60 by omega), by omega, HD8.out.two HO8.out HN8.out⟩
      case rest =>
      clear HD x0 x1 x2 x3 x4 y0 y1 y2 y3 y4 ht3 hm3 HK4 HNZ
      obtain ⟨k3, t3, ad3, bi3, a3, m3, c3, zs, ht3, hm3, HD⟩ := hcut
      have hlo := HD.out.lo
      have hbd := bendGen_any R B X a n cap bs k t ad bi ao m c xs wc HD.out.rd HD.out.own1 HD.out.l1 hm ht (by omega) (by omega) (by omega)
      go_wp2_with (refine wpList_load_row rfl 30 _ rfl X rfl 30 #[.int .i64 k, .string t, .int .i64 ad, .int .i64 bi, .slice ao m c] (0, 0) _ HD.out.box1 Tryz.underlying30 rfl infoSizeGn ?_)
      refine hbd.mono ?_
      clear hbd
      rintro e w9 ⟨⟨k5, t5, ad5, bi5⟩, a5, m5, c5, xs5, rfl, ht5, hm5, ho5, hn5, hr5, hb5⟩
      replace ht5 : t5.size ≤ 100 := ht5
      unfold gnv
      dsimp only
      -- what has stayed
      have HK9 : Hid (∀ l, l < wc.heap.size → l ≠ R → ¬ (B ≤ l ∧ l < X) → w9.heap[l]? = wc.heap[l]?) := hb5.block
      have hs9 := hb5.size
      have HX9 : Hid (w9.heap[X]? = some (.cells #[.int .i64 k, .string t, .int .i64 ad, .int .i64 bi, .slice ao m c] 30 (0, 0))) := (HK9.out _ (by omega) (by omega) (by omega)).trans HD.out.box1
      obtain ⟨wA, hwA⟩ : ∃ wA, wA = w9.setRow X #[.int .i64 k5, .string t5, .int .i64 ad5, .int .i64 bi5, .slice a5 m5 c5] := ⟨_, rfl⟩
      have eA : ∀ l, l ≠ X → wA.heap[l]? = w9.heap[l]? := fun l hl => by rw [hwA]; exact setRow_other _ _ _ _ hl
      have sA : wA.heap.size = w9.heap.size := by rw [hwA]; simp
      have HXA : Hid (wA.heap[X]? = some (.cells #[.int .i64 k5, .string t5, .int .i64 ad5, .int .i64 bi5, .slice a5 m5 c5] 30 (0, 0))) := by rw [hwA]; exact setRow_heap _ _ _ _ _ _ HX9.out
      have HYA : Hid (wA.heap[Y]? = some (.cells #[.int .i64 k3, .string t3, .int .i64 ad3, .int .i64 bi3, .slice a3 m3 c3] 30 (0, 0))) := (eA _ (by omega)).trans ((HK9.out _ (by omega) (by omega) (by omega)).trans HD.out.box2)
      have HRA : Hid (Rd wA R a n cap bs) := by rw [hwA]; exact hr5.touch (setRow_touchG _ _ _) (by omega)
      have HO5 : Hid (OwnPt B wA a5 m5 c5 xs5 ∧ ∀ q, a5 = some q → q.block < X ∨ wc.heap.size ≤ q.block) := ⟨ho5.keep fun q hq _ _ => eA _ (by have := hn5 q hq; omega), hn5⟩
      have HO3 : Hid (OwnPt (X + 1) wA a3 m3 c3 zs ∧ ∀ q, a3 = some q → q.block < wc.heap.size) := ⟨HD.out.own2.keep fun q hq hb hl => (eA _ (by omega)).trans (HK9.out _ hl (by omega) (by omega)), fun q hq => (HD.out.own2.blk q hq).2.1⟩
      have HLA : Hid (wA.os = wc.os ∧ wA.tape = wc.tape ∧ wA.output = wc.output ∧ wc.heap.size ≤ wA.heap.size ∧ ∀ l, l < wc.heap.size → l ≠ R → ¬ (B ≤ l ∧ l ≤ X) → wA.heap[l]? = wc.heap[l]?) := by
        refine ⟨?_, ?_, ?_, by omega, fun l h1 h2 h3 => (eA _ (by omega)).trans (HK9.out l h1 h2 (by omega))⟩
        · rw [hwA]; exact hb5.os
        · rw [hwA]; exact hb5.tape
        · rw [hwA]; exact hb5.output
      have HWA : Hid (_ = _) := hwA
      clear hwA eA ho5 hn5 hr5 hb5 HK9
      go_upto_region 13 with (refine wpList_store_rowTo rfl 30 _ _ rfl rfl X #[.int .i64 k5, .string t5, .int .i64 ad5, .int .i64 bi5, .slice a5 m5 c5] rfl rfl 30 #[.int .i64 k, .string t, .int .i64 ad, .int .i64 bi, .slice ao m c] HX9.out infoSizeGn rfl (by simp [Value.oneCell']) ?_)
      rw [← HWA.out]
      clear HWA HX9
      have hla := HLA.out.2.2.2.1
      have hlX : X < wA.heap.size := by omega
      have hlY : Y < wA.heap.size := by omega
      have hlP : w.heap.size < wA.heap.size := by omega
      have hlP1 : w.heap.size + 1 < wA.heap.size := by omega
      have HP1 : Hid (wA.heap[w.heap.size]? = some (.cells #[.int .i64 0, .string ⟨#[]⟩, .int .i64 0, .int .i64 0, .slice none 0 0] 30 (0, 0)) ∧ wA.heap[w.heap.size + 1]? = some (.cells #[.int .i64 0, .string ⟨#[]⟩, .int .i64 0, .int .i64 0, .slice none 0 0] 30 (0, 0))) := ⟨(HLA.out.2.2.2.2 _ (by omega) (by omega) (by omega)).trans HD.out.res1, (HLA.out.2.2.2.2 _ (by omega) (by omega) (by omega)).trans HD.out.res2⟩
      have HC5 : Hid (∀ (W : World) (Q : Nat) (v0 v1 v2 v3 v4 : Value), W.heap[Q]? = some (.cells #[v0, v1, v2, v3, v4] 30 (0, 0)) → (W.cell? ⟨Q, 0, none⟩ = some v0 ∧ W.cell? ⟨Q, 1, none⟩ = some v1 ∧ W.cell? ⟨Q, 2, none⟩ = some v2 ∧ W.cell? ⟨Q, 3, none⟩ = some v3 ∧ W.cell? ⟨Q, 4, none⟩ = some v4) ∧ (W.frozen? ⟨Q, 0, none⟩ = false ∧ W.frozen? ⟨Q, 1, none⟩ = false ∧ W.frozen? ⟨Q, 2, none⟩ = false ∧ W.frozen? ⟨Q, 3, none⟩ = false ∧ W.frozen? ⟨Q, 4, none⟩ = false)) := fun W Q v0 v1 v2 v3 v4 hb =>
        ⟨⟨(cell_of_row _ _ 0 _ 30 (0, 0) hb).trans rfl, (cell_of_row _ _ 1 _ 30 (0, 0) hb).trans rfl, (cell_of_row _ _ 2 _ 30 (0, 0) hb).trans rfl, (cell_of_row _ _ 3 _ 30 (0, 0) hb).trans rfl, (cell_of_row _ _ 4 _ 30 (0, 0) hb).trans rfl⟩, frozen_of_row W _ 0 _ 30 hb, frozen_of_row W _ 1 _ 30 hb, frozen_of_row W _ 2 _ 30 hb, frozen_of_row W _ 3 _ 30 hb, frozen_of_row W _ 4 _ 30 hb⟩
      obtain ⟨⟨x0, x1, x2, x3, x4⟩, _⟩ := HC5.out wA.drew X _ _ _ _ _ HXA.out
      obtain ⟨⟨y0, y1, y2, y3, y4⟩, _⟩ := HC5.out wA.drew Y _ _ _ _ _ HYA.out
      have HBN : Hid (∀ {e : Ending} {w' : World}, BgR wA.drew R (X + 1) wc.heap.size a n cap bs e w' → True) := fun _ => trivial
      have hbd := bendGen_any R (X + 1) wc.heap.size a n cap bs k3 t3 ad3 bi3 a3 m3 c3 zs wA.drew (HRA.out.kept (Below.refl _ _).drew) (HO3.out.1.keep fun q _ _ _ => rfl) HO3.out.2 hm3 ht3 (by omega) (by omega) (by show _ ≤ wA.heap.size; omega)
      clear HBN
      go_region_law (go_simp; go_at_call 27; refine hbd.mono ?_; rintro e wC ⟨⟨k6, t6, ad6, bi6⟩, a6, m6, c6, xs6, rfl, ht6, hm6, ho6, hn6, hr6, hb6⟩; replace ht6 : t6.size ≤ 100 := ht6; unfold gnv; dsimp only; have HB6 : Hid (Bent R (X + 1) wc.heap.size wA wC) := (⟨hb6.os, hb6.tape, hb6.output, hb6.size, hb6.block⟩ : Bent R (X + 1) wc.heap.size wA wC); have HXC : Hid (wC.heap[X]? = some (.cells #[.int .i64 k5, .string t5, .int .i64 ad5, .int .i64 bi5, .slice a5 m5 c5] 30 (0, 0))) := (HB6.out.block _ hlX (by omega) (by omega)).trans HXA.out; have HPC : Hid (wC.heap[w.heap.size]? = some (.cells #[.int .i64 0, .string ⟨#[]⟩, .int .i64 0, .int .i64 0, .slice none 0 0] 30 (0, 0)) ∧ wC.heap[w.heap.size + 1]? = some (.cells #[.int .i64 0, .string ⟨#[]⟩, .int .i64 0, .int .i64 0, .slice none 0 0] 30 (0, 0))) := ⟨(HB6.out.block _ hlP (by omega) (by omega)).trans HP1.out.1, (HB6.out.block _ hlP1 (by omega) (by omega)).trans HP1.out.2⟩; obtain ⟨⟨u0, u1, u2, u3, u4⟩, _⟩ := HC5.out wC X _ _ _ _ _ HXC.out; obtain ⟨⟨p0, p1, p2, p3, p4⟩, q0, q1, q2, q3, q4⟩ := HC5.out wC _ _ _ _ _ _ HPC.out.1; obtain ⟨⟨r0, r1, r2, r3, r4⟩, s0, s1, s2, s3, s4⟩ := HC5.out wC _ _ _ _ _ _ HPC.out.2; have HO6 : Hid (OwnPt (X + 1) wC a6 m6 c6 xs6) := ho6; have hlp : w.heap.size < wC.heap.size := Nat.lt_of_lt_of_le hlP HB6.out.size; have hlp1 : w.heap.size + 1 < wC.heap.size := Nat.lt_of_lt_of_le hlP1 HB6.out.size; clear ho6 hn6 hr6 hb6)
      all_goals
        obtain ⟨e1, e2, eT⟩ := ten_set HPC.out.1 HPC.out.2 (.int .i64 k5) (.string t5) (.int .i64 ad5) (.int .i64 bi5) (.slice a5 m5 c5) (.int .i64 k6) (.string t6) (.int .i64 ad6) (.int .i64 bi6) (.slice a6 m6 c6)
        have hF1 : OwnPt B wC a5 m5 c5 xs5 := HO5.out.1.keep fun q hq hb hl => HB6.out.block _ hl (by omega) (by have := HO5.out.2 q hq; omega)
        have hF : OwnPt w.heap.size (set5 (set5 wC w.heap.size (.int .i64 k5) (.string t5) (.int .i64 ad5) (.int .i64 bi5) (.slice a5 m5 c5)) (w.heap.size + 1) (.int .i64 k6) (.string t6) (.int .i64 ad6) (.int .i64 bi6) (.slice a6 m6 c6)) a5 m5 c5 xs5 := (hF1.keep fun q hq hb hl => eT.block _ hl (by omega)).lower (by omega)
        have hG : OwnPt w.heap.size (set5 (set5 wC w.heap.size (.int .i64 k5) (.string t5) (.int .i64 ad5) (.int .i64 bi5) (.slice a5 m5 c5)) (w.heap.size + 1) (.int .i64 k6) (.string t6) (.int .i64 ad6) (.int .i64 bi6) (.slice a6 m6 c6)) a6 m6 c6 xs6 := (HO6.out.keep fun q hq hb hl => eT.block _ hl (by omega)).lower (by omega)
        have hBel : Below w.heap.size w (set5 (set5 wC w.heap.size (.int .i64 k5) (.string t5) (.int .i64 ad5) (.int .i64 bi5) (.slice a5 m5 c5)) (w.heap.size + 1) (.int .i64 k6) (.string t6) (.int .i64 ad6) (.int .i64 bi6) (.slice a6 m6 c6)) := by
          have b1 := HD.out.below
          obtain ⟨c1, c2', c3', c4', c5'⟩ := HLA.out
          refine ⟨eT.os.trans (HB6.out.os.trans (c1.trans b1.os)), eT.tape.trans (HB6.out.tape.trans (c2'.trans b1.tape)), eT.output.trans (HB6.out.output.trans (c3'.trans b1.output)), by have := eT.size; have := HB6.out.size; have := b1.size; omega, fun l hl => ?_⟩
          have hs6 := HB6.out.size
          exact (eT.block l (by omega) (by omega)).trans ((HB6.out.block l (by omega) (by omega) (by omega)).trans ((c5' l (by omega) (by omega) (by omega)).trans (b1.block l hl)))
        clear HO5 HO6 HB6 HD HLA HRA HO3 HXA HYA HP1 HXC HPC
        go_wp2
        try simp only [Exit.inBlock, Exit.then]
        exact bodyPost_ret (results_gg rfl _ w.heap.size (w.heap.size + 1) rfl rfl _ _ _ _ _ _ _ _ _ _ _ e1 e2) rfl ⟨⟨k5, t5, ad5, bi5⟩, a5, m5, c5, xs5, ⟨k6, t6, ad6, bi6⟩, a6, m6, c6, xs6, rfl, ⟨ht5, hm5⟩, ⟨ht6, hm6⟩, hF, hG, hBel⟩

end Go.Proofs.YtoncodoimnideaaGreatDoor

