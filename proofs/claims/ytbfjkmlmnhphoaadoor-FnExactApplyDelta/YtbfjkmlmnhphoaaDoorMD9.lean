import Derived.Test.YtbfjkmlmnhphoaaDoorGMD6MD0
set_option linter.unusedVariables false
namespace Go.Proofs.YtbfjkmlmnhphoaaDoor
open Go.RowKit Go.Sort

theorem ownsRow_ownBlock {w : World} {B t s n c : Nat} {a : Option Addr} {vs : List Value} (h : w.ownsRow B t s (.slice a n c) n vs) : ∀ g, (Value.slice a n c).ownBlock = some g → a = some ⟨g, 0, none⟩ := by
  intro g e
  rcases h.2 with ⟨q, _⟩ | ⟨g', c1, cur, h1, hb, hg, r⟩
  · simp only [Value.slice.injEq] at q
    rw [q.1] at e
    simp [Value.ownBlock] at e
  · simp only [Value.slice.injEq] at h1
    rw [h1.1] at e ⊢
    simp only [Value.ownBlock, Option.some.injEq] at e
    rw [e]

set_option maxRecDepth 10000 in
set_option maxHeartbeats 4000000 in
theorem markCrl_any (B : Nat) (S : Nat → Prop) (a1 : Option Addr) (n1 c1 : Nat) (a2 : Option Addr) (n2 c2 : Nat) (a3 : Option Addr) (n3 c3 : Nat) (x : CP) (v1 : List Value) (sl : Nat → Sl) (pv : Nat → List Value) (vs : List Value) (bs : List Int) (k : Nat) (w : World) (h : OwnC B w a1 n1 c1 a2 n2 c2 a3 n3 c3 v1 sl pv vs bs) (hin : InC S a1 n1 a2 n2 a3 sl)
    (hn1 : n1 ≤ 1048576) (hn2 : n2 ≤ 1048576) (hn3 : n3 ≤ 1048576) (hs : ∀ j, j < n2 → (sl j).2.1 ≤ 1048576) (h0 : 0 < k) (hk : nxQ sl (k + 2 * n1) n2 ≤ 2000000000000000) :
    Calls Tryd.prog 14 #[crv a1 n1 c1 a2 n2 c2 a3 n3 c3 x, .int .i64 k] w fun e w' => e = .returned (.int .i64 (nxQ sl (k + 2 * n1) n2 + n3 : Nat)) ∧ OwnC B w' a1 n1 c1 a2 n2 c2 a3 n3 c3 (mkPs k n1) sl (mkP sl (k + 2 * n1) pv n2) (mkV sl (k + 2 * n1) vs n2) (marks (nxQ sl (k + 2 * n1) n2) n3) ∧ TouchS S w w' := by
  unfold crv
  have hk1 : k + 2 * n1 ≤ 2000000000000000 := Nat.le_trans (nxQ_le sl (k + 2 * n1) (Nat.zero_le n2)) hk
  obtain ⟨W0, hW0⟩ : ∃ W0, W0 = w.alloc (.cells #[.slice a1 n1 c1, .int .i64 x.num, .int .i64 x.base, .int .i64 x.tm, .int .i64 x.next, .int .i64 x.scope, .bool x.ind, .slice a2 n2 c2, .slice a3 n3 c3] 36) := ⟨_, rfl⟩
  have hB0 : Below w.heap.size w W0 := by rw [hW0]; exact (Below.refl _ _).alloc (Nat.le_refl _) _
  have b0 : W0.heap[w.heap.size]? = some (.cells #[.slice a1 n1 c1, .int .i64 x.num, .int .i64 x.base, .int .i64 x.tm, .int .i64 x.next, .int .i64 x.scope, .bool x.ind, .slice a2 n2 c2, .slice a3 n3 c3] 36 (0, 0)) := by rw [hW0]; exact heap_alloc_new w _
  have hz0 : w.heap.size < W0.heap.size := (Array.getElem?_eq_some_iff.1 b0).1
  have HW : Hid (_ = _) := hW0
  have O0 := h.below hB0
  have HIC : Hid (InC (fun i => B ≤ i ∧ i < w.heap.size) a1 n1 a2 n2 a3 sl) := h.inC
  have HIN : Hid (InC S a1 n1 a2 n2 a3 sl) := hin
  have M1 := markName_q B a1 n1 c1 k v1 W0 O0.nm hn1 h0 (by omega)
  have HO0 : Hid (OwnC B W0 a1 n1 c1 a2 n2 c2 a3 n3 c3 v1 sl pv vs bs) := O0
  have HS : Hid (∀ j, j < n2 → (sl j).2.1 ≤ 1048576) := hs
  have x0 : W0.cell? ⟨w.heap.size, 0, none⟩ = some (.slice a1 n1 c1) := (cell_of_row _ _ 0 _ _ (0, 0) b0).trans rfl
  have HT0 : Hid (TouchS S w W0) := TouchS.of_below hB0
  have HB0 : Hid (W0.heap[w.heap.size]? = _) := b0
  obtain ⟨p, hp⟩ : ∃ p, p = k + 2 * n1 := ⟨_, rfl⟩
  rw [← hp] at M1 hk hk1
  rw [← hp]
  have hp0 : 0 < p := by omega
  obtain ⟨q, hq⟩ : ∃ q, q = nxQ sl p n2 := ⟨_, rfl⟩
  rw [← hq]
  have HQ : Hid (q = nxQ sl p n2) := hq
  have HK : Hid (nxQ sl p n2 ≤ 2000000000000000) := hk
  have hq1 : q ≤ 2000000000000000 := by rw [hq]; exact hk
  clear hW0 h hin hs O0 hp hk hq b0 hB0
  go_enter Tryd.func14, Tryd.ntmps14
  go_upto_region 1 with fail
  rw [← HW.out]
  clear HW
  go_wp2_with fail
  refine M1.mono ?_
  rintro e w1 ⟨rfl, ho1, ht1⟩
  have O1 := HO0.out.step1 ho1 ht1
  have b1 := (ht1.block w.heap.size hz0 (fun hp e => by have := (HIC.out.nm _ e hp).2; omega)).trans HB0.out
  have hz1 : w.heap.size < w1.heap.size := (Array.getElem?_eq_some_iff.1 b1).1
  have HT1 : Hid (TouchS S w w1) := HT0.out.trans (ht1.touchS HIN.out.nm)
  have HO1 : Hid (OwnC B w1 a1 n1 c1 a2 n2 c2 a3 n3 c3 (mkPs k n1) sl pv vs bs) := O1
  have M2 := markGoneS_any B (S2 a2 n2 sl) a2 n2 c2 p sl pv vs w1 O1.en hn2 HS.out hp0 HK.out (fun g e hp => .inl ⟨hp, e⟩) (fun j hj g e hp => .inr ⟨j, hj, hp, e⟩)
  rw [← HQ.out] at M2
  have x7 : w1.cell? ⟨w.heap.size, 7, none⟩ = some (.slice a2 n2 c2) := (cell_of_row _ _ 7 _ _ (0, 0) b1).trans rfl
  have HB1 : Hid (w1.heap[w.heap.size]? = _) := b1
  clear M1 ho1 ht1 HO0 O1 b1 HT0 HB0 x0 hz0
  go_wp2_with fail
  refine M2.mono ?_
  rintro e w2 ⟨rfl, ho2, ht2⟩
  have O2 := HO1.out.step2 ho2 ht2
  have b2 := (ht2.block w.heap.size hz1 (by
    rintro (⟨hp, e⟩ | ⟨j, hj, hp, e⟩)
    · have := (HIC.out.en _ e hp).2; omega
    · have := (HIC.out.each j hj _ e hp).2; omega)).trans HB1.out
  have HT2 : Hid (TouchS S w w2) := HT1.out.trans (ht2.mono (by
    rintro i (⟨hp, e⟩ | ⟨j, hj, hp, e⟩)
    · exact HIN.out.en _ e hp
    · exact HIN.out.each j hj _ e hp))
  have HO2 : Hid (OwnC B w2 a1 n1 c1 a2 n2 c2 a3 n3 c3 (mkPs k n1) sl (mkP sl p pv n2) (mkV sl p vs n2) bs) := O2
  have M3 := markByteS_big B a3 n3 c3 q bs w2 O2.sg (by omega) (by omega)
  have x8 : w2.cell? ⟨w.heap.size, 8, none⟩ = some (.slice a3 n3 c3) := (cell_of_row _ _ 8 _ _ (0, 0) b2).trans rfl
  clear M2 ho2 ht2 HO1 O2 b2 HT1 HB1 x7 hz1
  go_wp2_with fail
  refine M3.mono ?_
  rintro e w3 ⟨rfl, ho3, hg3⟩
  have ht3 := touchS_grown hg3 (ownsRow_ownBlock HO2.out.sg.row)
  have HO3 : Hid (OwnC B w3 a1 n1 c1 a2 n2 c2 a3 n3 c3 (mkPs k n1) sl (mkP sl p pv n2) (mkV sl p vs n2) (marks q n3)) := HO2.out.step3 ho3 ht3
  have HT3 : Hid (TouchS S w w3) := HT2.out.trans (ht3.mono (fun i e => HIN.out.sg i e))
  clear M3 ho3 hg3 ht3 HO2 HT2
  go_wp2
  go_ret
  exact ⟨rfl, HO3.out, HT3.out⟩

set_option maxRecDepth 10000 in
set_option maxHeartbeats 4000000 in
theorem heldCrl_any (B : Nat) (a1 : Option Addr) (n1 c1 : Nat) (a2 : Option Addr) (n2 c2 : Nat) (a3 : Option Addr) (n3 c3 : Nat) (x : CP) (sl : Nat → Sl) (pv : Nat → List Value) (vs : List Value) (k : Nat) (w : World) (h : OwnC B w a1 n1 c1 a2 n2 c2 a3 n3 c3 (mkPs k n1) sl (mkP sl (k + 2 * n1) pv n2) (mkV sl (k + 2 * n1) vs n2) (marks (nxQ sl (k + 2 * n1) n2) n3))
    (hn1 : n1 ≤ 1048576) (hn2 : n2 ≤ 1048576) (hn3 : n3 ≤ 1048576) (hs : ∀ j, j < n2 → (sl j).2.1 ≤ 1048576) (h0 : 0 < k) (hk : nxQ sl (k + 2 * n1) n2 ≤ 2000000000000000) :
    Calls Tryd.prog 15 #[crv a1 n1 c1 a2 n2 c2 a3 n3 c3 x, .int .i64 k] w fun e w' => e = .returned (.int .i64 (nxQ sl (k + 2 * n1) n2 + n3 : Nat)) ∧ Below w.heap.size w w' := by
  unfold crv
  have hk1 : k + 2 * n1 ≤ 2000000000000000 := Nat.le_trans (nxQ_le sl (k + 2 * n1) (Nat.zero_le n2)) hk
  obtain ⟨W0, hW0⟩ : ∃ W0, W0 = w.alloc (.cells #[.slice a1 n1 c1, .int .i64 x.num, .int .i64 x.base, .int .i64 x.tm, .int .i64 x.next, .int .i64 x.scope, .bool x.ind, .slice a2 n2 c2, .slice a3 n3 c3] 36) := ⟨_, rfl⟩
  have hB0 : Below w.heap.size w W0 := by rw [hW0]; exact (Below.refl _ _).alloc (Nat.le_refl _) _
  have b0 : W0.heap[w.heap.size]? = some (.cells #[.slice a1 n1 c1, .int .i64 x.num, .int .i64 x.base, .int .i64 x.tm, .int .i64 x.next, .int .i64 x.scope, .bool x.ind, .slice a2 n2 c2, .slice a3 n3 c3] 36 (0, 0)) := by rw [hW0]; exact heap_alloc_new w _
  have hz0 : w.heap.size < W0.heap.size := (Array.getElem?_eq_some_iff.1 b0).1
  have HW : Hid (_ = _) := hW0
  have O0 := h.below hB0
  have M1 := heldName_q B a1 n1 c1 k W0 O0.nm hn1 h0 (by omega)
  have x0 : W0.cell? ⟨w.heap.size, 0, none⟩ = some (.slice a1 n1 c1) := (cell_of_row _ _ 0 _ _ (0, 0) b0).trans rfl
  have x7 : W0.cell? ⟨w.heap.size, 7, none⟩ = some (.slice a2 n2 c2) := (cell_of_row _ _ 7 _ _ (0, 0) b0).trans rfl
  have x8 : W0.cell? ⟨w.heap.size, 8, none⟩ = some (.slice a3 n3 c3) := (cell_of_row _ _ 8 _ _ (0, 0) b0).trans rfl
  obtain ⟨p, hp⟩ : ∃ p, p = k + 2 * n1 := ⟨_, rfl⟩
  rw [← hp] at M1 hk hk1 O0
  rw [← hp]
  have hp0 : 0 < p := by omega
  have HO0 : Hid (OwnC B W0 a1 n1 c1 a2 n2 c2 a3 n3 c3 (mkPs k n1) sl (mkP sl p pv n2) (mkV sl p vs n2) (marks (nxQ sl p n2) n3)) := O0
  have M2 : Hid (∀ W, Below W0.heap.size W0 W → Calls Tryd.prog 54 #[.slice a2 n2 c2, .int .i64 p] W fun e w' => e = .returned (.int .i64 (nxQ sl p n2 : Nat)) ∧ Below W.heap.size W w') := fun W hW => heldGoneS_any B a2 n2 c2 p sl pv vs W (HO0.out.below hW).en hn2 hs hp0 hk
  obtain ⟨q, hq⟩ : ∃ q, q = nxQ sl p n2 := ⟨_, rfl⟩
  rw [← hq] at M2 HO0 hk
  rw [← hq]
  have hpn : ¬ ((p : Int) < 0) := by omega
  have hqn : ¬ ((q : Int) < 0) := by omega
  have hqm : ¬ (((q + n3 : Nat) : Int) < 0) := by omega
  have M3 : Hid (∀ W, Below W0.heap.size W0 W → Calls Tryd.prog 55 #[.slice a3 n3 c3, .int .i64 q] W fun e w' => e = .returned (.int .i64 (q + n3 : Nat)) ∧ w' = W) := fun W hW => heldByteS_big a3 n3 c3 q W (HO0.out.below hW).sg.toRow (by omega) (by omega)
  obtain ⟨r, hr⟩ : ∃ r, r = q + n3 := ⟨_, rfl⟩
  rw [← hr] at M3 hqm
  rw [← hr]
  clear hW0 h O0 hp hq hr b0 HO0 hs
  go_enter Tryd.func15, Tryd.ntmps15
  go_upto_region 1 with fail
  rw [← HW.out]
  clear HW
  go_wp2_with fail
  refine M1.mono ?_
  rintro e w1 ⟨rfl, hb1⟩
  have y7 := (hb1.cell (p := ⟨w.heap.size, 7, none⟩) hz0).trans x7
  have y8 := (hb1.cell (p := ⟨w.heap.size, 8, none⟩) hz0).trans x8
  have hz1 : w.heap.size < w1.heap.size := Nat.lt_of_lt_of_le hz0 hb1.size
  have HB1 : Hid (Below W0.heap.size W0 w1) := hb1
  clear M1 x0 x7 x8 hb1
  go_wp2_with fail
  refine (M2.out _ HB1.out).mono ?_
  rintro e w2 ⟨rfl, hb2⟩
  have z8 := (hb2.cell (p := ⟨w.heap.size, 8, none⟩) hz1).trans y8
  have HB2 : Hid (Below W0.heap.size W0 w2) := HB1.out.trans (hb2.mono HB1.out.size)
  clear M2 y7 y8 hb2
  go_wp2_with fail
  refine (M3.out _ HB2.out).mono ?_
  rintro e w3 ⟨rfl, hw3⟩
  have hw3' := hw3.symm
  subst hw3'
  have HB3 : Hid (Below w.heap.size w w2) := hB0.trans (HB2.out.mono hB0.size)
  clear M3 z8
  go_wp2
  go_ret
  exact ⟨rfl, HB3.out⟩

end Go.Proofs.YtbfjkmlmnhphoaaDoor
