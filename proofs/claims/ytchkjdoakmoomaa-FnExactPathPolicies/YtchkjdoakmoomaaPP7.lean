import Derived.Test.YtchkjdoakmoomaaPL2
import Derived.Test.YtchkjdoakmoomaaTouch
namespace Go.Proofs.Ytchkjdoakmoomaa
open Go.RowKit

/-- No block of cells has changed its kind or its size. -/
def Shp (w w' : World) : Prop := w.heap.size ≤ w'.heap.size ∧ ∀ (b : Nat) (cur : Array Value) (t : Nat), w.heap[b]? = some (.cells cur t (0, 0)) → ∃ cur', w'.heap[b]? = some (.cells cur' t (0, 0)) ∧ cur'.size = cur.size
theorem Shp.refl (w : World) : Shp w w := ⟨Nat.le_refl _, fun _ cur _ h => ⟨cur, h, rfl⟩⟩
theorem Shp.trans {a b c : World} (h : Shp a b) (k : Shp b c) : Shp a c := ⟨Nat.le_trans h.1 k.1, fun x cur t hc => by
  obtain ⟨c1, h1, s1⟩ := h.2 x cur t hc
  obtain ⟨c2, h2, s2⟩ := k.2 x c1 t h1
  exact ⟨c2, h2, s2.trans s1⟩⟩
theorem Shp.below {w w' : World} (h : Below w.heap.size w w') : Shp w w' := ⟨h.size, fun b cur _ hc => ⟨cur, (h.block b (Array.getElem?_eq_some_iff.1 hc).1).trans hc, rfl⟩⟩
theorem Shp.set (w : World) (g j : Nat) (v : Value) : Shp w (w.setCell ⟨g, j, none⟩ v) := ⟨by simp, fun b cur t hc => by
  by_cases e : b = g
  · subst e
    exact ⟨_, heap_setCell_same w b j cur t v hc, by simp⟩
  · exact ⟨cur, (heap_setCell_other w ⟨g, j, none⟩ b v (by simpa using e)).trans hc, rfl⟩⟩
/-- A row of n times s cells between lo and hi. -/
def SR (lo hi : Nat) (w : World) (e s : Nat) (a : Option Addr) (n : Nat) : Prop := n = 0 ∨ ∃ g cur, a = some ⟨g, 0, none⟩ ∧ lo ≤ g ∧ g < hi ∧ w.heap[g]? = some (.cells cur e (0, 0)) ∧ n * s ≤ cur.size
theorem SR.shp {lo hi : Nat} {w w' : World} {e s : Nat} {a : Option Addr} {n : Nat} (h : SR lo hi w e s a n) (k : Shp w w') : SR lo hi w' e s a n := by
  rcases h with h | ⟨g, cur, h1, h2, h3, h4, h5⟩
  · exact .inl h
  · obtain ⟨c1, h6, h7⟩ := k.2 g cur e h4
    exact .inr ⟨g, c1, h1, h2, h3, h6, by omega⟩
theorem sr_owns {lo hi : Nat} {w : World} {e s n c : Nat} {a : Option Addr} {vs : List Value} (h : w.ownsRow lo e s (.slice a n c) n vs) (hl : ∀ x, a = some x → x.block < hi) : SR lo hi w e s a n := by
  rcases h.2 with ⟨_, h0⟩ | ⟨g, cap, cur, hv, hb, hg, h1, h2, h3, h4⟩
  · exact .inl h0
  · simp only [Value.slice.injEq, true_and] at hv
    obtain ⟨rfl, rfl⟩ := hv
    exact .inr ⟨g, cur, rfl, hb, hl _ rfl, hg, by rw [h3]; exact Nat.mul_le_mul_right _ h1⟩
theorem SR.at_ {lo hi : Nat} {w : World} {e s : Nat} {a : Option Addr} {n : Nat} (h : SR lo hi w e s a n) (hn : n ≠ 0) : ∃ g, a = some ⟨g, 0, none⟩ ∧ lo ≤ g ∧ g < hi ∧ g < w.heap.size ∧ ∀ j, j < n * s → (∃ y, w.cell? ⟨g, j, none⟩ = some y) ∧ w.frozen? ⟨g, j, none⟩ = false := by
  rcases h with h | ⟨g, cur, h1, h2, h3, h4, h5⟩
  · exact absurd h hn
  · refine ⟨g, h1, h2, h3, (Array.getElem?_eq_some_iff.1 h4).1, fun j hj => ⟨⟨cur[j]'(by omega), ?_⟩, frozen_of_row w g j _ _ h4⟩⟩
    rw [cell_of_row _ _ _ _ _ _ h4]
    simp [show j < cur.size by omega]
theorem touch_set7 {lo hi : Nat} (w : World) (g j : Nat) (u : Value) (h1 : lo ≤ g) (h2 : g < hi) : Touch lo hi w (w.setCell ⟨g, j, none⟩ u) := ⟨rfl, rfl, rfl, by simp, fun i _ hi' => heap_setCell_other w ⟨g, j, none⟩ i u (by simp; omega)⟩
def MkR (lo hi : Nat) (w : World) (k : Nat) (e : Ending) (w' : World) : Prop := e = .returned (.int .i64 (k : Int)) ∧ Touch lo hi w w' ∧ Shp w w'

set_option maxHeartbeats 1000000 in
theorem markI_any (lo hi : Nat) (a : Option Addr) (n cap k : Nat) (w : World) (h : SR lo hi w 2 1 a n) (hn : n ≤ 1000000000) (hk : k ≤ 1000000000000000) :
    Calls Try.prog 26 #[.slice a n cap, .int .i64 k] w (MkR lo hi w (k + n)) := by
  have H0 : Hid (SR lo hi w 2 1 a n) := h
  clear h
  go_enter Try.func26, Try.ntmps26
  go_wp2
  go_loopw [1, 5] (fun kk i wr => ∃ j K : Nat, j ≤ n ∧ K = k + j ∧ i = .int .i64 j ∧ kk = .int .i64 K ∧ Hid (Touch lo hi w wr) ∧ Hid (Shp w wr)) (fun _ i _ => n - (intOf i).toNat)
  case atStart => exact ⟨0, k, Nat.zero_le _, rfl, rfl, rfl, Touch.of_below (Below.refl _ _), Shp.refl _⟩
  case round =>
    obtain ⟨j, K, hj, hK, rfl, rfl, HT, HS⟩ := hrel
    by_cases hlt : j < n
    · obtain ⟨g, rfl, hg1, hg2, hg3, hc⟩ := (H0.out.shp HS.out).at_ (by omega)
      obtain ⟨⟨y, hy⟩, hf⟩ := hc j (by omega)
      have hlti : (j : Int) < (n : Int) := by omega
      have hKb : K ≤ 1000001000000000 := by omega
      have HTN : Hid (Touch lo hi w (wr.setCell ⟨g, j, none⟩ (.int .i64 (K : Int)))) := HT.out.trans (touch_set7 _ _ _ _ hg1 hg2)
      have HSN : Hid (Shp w (wr.setCell ⟨g, j, none⟩ (.int .i64 (K : Int)))) := HS.out.trans (Shp.set _ _ _ _)
      have HKK : Hid (K = k + j) := hK
      clear hc hK HT HS
      go_wp2
      go_roundw
      case rel => exact ⟨j + 1, K + 1, by omega, by have := HKK.out; omega, by go_num, by go_num, HTN, HSN⟩
      case measure => simp [intOf]; omega
    · obtain rfl : j = n := by omega
      have hge : ¬ ((j : Int) < (j : Int)) := by omega
      have HKK : Hid (K = k + j) := hK
      clear hK
      go_wp2
      go_ret
      exact ⟨by rw [← HKK.out]; rfl, HT.out, HS.out⟩

set_option maxHeartbeats 1000000 in
theorem markPm_any (lo hi : Nat) (a : Option Addr) (n cap k : Nat) (w : World) (h : SR lo hi w 43 2 a n) (hn : n ≤ 1000000000) (hk : k ≤ 1000000000000000) :
    Calls Try.prog 50 #[.slice a n cap, .int .i64 k] w (MkR lo hi w (k + 2 * n)) := by
  have H0 : Hid (SR lo hi w 43 2 a n) := h
  clear h
  go_enter Try.func50, Try.ntmps50
  go_wp2
  go_loopw [1, 5] (fun kk i wr => ∃ j K : Nat, j ≤ n ∧ K = k + 2 * j ∧ i = .int .i64 j ∧ kk = .int .i64 K ∧ Hid (Touch lo hi w wr) ∧ Hid (Shp w wr)) (fun _ i _ => n - (intOf i).toNat)
  case atStart => exact ⟨0, k, Nat.zero_le _, rfl, rfl, rfl, Touch.of_below (Below.refl _ _), Shp.refl _⟩
  case round =>
    obtain ⟨j, K, hj, hK, rfl, rfl, HT, HS⟩ := hrel
    by_cases hlt : j < n
    · obtain ⟨g, rfl, hg1, hg2, hg3, hc⟩ := (H0.out.shp HS.out).at_ (by omega)
      obtain ⟨⟨y, hy⟩, hf⟩ := hc (j * 2) (by omega)
      have hlti : (j : Int) < (n : Int) := by omega
      have hKb : K ≤ 1000002000000000 := by omega
      obtain ⟨w1, hw1⟩ : ∃ w1, w1 = wr.setCell ⟨g, j * 2, none⟩ (.int .i64 (K : Int)) := ⟨_, rfl⟩
      have HT1 : Hid (Touch lo hi w w1) := by show Touch _ _ _ _; rw [hw1]; exact HT.out.trans (touch_set7 _ _ _ _ hg1 hg2)
      have HS1 : Hid (Shp w w1) := by show Shp _ _; rw [hw1]; exact HS.out.trans (Shp.set _ _ _ _)
      have HW1 : Hid (_ = _) := hw1
      have HKK : Hid (K = k + 2 * j) := hK
      clear hc hK HT HS hw1
      go_upto_region 5 with fail
      rw [← HW1.out]
      clear HW1 hy hf hg3
      obtain ⟨g', eg, -, -, hg3, hc⟩ := (H0.out.shp HS1.out).at_ (by omega)
      simp only [Option.some.injEq, Addr.mk.injEq, and_true] at eg
      subst eg
      obtain ⟨⟨y, hy⟩, hf⟩ := hc (j * 2 + 1) (by omega)
      have HTN : Hid (Touch lo hi w (w1.setCell ⟨g, j * 2 + 1, none⟩ (.int .i64 ((K : Int) + 1)))) := HT1.out.trans (touch_set7 _ _ _ _ hg1 hg2)
      have HSN : Hid (Shp w (w1.setCell ⟨g, j * 2 + 1, none⟩ (.int .i64 ((K : Int) + 1)))) := HS1.out.trans (Shp.set _ _ _ _)
      clear hc HT1 HS1
      go_wp2
      go_roundw
      case rel => exact ⟨j + 1, K + 1 + 1, by omega, by have := HKK.out; omega, by go_num, by go_num, HTN, HSN⟩
      case measure => simp [intOf]; omega
    · obtain rfl : j = n := by omega
      have hge : ¬ ((j : Int) < (j : Int)) := by omega
      have HKK : Hid (K = k + 2 * j) := hK
      clear hK
      go_wp2
      go_ret
      exact ⟨by rw [← HKK.out]; rfl, HT.out, HS.out⟩

/-- Copies that may be marked: their blocks lie from g up to top. -/
structure PcM (w : World) (g top n : Nat) : Prop where
  own : SR g top w 41 6 (some ⟨g, 0, none⟩) n
  each : ∀ j, j < n → ∃ p1 n1 p2 n2, w.cell? ⟨g, j * 6, none⟩ = some (.slice p1 n1 n1) ∧ w.cell? ⟨g, j * 6 + 1, none⟩ = some (.slice p2 n2 n2) ∧ n1 ≤ 1048576 ∧ n2 ≤ 1048576 ∧ SR (g + 1) top w 2 1 p1 n1 ∧ SR (g + 1) top w 43 2 p2 n2
theorem SR.mono {lo hi hi' : Nat} {w : World} {e s : Nat} {a : Option Addr} {n : Nat} (h : SR lo hi w e s a n) (hh : hi ≤ hi') : SR lo hi' w e s a n := by
  rcases h with h | ⟨g, cur, h1, h2, h3, h4, h5⟩
  · exact .inl h
  · exact .inr ⟨g, cur, h1, h2, by omega, h4, h5⟩
theorem pcM_of {w : World} {g n : Nat} {xs : List PC} (hp : PcPre w g n xs) (ho : ∃ vs, w.ownsRow g 41 6 (.slice (some ⟨g, 0, none⟩) n n) n vs) (hg : g < w.heap.size) (hz : ∀ k, k < n → PcOk (xs.getD k default)) : PcM w g w.heap.size n := by
  obtain ⟨vs, ho⟩ := ho
  refine ⟨sr_owns ho (fun x hx => by cases hx; exact hg), fun j hj => ?_⟩
  obtain ⟨p1, n1, p2, n2, hi, h1, h2, h3, h4, h5⟩ := hp j hj
  have l2 := h3.len
  have z2 := (hz j hj).2
  exact ⟨p1, n1, p2, n2, h1.c0, h1.c1, h5, by omega, (sr_owns h2.row h2.lt).mono h4, (sr_owns h3.row h3.lt).mono h4⟩
theorem PcM.below {w w' : World} {g top n : Nat} (h : PcM w g top n) (hb : Below w.heap.size w w') : PcM w' g top n := by
  refine ⟨h.own.shp (Shp.below hb), fun j hj => ?_⟩
  obtain ⟨p1, n1, p2, n2, h1, h2, h3, h4, h5, h6⟩ := h.each j hj
  exact ⟨p1, n1, p2, n2, (hb.cell (p := ⟨g, j * 6, none⟩) (World.block_lt_of_cell? _ _ h1)).trans h1, (hb.cell (p := ⟨g, j * 6 + 1, none⟩) (World.block_lt_of_cell? _ _ h2)).trans h2, h3, h4, h5.shp (Shp.below hb), h6.shp (Shp.below hb)⟩
/-- So far is marked. -/
structure MkS (w W : World) (g top n : Nat) : Prop where
  t : Touch g top w W
  s : Shp w W
  c : ∀ j, j < n → W.cell? ⟨g, j * 6, none⟩ = w.cell? ⟨g, j * 6, none⟩ ∧ W.cell? ⟨g, j * 6 + 1, none⟩ = w.cell? ⟨g, j * 6 + 1, none⟩
theorem MkS.mark {w W W' : World} {g top n : Nat} (h : MkS w W g top n) (hg : g < w.heap.size) (ht : Touch (g + 1) top W W') (hs : Shp W W') : MkS w W' g top n := by
  have e : W'.heap[g]? = W.heap[g]? := ht.block g (Nat.lt_of_lt_of_le hg h.t.size) (by omega)
  exact ⟨h.t.trans (ht.mono (by omega) (Nat.le_refl _)), h.s.trans hs, fun j hj => ⟨(World.cell?_of_block (a := ⟨g, j * 6, none⟩) e).trans (h.c j hj).1, (World.cell?_of_block (a := ⟨g, j * 6 + 1, none⟩) e).trans (h.c j hj).2⟩⟩
theorem cell_set_ne {w : World} {g i j t : Nat} {cur : Array Value} (v : Value) (h : w.heap[g]? = some (.cells cur t (0, 0))) (hne : i ≠ j) : (w.setCell ⟨g, i, none⟩ v).cell? ⟨g, j, none⟩ = w.cell? ⟨g, j, none⟩ := by
  rw [cell_of_row _ _ _ _ _ _ (heap_setCell_same w g i cur t v h), cell_of_row _ _ _ _ _ _ h, Array.getElem?_setIfInBounds, if_neg hne]
theorem MkS.set {w W : World} {g top n : Nat} (h : MkS w W g top n) (hg : g < top) (ho : SR g top w 41 6 (some ⟨g, 0, none⟩) n) (i x : Nat) (hx : 2 ≤ x) (hx6 : x < 6) (v : Value) : MkS w (W.setCell ⟨g, i * 6 + x, none⟩ v) g top n := by
  refine ⟨h.t.trans (touch_set7 _ _ _ _ (Nat.le_refl _) hg), h.s.trans (Shp.set _ _ _ _), fun j hj => ?_⟩
  rcases ho.shp h.s with h0 | ⟨g', cur, e, _, _, hc, _⟩
  · omega
  · cases e
    exact ⟨(cell_set_ne v hc (by omega)).trans (h.c j hj).1, (cell_set_ne v hc (by omega)).trans (h.c j hj).2⟩

set_option maxRecDepth 10000 in
set_option maxHeartbeats 2000000 in
theorem markPcs_any (g top n k : Nat) (w : World) (h : PcM w g top n) (hg : g < w.heap.size) (hgt : g < top) (hn : n ≤ 1048576) (hk : k ≤ 1000) :
    Calls Try.prog 25 #[.slice (some ⟨g, 0, none⟩) n n, .int .i64 k] w fun e w' => (∃ K : Nat, K ≤ 10000000000000 ∧ e = .returned (.int .i64 (K : Int))) ∧ Touch g top w w' := by
  have H0 : Hid (PcM w g top n) := h
  clear h
  go_enter Try.func25, Try.ntmps25
  go_wp2
  go_loopw [1, 5] (fun kk i wr => ∃ j K : Nat, j ≤ n ∧ K ≤ 1000 + 4000000 * j ∧ i = .int .i64 j ∧ kk = .int .i64 K ∧ Hid (MkS w wr g top n)) (fun _ i _ => n - (intOf i).toNat)
  case atStart => exact ⟨0, k, Nat.zero_le _, hk, rfl, rfl, ⟨Touch.of_below (Below.refl _ _), Shp.refl _, fun _ _ => ⟨rfl, rfl⟩⟩⟩
  case round =>
    obtain ⟨j, K, hj, hK, rfl, rfl, HS⟩ := hrel
    by_cases hlt : j < n
    · obtain ⟨p1, n1, p2, n2, h1, h2, h3, h4, h5, h6⟩ := H0.out.each j hlt
      have H5 : Hid (SR (g + 1) top w 2 1 p1 n1) := h5
      have H6 : Hid (SR (g + 1) top w 43 2 p2 n2) := h6
      have HC : Hid (∀ W, MkS w W g top n → W.cell? ⟨g, j * 6, none⟩ = some (.slice p1 n1 n1) ∧ W.cell? ⟨g, j * 6 + 1, none⟩ = some (.slice p2 n2 n2) ∧ g < W.heap.size ∧ (∃ y2, W.cell? ⟨g, j * 6 + 2, none⟩ = some y2) ∧ (∃ y3, W.cell? ⟨g, j * 6 + 3, none⟩ = some y3) ∧ (∃ y4, W.cell? ⟨g, j * 6 + 4, none⟩ = some y4) ∧ (∃ y5, W.cell? ⟨g, j * 6 + 5, none⟩ = some y5) ∧ ∀ x, x < 6 → W.frozen? ⟨g, j * 6 + x, none⟩ = false) := fun W m => by
        obtain ⟨g', eg, _, _, l, hc⟩ := (H0.out.own.shp m.s).at_ (by omega)
        cases eg
        exact ⟨(m.c j hlt).1.trans h1, (m.c j hlt).2.trans h2, l, (hc _ (by omega)).1, (hc _ (by omega)).1, (hc _ (by omega)).1, (hc _ (by omega)).1, fun x hx => (hc _ (by omega)).2⟩
      clear h1 h2 h5 h6
      obtain ⟨c0, c1, lg, -⟩ := HC.out _ HS.out
      have hlti : (j : Int) < (n : Int) := by omega
      go_wp2_with fail
      refine (markI_any (g + 1) top p1 n1 n1 K _ (H5.out.shp HS.out.s) (by omega) (by omega)).mono ?_
      rintro e w1 ⟨rfl, ht1, hs1⟩
      have HS1 : Hid (MkS w w1 g top n) := HS.out.mark hg ht1 hs1
      clear c0 c1 lg ht1 hs1 HS
      obtain ⟨c0, c1, lg, -⟩ := HC.out _ HS1.out
      go_wp2_with fail
      refine (markPm_any (g + 1) top p2 n2 n2 (K + n1) _ (H6.out.shp HS1.out.s) (by omega) (by omega)).mono ?_
      rintro e w2 ⟨rfl, ht2, hs2⟩
      have HS2 : Hid (MkS w w2 g top n) := HS1.out.mark hg ht2 hs2
      obtain ⟨M, hM⟩ : ∃ M : Nat, M = K + n1 + 2 * n2 := ⟨_, rfl⟩
      rw [← hM]
      have hMb : M ≤ 1000 + 4000000 * j + 3145728 := by omega
      clear c0 c1 lg ht2 hs2 HS1 hM
      obtain ⟨c0, c1, lg, ⟨y2, z2⟩, -, -, -, hf⟩ := HC.out _ HS2.out
      have f2 := hf 2 (by decide)
      clear hf
      go_upto_region 7 with fail
      have HS2P := HS2
      clear HS2
      obtain ⟨v2, hv2⟩ : ∃ v2, v2 = w2.setCell ⟨g, j * 6 + 2, none⟩ (.bool ((M : Int) % 3 == 0)) := ⟨_, rfl⟩
      have HS2N : Hid (MkS w v2 g top n) := by show MkS _ _ _ _ _; rw [hv2]; exact HS2P.out.set hgt H0.out.own j 2 (by decide) (by decide) _
      rw [← hv2]
      clear hv2 c0 c1 lg HS2P z2 f2
      obtain ⟨c0, c1, lg, -, ⟨y3, z3⟩, -, -, hf⟩ := HC.out _ HS2N.out
      have f3 := hf 3 (by decide)
      have HS3P := HS2N
      clear hf
      clear HS2N
      go_upto_region 9 with fail
      obtain ⟨v3, hv3⟩ : ∃ v3, v3 = v2.setCell ⟨g, j * 6 + 3, none⟩ (.int .i64 ((M : Int) + 1)) := ⟨_, rfl⟩
      have HS3N : Hid (MkS w v3 g top n) := by show MkS _ _ _ _ _; rw [hv3]; exact HS3P.out.set hgt H0.out.own j 3 (by decide) (by decide) _
      rw [← hv3]
      clear hv3 c0 c1 lg HS3P z3 f3
      obtain ⟨c0, c1, lg, -, -, ⟨y4, z4⟩, -, hf⟩ := HC.out _ HS3N.out
      have f4 := hf 4 (by decide)
      have HS4P := HS3N
      clear hf
      clear HS3N
      go_upto_region 11 with fail
      obtain ⟨v4, hv4⟩ : ∃ v4, v4 = v3.setCell ⟨g, j * 6 + 4, none⟩ (.int .i64 ((M : Int) + 1 + 1)) := ⟨_, rfl⟩
      have HS4N : Hid (MkS w v4 g top n) := by show MkS _ _ _ _ _; rw [hv4]; exact HS4P.out.set hgt H0.out.own j 4 (by decide) (by decide) _
      rw [← hv4]
      clear hv4 c0 c1 lg HS4P z4 f4
      obtain ⟨c0, c1, lg, -, -, -, ⟨y5, z5⟩, hf⟩ := HC.out _ HS4N.out
      have f5 := hf 5 (by decide)
      have HS5P := HS4N
      clear hf
      clear HS4N
      go_upto_region 13 with fail
      obtain ⟨v5, hv5⟩ : ∃ v5, v5 = v4.setCell ⟨g, j * 6 + 5, none⟩ (.int .i64 ((M : Int) + 1 + 1 + 1)) := ⟨_, rfl⟩
      have HS5N : Hid (MkS w v5 g top n) := by show MkS _ _ _ _ _; rw [hv5]; exact HS5P.out.set hgt H0.out.own j 5 (by decide) (by decide) _
      rw [← hv5]
      clear hv5 c0 c1 lg HS5P z5 f5
      go_wp2
      go_roundw
      case rel => exact ⟨j + 1, M + 1 + 1 + 1 + 1, by omega, by omega, by go_num, by go_num, HS5N⟩
      case measure => simp [intOf]; omega
    · obtain rfl : j = n := by omega
      have hge : ¬ ((j : Int) < (j : Int)) := by omega
      go_wp2
      go_ret
      exact ⟨⟨K, by omega, rfl⟩, HS.out.t⟩

end Go.Proofs.Ytchkjdoakmoomaa
