import Derived.Test.YtglpbgebcpijaaaGreatTF1
import Derived.Test.YtglpbgebcpijaaaGreatTouch
set_option linter.unusedVariables false
namespace Go.Proofs.YtglpbgebcpijaaaGreat
open Go.RowKit

def isI (v : Value) : Prop := ∃ k m, v = .int k m
def KV (v v' : Value) : Prop := v' = v ∨ (isI v ∧ isI v')
theorem KV.trans {a b c : Value} (h : KV a b) (k : KV b c) : KV a c := by
  rcases h with rfl | ⟨h1, h2⟩
  · exact k
  · rcases k with rfl | ⟨k1, k2⟩
    · exact .inr ⟨h1, h2⟩
    · exact .inr ⟨h1, k2⟩
/-- No block of cells has changed its kind, its size, nor any cell that is no integer. -/
def Sh (w w' : World) : Prop := w.heap.size ≤ w'.heap.size ∧ ∀ (b : Nat) (cur : Array Value) (t : Nat), w.heap[b]? = some (.cells cur t (0, 0)) → ∃ cur', w'.heap[b]? = some (.cells cur' t (0, 0)) ∧ ∀ (j : Nat) (v : Value), cur[j]? = some v → ∃ v', cur'[j]? = some v' ∧ KV v v'
theorem Sh.refl (w : World) : Sh w w := ⟨Nat.le_refl _, fun _ cur _ h => ⟨cur, h, fun j v hv => ⟨v, hv, .inl rfl⟩⟩⟩
theorem Sh.trans {a b c : World} (h : Sh a b) (k : Sh b c) : Sh a c := ⟨Nat.le_trans h.1 k.1, fun x cur t hc => by
  obtain ⟨c1, h1, s1⟩ := h.2 x cur t hc
  obtain ⟨c2, h2, s2⟩ := k.2 x c1 t h1
  refine ⟨c2, h2, fun j v hv => ?_⟩
  obtain ⟨v1, q1, r1⟩ := s1 j v hv
  obtain ⟨v2, q2, r2⟩ := s2 j v1 q1
  exact ⟨v2, q2, r1.trans r2⟩⟩
theorem Sh.below {w w' : World} (h : Below w.heap.size w w') : Sh w w' := ⟨h.size, fun b cur _ hc => ⟨cur, (h.block b (Array.getElem?_eq_some_iff.1 hc).1).trans hc, fun j v hv => ⟨v, hv, .inl rfl⟩⟩⟩
theorem Sh.set {w : World} {g j t : Nat} {cur : Array Value} {v : Value} (hb : w.heap[g]? = some (.cells cur t (0, 0))) (hv : cur[j]? = some v) (hi : isI v) (k : IntKind) (m : Int) : Sh w (w.setCell ⟨g, j, none⟩ (.int k m)) := ⟨by simp, fun b c t' hc => by
  by_cases e : b = g
  · subst e
    have e2 := hb.symm.trans hc
    simp only [Option.some.injEq, Obj.cells.injEq, and_true] at e2
    obtain ⟨rfl, rfl⟩ := e2
    refine ⟨_, heap_setCell_same w b j cur t _ hb, fun i x hx => ?_⟩
    by_cases ei : j = i
    · subst ei
      have e3 : x = v := by rw [hv] at hx; injection hx with hx; exact hx.symm
      subst e3
      exact ⟨.int k m, by rw [Array.getElem?_setIfInBounds, if_pos rfl, if_pos (Array.getElem?_eq_some_iff.1 hv).1], .inr ⟨hi, k, m, rfl⟩⟩
    · exact ⟨x, by rw [Array.getElem?_setIfInBounds, if_neg ei]; exact hx, .inl rfl⟩
  · exact ⟨c, (heap_setCell_other w ⟨g, j, none⟩ b _ (by simpa using e)).trans hc, fun i x hx => ⟨x, hx, .inl rfl⟩⟩⟩
/-- A row of n times s integers between lo and hi. -/
def IR (s lo hi : Nat) (w : World) (a : Option Addr) (n : Nat) : Prop := n = 0 ∨ ∃ g cur t, a = some ⟨g, 0, none⟩ ∧ lo ≤ g ∧ g < hi ∧ w.heap[g]? = some (.cells cur t (0, 0)) ∧ ∀ j, j < n * s → ∃ v, cur[j]? = some v ∧ isI v
theorem KV.i {v v' : Value} (h : KV v v') (hi : isI v) : isI v' := by
  rcases h with rfl | h
  · exact hi
  · exact h.2
theorem KV.sl {v' : Value} {q : Option Addr} {m c : Nat} (h : KV (.slice q m c) v') : v' = .slice q m c := by
  rcases h with rfl | ⟨⟨k, m, h⟩, _⟩
  · rfl
  · cases h
theorem IR.sh {s lo hi : Nat} {w w' : World} {a : Option Addr} {n : Nat} (h : IR s lo hi w a n) (k : Sh w w') : IR s lo hi w' a n := by
  rcases h with h | ⟨g, cur, t, h1, h2, h3, h4, h5⟩
  · exact .inl h
  · obtain ⟨c1, h6, h7⟩ := k.2 g cur t h4
    refine .inr ⟨g, c1, t, h1, h2, h3, h6, fun j hj => ?_⟩
    obtain ⟨v, e, hv⟩ := h5 j hj
    obtain ⟨v', e', hk⟩ := h7 j v e
    exact ⟨v', e', hk.i hv⟩
theorem IR.mono {s lo hi lo' hi' : Nat} {w : World} {a : Option Addr} {n : Nat} (h : IR s lo hi w a n) (h0 : lo' ≤ lo) (hh : hi ≤ hi') : IR s lo' hi' w a n := by
  rcases h with h | ⟨g, cur, t, h1, h2, h3, h4⟩
  · exact .inl h
  · exact .inr ⟨g, cur, t, h1, by omega, by omega, h4⟩
theorem IR.at_ {s lo hi : Nat} {w : World} {a : Option Addr} {n : Nat} (h : IR s lo hi w a n) (hn : n ≠ 0) : ∃ g, a = some ⟨g, 0, none⟩ ∧ lo ≤ g ∧ g < hi ∧ g < w.heap.size ∧ ∀ j, j < n * s → (∃ y, w.cell? ⟨g, j, none⟩ = some y) ∧ w.frozen? ⟨g, j, none⟩ = false := by
  rcases h with h | ⟨g, cur, t, h1, h2, h3, h4, h5⟩
  · exact absurd h hn
  · refine ⟨g, h1, h2, h3, (Array.getElem?_eq_some_iff.1 h4).1, fun j hj => ⟨?_, frozen_of_row w g j _ _ h4⟩⟩
    obtain ⟨v, e, _⟩ := h5 j hj
    exact ⟨v, (cell_of_row _ _ _ _ _ _ h4).trans e⟩
theorem IR.set {s lo hi : Nat} {w : World} {g n : Nat} (h : IR s lo hi w (some ⟨g, 0, none⟩) n) (hn : n ≠ 0) (j : Nat) (hj : j < n * s) (k : IntKind) (m : Int) : Sh w (w.setCell ⟨g, j, none⟩ (.int k m)) := by
  rcases h with h | ⟨g', cur, t, h1, h2, h3, h4, h5⟩
  · exact absurd h hn
  · cases h1
    obtain ⟨v, e, hv⟩ := h5 j hj
    exact Sh.set h4 e hv k m
theorem ir_owns {w : World} {lo e s n c : Nat} {a : Option Addr} {vs : List Value} (h : w.ownsRow lo e s (.slice a n c) n vs) (hv : ∀ v ∈ vs, isI v) : IR s lo w.heap.size w a n := by
  have hl : vs.length = n * s := h.1
  rcases h.2 with ⟨_, h0⟩ | ⟨g, cap, cur, hs, hb, hg, h1, h2, h3, h4⟩
  · exact .inl h0
  · simp only [Value.slice.injEq, true_and] at hs
    obtain ⟨rfl, rfl⟩ := hs
    refine .inr ⟨g, cur, e, rfl, hb, (Array.getElem?_eq_some_iff.1 hg).1, hg, fun j hj => ?_⟩
    have q := (cell_of_row _ _ j _ _ _ hg).symm.trans (h.cellAt j hj)
    rw [List.getElem?_eq_getElem (by omega)] at q
    exact ⟨_, q, hv _ (List.getElem_mem _)⟩
/-- A row of pairs: an integer at p, a row of integers at q. -/
def SO (p q s lo hi : Nat) (w : World) (a : Option Addr) (n : Nat) : Prop := n = 0 ∨ ∃ g cur t, a = some ⟨g, 0, none⟩ ∧ lo ≤ g ∧ g < hi ∧ w.heap[g]? = some (.cells cur t (0, 0)) ∧ ∀ j, j < n → (∃ v, cur[j * 2 + p]? = some v ∧ isI v) ∧ ∃ z m c, cur[j * 2 + q]? = some (.slice z m c) ∧ m ≤ 1048576 ∧ IR s lo hi w z m
theorem SO.sh {p q s lo hi : Nat} {w w' : World} {a : Option Addr} {n : Nat} (h : SO p q s lo hi w a n) (k : Sh w w') : SO p q s lo hi w' a n := by
  rcases h with h | ⟨g, cur, t, h1, h2, h3, h4, h5⟩
  · exact .inl h
  · obtain ⟨c1, h6, h7⟩ := k.2 g cur t h4
    refine .inr ⟨g, c1, t, h1, h2, h3, h6, fun j hj => ?_⟩
    obtain ⟨⟨v, e, hv⟩, z, m, c, ez, hm, hr⟩ := h5 j hj
    obtain ⟨v', e', hk⟩ := h7 _ v e
    obtain ⟨z', ez', hz⟩ := h7 _ _ ez
    exact ⟨⟨v', e', hk.i hv⟩, z, m, c, by rw [ez', hz.sl], hm, hr.sh k⟩
theorem SO.mono {p q s lo hi lo' hi' : Nat} {w : World} {a : Option Addr} {n : Nat} (h : SO p q s lo hi w a n) (h0 : lo' ≤ lo) (hh : hi ≤ hi') : SO p q s lo' hi' w a n := by
  rcases h with h | ⟨g, cur, t, h1, h2, h3, h4, h5⟩
  · exact .inl h
  · refine .inr ⟨g, cur, t, h1, by omega, by omega, h4, fun j hj => ?_⟩
    obtain ⟨hv, z, m, c, ez, hm, hr⟩ := h5 j hj
    exact ⟨hv, z, m, c, ez, hm, hr.mono h0 hh⟩
theorem SO.at_ {p q s lo hi : Nat} {w : World} {a : Option Addr} {n : Nat} (h : SO p q s lo hi w a n) (j : Nat) (hj : j < n) : ∃ g z m c y, a = some ⟨g, 0, none⟩ ∧ lo ≤ g ∧ g < hi ∧ g < w.heap.size ∧ w.cell? ⟨g, j * 2 + p, none⟩ = some y ∧ w.frozen? ⟨g, j * 2 + p, none⟩ = false ∧ w.cell? ⟨g, j * 2 + q, none⟩ = some (.slice z m c) ∧ m ≤ 1048576 ∧ IR s lo hi w z m ∧ ∀ k x, Sh w (w.setCell ⟨g, j * 2 + p, none⟩ (.int k x)) := by
  rcases h with h | ⟨g, cur, t, h1, h2, h3, h4, h5⟩
  · omega
  · obtain ⟨⟨v, e, hv⟩, z, m, c, ez, hm, hr⟩ := h5 j hj
    exact ⟨g, z, m, c, v, h1, h2, h3, (Array.getElem?_eq_some_iff.1 h4).1, (cell_of_row _ _ _ _ _ _ h4).trans e, frozen_of_row w g _ _ _ h4, (cell_of_row _ _ _ _ _ _ h4).trans ez, hm, hr, fun k x => Sh.set h4 e hv k x⟩
theorem touch_setF {lo hi : Nat} (w : World) (g j : Nat) (u : Value) (h1 : lo ≤ g) (h2 : g < hi) : Touch lo hi w (w.setCell ⟨g, j, none⟩ u) := ⟨rfl, rfl, rfl, by simp, fun i _ hi' => heap_setCell_other w ⟨g, j, none⟩ i u (by simp; omega)⟩
def MkF (lo hi : Nat) (w : World) (k d : Nat) (e : Ending) (w' : World) : Prop := ∃ K : Nat, K ≤ k + d ∧ e = .returned (.int .i64 (K : Int)) ∧ Touch lo hi w w' ∧ Sh w w'

set_option maxRecDepth 10000 in
set_option maxHeartbeats 2000000 in
theorem markB_ir (lo hi : Nat) (a : Option Addr) (n cap k : Nat) (w : World) (h : IR 1 lo hi w a n) (hn : n ≤ 1048576) (hk : k ≤ 1000000000000000) :
    Calls Tryz.prog 12 #[.slice a n cap, .int .i64 k] w (MkF lo hi w k (1 * n)) := by
  have H0 : Hid (IR 1 lo hi w a n) := h
  clear h
  go_enter Tryz.func12, Tryz.ntmps12
  go_wp2
  go_loopw [1, 5] (fun kk i wr => ∃ j K : Nat, j ≤ n ∧ K = k + 1 * j ∧ i = .int .i64 j ∧ kk = .int .i64 K ∧ Hid (Touch lo hi w wr) ∧ Hid (Sh w wr)) (fun _ i _ => n - (intOf i).toNat)
  case atStart => exact ⟨0, k, Nat.zero_le _, rfl, rfl, rfl, Touch.of_below (Below.refl _ _), Sh.refl _⟩
  case round =>
    obtain ⟨j, K, hj, hK, rfl, rfl, HT, HS⟩ := hrel
    by_cases hlt : j < n
    · obtain ⟨g, rfl, hg1, hg2, hg3, hc⟩ := (H0.out.sh HS.out).at_ (by omega)
      obtain ⟨⟨y0, hy0⟩, hf0⟩ := hc (j) (by omega)
      have hlti : (j : Int) < (n : Int) := by omega
      have hKb : K ≤ 1000000003145728 := by omega
      have HSN : Hid (∀ k0 m0, Sh w (wr.setCell ⟨g, j, none⟩ (.int k0 m0))) := fun k0 m0 => by
        have i0 := H0.out.sh HS.out
        have s0 := i0.set (by omega) (j) (by omega) k0 m0
        have i1 := i0.sh s0
        exact (HS.out.trans s0)
      have HTN : Hid (∀ k0 m0, Touch lo hi w (wr.setCell ⟨g, j, none⟩ (.int k0 m0))) := fun k0 m0 => (HT.out.trans (touch_setF _ g (j) _ hg1 hg2))
      have HKK : Hid (K = k + 1 * j) := hK
      clear hc hK HT HS
      go_wp2
      go_roundw
      case rel => exact ⟨j + 1, K + 1, by omega, by have := HKK.out; omega, by go_num, by go_num, HTN.out _ _, HSN.out _ _⟩
      case measure => simp [intOf]; omega
    · obtain rfl : j = n := by omega
      have hge : ¬ ((j : Int) < (j : Int)) := by omega
      have HKK : Hid (K = k + 1 * j) := hK
      clear hK
      go_wp2
      go_ret
      exact ⟨K, by have := HKK.out; omega, rfl, HT.out, HS.out⟩

set_option maxRecDepth 10000 in
set_option maxHeartbeats 2000000 in
theorem markTe_ir (lo hi : Nat) (a : Option Addr) (n cap k : Nat) (w : World) (h : IR 2 lo hi w a n) (hn : n ≤ 1048576) (hk : k ≤ 1000000000000000) :
    Calls Tryz.prog 74 #[.slice a n cap, .int .i64 k] w (MkF lo hi w k (2 * n)) := by
  have H0 : Hid (IR 2 lo hi w a n) := h
  clear h
  go_enter Tryz.func74, Tryz.ntmps74
  go_wp2
  go_loopw [1, 5] (fun kk i wr => ∃ j K : Nat, j ≤ n ∧ K = k + 2 * j ∧ i = .int .i64 j ∧ kk = .int .i64 K ∧ Hid (Touch lo hi w wr) ∧ Hid (Sh w wr)) (fun _ i _ => n - (intOf i).toNat)
  case atStart => exact ⟨0, k, Nat.zero_le _, rfl, rfl, rfl, Touch.of_below (Below.refl _ _), Sh.refl _⟩
  case round =>
    obtain ⟨j, K, hj, hK, rfl, rfl, HT, HS⟩ := hrel
    by_cases hlt : j < n
    · obtain ⟨g, rfl, hg1, hg2, hg3, hc⟩ := (H0.out.sh HS.out).at_ (by omega)
      obtain ⟨⟨y0, hy0⟩, hf0⟩ := hc (j * 2) (by omega)
      obtain ⟨⟨y1, hy1⟩, hf1⟩ := hc (j * 2 + 1) (by omega)
      have hlti : (j : Int) < (n : Int) := by omega
      have hKb : K ≤ 1000000003145728 := by omega
      have HSN : Hid (∀ k0 m0 k1 m1, Sh w ((wr.setCell ⟨g, j * 2, none⟩ (.int k0 m0)).setCell ⟨g, j * 2 + 1, none⟩ (.int k1 m1))) := fun k0 m0 k1 m1 => by
        have i0 := H0.out.sh HS.out
        have s0 := i0.set (by omega) (j * 2) (by omega) k0 m0
        have i1 := i0.sh s0
        have s1 := i1.set (by omega) (j * 2 + 1) (by omega) k1 m1
        have i2 := i1.sh s1
        exact ((HS.out.trans s0).trans s1)
      have HTN : Hid (∀ k0 m0 k1 m1, Touch lo hi w ((wr.setCell ⟨g, j * 2, none⟩ (.int k0 m0)).setCell ⟨g, j * 2 + 1, none⟩ (.int k1 m1))) := fun k0 m0 k1 m1 => ((HT.out.trans (touch_setF _ g (j * 2) _ hg1 hg2)).trans (touch_setF _ g (j * 2 + 1) _ hg1 hg2))
      have HKK : Hid (K = k + 2 * j) := hK
      clear hc hK HT HS
      go_wp2
      go_roundw
      case rel => exact ⟨j + 1, K + 1 + 1, by omega, by have := HKK.out; omega, by go_num, by go_num, HTN.out _ _ _ _, HSN.out _ _ _ _⟩
      case measure => simp [intOf]; omega
    · obtain rfl : j = n := by omega
      have hge : ¬ ((j : Int) < (j : Int)) := by omega
      have HKK : Hid (K = k + 2 * j) := hK
      clear hK
      go_wp2
      go_ret
      exact ⟨K, by have := HKK.out; omega, rfl, HT.out, HS.out⟩

set_option maxRecDepth 10000 in
set_option maxHeartbeats 2000000 in
theorem markPu_ir (lo hi : Nat) (a : Option Addr) (n cap k : Nat) (w : World) (h : IR 3 lo hi w a n) (hn : n ≤ 1048576) (hk : k ≤ 1000000000000000) :
    Calls Tryz.prog 100 #[.slice a n cap, .int .i64 k] w (MkF lo hi w k (3 * n)) := by
  have H0 : Hid (IR 3 lo hi w a n) := h
  clear h
  go_enter Tryz.func100, Tryz.ntmps100
  go_wp2
  go_loopw [1, 5] (fun kk i wr => ∃ j K : Nat, j ≤ n ∧ K = k + 3 * j ∧ i = .int .i64 j ∧ kk = .int .i64 K ∧ Hid (Touch lo hi w wr) ∧ Hid (Sh w wr)) (fun _ i _ => n - (intOf i).toNat)
  case atStart => exact ⟨0, k, Nat.zero_le _, rfl, rfl, rfl, Touch.of_below (Below.refl _ _), Sh.refl _⟩
  case round =>
    obtain ⟨j, K, hj, hK, rfl, rfl, HT, HS⟩ := hrel
    by_cases hlt : j < n
    · obtain ⟨g, rfl, hg1, hg2, hg3, hc⟩ := (H0.out.sh HS.out).at_ (by omega)
      obtain ⟨⟨y0, hy0⟩, hf0⟩ := hc (j * 3) (by omega)
      obtain ⟨⟨y1, hy1⟩, hf1⟩ := hc (j * 3 + 1) (by omega)
      obtain ⟨⟨y2, hy2⟩, hf2⟩ := hc (j * 3 + 2) (by omega)
      have hlti : (j : Int) < (n : Int) := by omega
      have hKb : K ≤ 1000000003145728 := by omega
      have HSN : Hid (∀ k0 m0 k1 m1 k2 m2, Sh w (((wr.setCell ⟨g, j * 3, none⟩ (.int k0 m0)).setCell ⟨g, j * 3 + 1, none⟩ (.int k1 m1)).setCell ⟨g, j * 3 + 2, none⟩ (.int k2 m2))) := fun k0 m0 k1 m1 k2 m2 => by
        have i0 := H0.out.sh HS.out
        have s0 := i0.set (by omega) (j * 3) (by omega) k0 m0
        have i1 := i0.sh s0
        have s1 := i1.set (by omega) (j * 3 + 1) (by omega) k1 m1
        have i2 := i1.sh s1
        have s2 := i2.set (by omega) (j * 3 + 2) (by omega) k2 m2
        have i3 := i2.sh s2
        exact (((HS.out.trans s0).trans s1).trans s2)
      have HTN : Hid (∀ k0 m0 k1 m1 k2 m2, Touch lo hi w (((wr.setCell ⟨g, j * 3, none⟩ (.int k0 m0)).setCell ⟨g, j * 3 + 1, none⟩ (.int k1 m1)).setCell ⟨g, j * 3 + 2, none⟩ (.int k2 m2))) := fun k0 m0 k1 m1 k2 m2 => (((HT.out.trans (touch_setF _ g (j * 3) _ hg1 hg2)).trans (touch_setF _ g (j * 3 + 1) _ hg1 hg2)).trans (touch_setF _ g (j * 3 + 2) _ hg1 hg2))
      have HKK : Hid (K = k + 3 * j) := hK
      clear hc hK HT HS
      go_wp2
      go_roundw
      case rel => exact ⟨j + 1, K + 1 + 1 + 1, by omega, by have := HKK.out; omega, by go_num, by go_num, HTN.out _ _ _ _ _ _, HSN.out _ _ _ _ _ _⟩
      case measure => simp [intOf]; omega
    · obtain rfl : j = n := by omega
      have hge : ¬ ((j : Int) < (j : Int)) := by omega
      have HKK : Hid (K = k + 3 * j) := hK
      clear hK
      go_wp2
      go_ret
      exact ⟨K, by have := HKK.out; omega, rfl, HT.out, HS.out⟩

set_option maxRecDepth 10000 in
set_option maxHeartbeats 2000000 in
theorem markRo_so (lo hi : Nat) (a : Option Addr) (n cap k : Nat) (w : World) (h : SO 1 0 3 lo hi w a n) (hn : n ≤ 1048576) (hk : k ≤ 100000000000000) :
    Calls Tryz.prog 72 #[.slice a n cap, .int .i64 k] w (MkF lo hi w k (4000000 * n)) := by
  have H0 : Hid (SO 1 0 3 lo hi w a n) := h
  clear h
  go_enter Tryz.func72, Tryz.ntmps72
  go_wp2
  go_loopw [1, 5] (fun kk i wr => ∃ j K : Nat, j ≤ n ∧ K ≤ k + 4000000 * j ∧ i = .int .i64 j ∧ kk = .int .i64 K ∧ Hid (Touch lo hi w wr) ∧ Hid (Sh w wr)) (fun _ i _ => n - (intOf i).toNat)
  case atStart => exact ⟨0, k, Nat.zero_le _, by omega, rfl, rfl, Touch.of_below (Below.refl _ _), Sh.refl _⟩
  case round =>
    obtain ⟨j, K, hj, hK, rfl, rfl, HT, HS⟩ := hrel
    by_cases hlt : j < n
    · obtain ⟨g, z, m, c, y, rfl, hg1, hg2, hg3, hc1, hf1, hc2, hm, hr, -⟩ := (H0.out.sh HS.out).at_ j hlt
      have hlti : (j : Int) < (n : Int) := by omega
      have HR : Hid (IR 3 lo hi wr z m) := hr
      rw [Nat.add_zero] at hc2
      clear hr hc1 hf1
      go_wp2_with fail
      refine (markPu_ir lo hi z m c K _ HR.out hm (by omega)).mono ?_
      rintro e w1 ⟨K1, hK1, rfl, ht1, hs1⟩
      have HT1 : Hid (Touch lo hi w w1) := HT.out.trans ht1
      have HS1 : Hid (Sh w w1) := HS.out.trans hs1
      clear hc2 ht1 hs1 HT HS HR hg3
      obtain ⟨g', z', m', c', y', eg, -, -, hg3, hc1, hf1, hc2, -, -, hset⟩ := (H0.out.sh HS1.out).at_ j hlt
      simp only [Option.some.injEq, Addr.mk.injEq, and_true] at eg
      subst eg
      rw [Nat.add_zero] at hc2
      have HSN : Hid (∀ k x, Sh w (w1.setCell ⟨g, j * 2 + 1, none⟩ (.int k x))) := fun k x => HS1.out.trans (hset k x)
      have HTN : Hid (∀ k x, Touch lo hi w (w1.setCell ⟨g, j * 2 + 1, none⟩ (.int k x))) := fun k x => HT1.out.trans (touch_setF _ g _ _ hg1 hg2)
      have hK2 : K1 ≤ k + 4000000 * j + 3145728 := by omega
      clear hset hK1 hK HT1 HS1
      go_wp2
      go_roundw
      case rel => exact ⟨j + 1, K1 + 1, by omega, by omega, by go_num, by go_num, HTN.out _ _, HSN.out _ _⟩
      case measure => simp [intOf]; omega
    · obtain rfl : j = n := by omega
      have hge : ¬ ((j : Int) < (j : Int)) := by omega
      go_wp2
      go_ret
      exact ⟨K, hK, rfl, HT.out, HS.out⟩

set_option maxRecDepth 10000 in
set_option maxHeartbeats 2000000 in
theorem markFs_so (lo hi : Nat) (a : Option Addr) (n cap k : Nat) (w : World) (h : SO 0 1 1 lo hi w a n) (hn : n ≤ 1048576) (hk : k ≤ 100000000000000) :
    Calls Tryz.prog 73 #[.slice a n cap, .int .i64 k] w (MkF lo hi w k (1048577 * n)) := by
  have H0 : Hid (SO 0 1 1 lo hi w a n) := h
  clear h
  go_enter Tryz.func73, Tryz.ntmps73
  go_wp2
  go_loopw [1, 5] (fun kk i wr => ∃ j K : Nat, j ≤ n ∧ K ≤ k + 1048577 * j ∧ i = .int .i64 j ∧ kk = .int .i64 K ∧ Hid (Touch lo hi w wr) ∧ Hid (Sh w wr)) (fun _ i _ => n - (intOf i).toNat)
  case atStart => exact ⟨0, k, Nat.zero_le _, by omega, rfl, rfl, Touch.of_below (Below.refl _ _), Sh.refl _⟩
  case round =>
    obtain ⟨j, K, hj, hK, rfl, rfl, HT, HS⟩ := hrel
    by_cases hlt : j < n
    · obtain ⟨g, z, m, c, y, rfl, hg1, hg2, hg3, hc1, hf1, hc2, hm, hr, hset⟩ := (H0.out.sh HS.out).at_ j hlt
      have hlti : (j : Int) < (n : Int) := by omega
      rw [Nat.add_zero] at hc1 hf1 hset
      have hKb : K ≤ 104194304000000 := by omega
      obtain ⟨w1, hw1⟩ : ∃ w1, w1 = wr.setCell ⟨g, j * 2, none⟩ (.int .u64 (K : Int)) := ⟨_, rfl⟩
      have HT1 : Hid (Touch lo hi w w1) := by show Touch _ _ _ _; rw [hw1]; exact HT.out.trans (touch_setF _ _ _ _ hg1 hg2)
      have HS1 : Hid (Sh w w1) := by show Sh _ _; rw [hw1]; exact HS.out.trans (hset _ _)
      have HW1 : Hid (_ = _) := hw1
      clear hc2 hr hset hm HT HS hw1
      go_upto_region 5 with fail
      rw [← HW1.out]
      clear HW1 hc1 hf1 hg3
      obtain ⟨g', z', m', c', y', eg, -, -, hg3, -, -, hc2, hm', hr', -⟩ := (H0.out.sh HS1.out).at_ j hlt
      simp only [Option.some.injEq, Addr.mk.injEq, and_true] at eg
      subst eg
      have HR : Hid (IR 1 lo hi w1 z' m') := hr'
      clear hr'
      go_wp2_with fail
      refine (markB_ir lo hi z' m' c' (K + 1) _ HR.out hm' (by omega)).mono ?_
      rintro e w2 ⟨K1, hK1, rfl, ht1, hs1⟩
      have HT2 : Hid (Touch lo hi w w2) := HT1.out.trans ht1
      have HS2 : Hid (Sh w w2) := HS1.out.trans hs1
      have hK2 : K1 ≤ k + 1048577 * j + 1048577 := by omega
      have hK3 : K1 ≤ k + 1048577 * (j + 1) := by rw [Nat.mul_succ, ← Nat.add_assoc]; exact hK2
      clear hc2 ht1 hs1 HT1 HS1 HR hg3 hK1 hK
      go_wp2
      go_roundw
      case rel => exact ⟨j + 1, K1, by omega, hK3, by go_num, rfl, HT2, HS2⟩
      case measure => simp [intOf]; omega
    · obtain rfl : j = n := by omega
      have hge : ¬ ((j : Int) < (j : Int)) := by omega
      go_wp2
      go_ret
      exact ⟨K, hK, rfl, HT.out, HS.out⟩

set_option maxRecDepth 10000 in
set_option maxHeartbeats 2000000 in
theorem markRf_any (lo hi : Nat) (v e : Int) (a0 : Option Addr) (n0 c0 : Nat) (a1 : Option Addr) (n1 c1 : Nat) (k : Nat) (w : World) (r0 : SO 1 0 3 lo hi w a0 n0) (m0 : n0 ≤ 1048576) (r1 : SO 0 1 1 lo hi w a1 n1) (m1 : n1 ≤ 1048576) (hh : hi ≤ w.heap.size) (hk : k ≤ 50000000000000) :
    Calls Tryz.prog 35 #[.agg #[.int .i64 v, .int .i64 e, .slice a0 n0 c0, .slice a1 n1 c1], .int .i64 k] w (MkF lo hi w k 8388608000000) := by
  obtain ⟨w0, hw0⟩ : ∃ w0, w0 = w.alloc (.cells #[.int .i64 v, .int .i64 e, .slice a0 n0 c0, .slice a1 n1 c1] 41) := ⟨_, rfl⟩
  have hbb : Below w.heap.size w w0 := by rw [hw0]; exact (Below.refl _ _).alloc (Nat.le_refl _) _
  have HB : Hid (w0.heap[w.heap.size]? = some (.cells #[.int .i64 v, .int .i64 e, .slice a0 n0 c0, .slice a1 n1 c1] 41 (0, 0))) := by show _ = _; rw [hw0]; exact heap_alloc_new w _
  have HW : Hid (_ = _) := hw0
  have HT0 : Hid (Touch lo hi w w0) := Touch.of_below hbb
  have HS0 : Hid (Sh w w0) := Sh.below hbb
  have HR0 : Hid (SO 1 0 3 lo hi w a0 n0) := r0
  have HR1 : Hid (SO 0 1 1 lo hi w a1 n1) := r1
  clear hw0 hbb r0 r1
  have x0 : w0.cell? ⟨w.heap.size, 2, none⟩ = some (.slice a0 n0 c0) := (cell_of_row _ _ 2 _ _ (0, 0) HB.out).trans rfl
  go_enter Tryz.func35, Tryz.ntmps35
  go_upto_region 1 with fail
  rw [← HW.out]
  clear HW
  go_wp2_with fail
  refine (markRo_so lo hi a0 n0 c0 k _ (HR0.out.sh HS0.out) m0 (by omega)).mono ?_
  rintro e w1 ⟨K1, hK1, rfl, ht1, hs1⟩
  have HT1 : Hid (Touch lo hi w w1) := HT0.out.trans ht1
  have HS1 : Hid (Sh w w1) := HS0.out.trans hs1
  clear x0 hs1
  have HB1 : Hid (w1.heap[w.heap.size]? = some (.cells #[.int .i64 v, .int .i64 e, .slice a0 n0 c0, .slice a1 n1 c1] 41 (0, 0))) := touch_kept ht1 HB.out (.inr hh)
  have x0 : w1.cell? ⟨w.heap.size, 3, none⟩ = some (.slice a1 n1 c1) := (cell_of_row _ _ 3 _ _ (0, 0) HB1.out).trans rfl
  clear ht1
  go_wp2_with fail
  refine (markFs_so lo hi a1 n1 c1 K1 _ (HR1.out.sh HS1.out) m1 (by omega)).mono ?_
  rintro e w2 ⟨K2, hK2, rfl, ht2, hs2⟩
  have HT2 : Hid (Touch lo hi w w2) := HT1.out.trans ht2
  have HS2 : Hid (Sh w w2) := HS1.out.trans hs2
  clear x0 hs2
  go_wp2
  go_ret
  exact ⟨K2, by omega, rfl, HT2.out, HS2.out⟩

set_option maxRecDepth 10000 in
set_option maxHeartbeats 2000000 in
theorem markSf_any (lo hi : Nat) (v e lv lh : Int) (a0 : Option Addr) (n0 c0 : Nat) (k : Nat) (w : World) (r0 : SO 0 1 1 lo hi w a0 n0) (m0 : n0 ≤ 1048576) (hh : hi ≤ w.heap.size) (hk : k ≤ 50000000000000) :
    Calls Tryz.prog 36 #[.agg #[.int .i64 v, .int .i64 e, .int .i64 lv, .int .u64 lh, .slice a0 n0 c0], .int .i64 k] w (MkF lo hi w k 4194304000000) := by
  obtain ⟨w0, hw0⟩ : ∃ w0, w0 = w.alloc (.cells #[.int .i64 v, .int .i64 e, .int .i64 lv, .int .u64 lh, .slice a0 n0 c0] 43) := ⟨_, rfl⟩
  have hbb : Below w.heap.size w w0 := by rw [hw0]; exact (Below.refl _ _).alloc (Nat.le_refl _) _
  have HB : Hid (w0.heap[w.heap.size]? = some (.cells #[.int .i64 v, .int .i64 e, .int .i64 lv, .int .u64 lh, .slice a0 n0 c0] 43 (0, 0))) := by show _ = _; rw [hw0]; exact heap_alloc_new w _
  have HW : Hid (_ = _) := hw0
  have HT0 : Hid (Touch lo hi w w0) := Touch.of_below hbb
  have HS0 : Hid (Sh w w0) := Sh.below hbb
  have HR0 : Hid (SO 0 1 1 lo hi w a0 n0) := r0
  clear hw0 hbb r0
  have x0 : w0.cell? ⟨w.heap.size, 4, none⟩ = some (.slice a0 n0 c0) := (cell_of_row _ _ 4 _ _ (0, 0) HB.out).trans rfl
  go_enter Tryz.func36, Tryz.ntmps36
  go_upto_region 1 with fail
  rw [← HW.out]
  clear HW
  go_wp2_with fail
  refine (markFs_so lo hi a0 n0 c0 k _ (HR0.out.sh HS0.out) m0 (by omega)).mono ?_
  rintro e w1 ⟨K1, hK1, rfl, ht1, hs1⟩
  have HT1 : Hid (Touch lo hi w w1) := HT0.out.trans ht1
  have HS1 : Hid (Sh w w1) := HS0.out.trans hs1
  clear x0 hs1
  go_wp2
  go_ret
  exact ⟨K1, by omega, rfl, HT1.out, HS1.out⟩

set_option maxRecDepth 10000 in
set_option maxHeartbeats 2000000 in
theorem markLf_any (lo hi : Nat) (v e : Int) (a0 : Option Addr) (n0 c0 : Nat) (a1 : Option Addr) (n1 c1 : Nat) (k : Nat) (w : World) (r0 : IR 2 lo hi w a0 n0) (m0 : n0 ≤ 1048576) (r1 : SO 0 1 1 lo hi w a1 n1) (m1 : n1 ≤ 1048576) (hh : hi ≤ w.heap.size) (hk : k ≤ 50000000000000) :
    Calls Tryz.prog 37 #[.agg #[.int .i64 v, .int .i64 e, .slice a0 n0 c0, .slice a1 n1 c1], .int .i64 k] w (MkF lo hi w k 8388608000000) := by
  obtain ⟨w0, hw0⟩ : ∃ w0, w0 = w.alloc (.cells #[.int .i64 v, .int .i64 e, .slice a0 n0 c0, .slice a1 n1 c1] 46) := ⟨_, rfl⟩
  have hbb : Below w.heap.size w w0 := by rw [hw0]; exact (Below.refl _ _).alloc (Nat.le_refl _) _
  have HB : Hid (w0.heap[w.heap.size]? = some (.cells #[.int .i64 v, .int .i64 e, .slice a0 n0 c0, .slice a1 n1 c1] 46 (0, 0))) := by show _ = _; rw [hw0]; exact heap_alloc_new w _
  have HW : Hid (_ = _) := hw0
  have HT0 : Hid (Touch lo hi w w0) := Touch.of_below hbb
  have HS0 : Hid (Sh w w0) := Sh.below hbb
  have HR0 : Hid (IR 2 lo hi w a0 n0) := r0
  have HR1 : Hid (SO 0 1 1 lo hi w a1 n1) := r1
  clear hw0 hbb r0 r1
  have x0 : w0.cell? ⟨w.heap.size, 2, none⟩ = some (.slice a0 n0 c0) := (cell_of_row _ _ 2 _ _ (0, 0) HB.out).trans rfl
  go_enter Tryz.func37, Tryz.ntmps37
  go_upto_region 1 with fail
  rw [← HW.out]
  clear HW
  go_wp2_with fail
  refine (markTe_ir lo hi a0 n0 c0 k _ (HR0.out.sh HS0.out) m0 (by omega)).mono ?_
  rintro e w1 ⟨K1, hK1, rfl, ht1, hs1⟩
  have HT1 : Hid (Touch lo hi w w1) := HT0.out.trans ht1
  have HS1 : Hid (Sh w w1) := HS0.out.trans hs1
  clear x0 hs1
  have HB1 : Hid (w1.heap[w.heap.size]? = some (.cells #[.int .i64 v, .int .i64 e, .slice a0 n0 c0, .slice a1 n1 c1] 46 (0, 0))) := touch_kept ht1 HB.out (.inr hh)
  have x0 : w1.cell? ⟨w.heap.size, 3, none⟩ = some (.slice a1 n1 c1) := (cell_of_row _ _ 3 _ _ (0, 0) HB1.out).trans rfl
  clear ht1
  go_wp2_with fail
  refine (markFs_so lo hi a1 n1 c1 K1 _ (HR1.out.sh HS1.out) m1 (by omega)).mono ?_
  rintro e w2 ⟨K2, hK2, rfl, ht2, hs2⟩
  have HT2 : Hid (Touch lo hi w w2) := HT1.out.trans ht2
  have HS2 : Hid (Sh w w2) := HS1.out.trans hs2
  clear x0 hs2
  go_wp2
  go_ret
  exact ⟨K2, by omega, rfl, HT2.out, HS2.out⟩

end Go.Proofs.YtglpbgebcpijaaaGreat

set_option linter.unusedVariables false
namespace Go.Proofs.YtglpbgebcpijaaaGreat
open Go.RowKit

theorem pu_ints (ps : List (Int × Int × Int)) : ∀ v ∈ flPu ps, isI v := by
  intro v hv
  simp only [flPu, List.mem_flatMap, List.mem_cons, List.not_mem_nil, or_false] at hv
  obtain ⟨p, _, h⟩ := hv
  rcases h with rfl | rfl | rfl <;> exact ⟨_, _, rfl⟩
theorem te_ints (ps : List (Int × Int)) : ∀ v ∈ flTe ps, isI v := by
  intro v hv
  simp only [flTe, List.mem_flatMap, List.mem_cons, List.not_mem_nil, or_false] at hv
  obtain ⟨p, _, h⟩ := hv
  rcases h with rfl | rfl <;> exact ⟨_, _, rfl⟩
theorem by_ints (bs : List Int) : ∀ v ∈ bs.map (Value.int .u8), isI v := by
  intro v hv
  obtain ⟨p, _, rfl⟩ := List.mem_map.1 hv
  exact ⟨_, _, rfl⟩
theorem so_of {p q s g n lo B e : Nat} {w W : World} {vs : List Value} (h : w.ownsRow B e 2 (.slice (some ⟨g, 0, none⟩) n n) n vs) (hb : W.heap[g]? = w.heap[g]?) (hB : lo ≤ g) (hc : ∀ j, j < n → (∃ k m, W.cell? ⟨g, j * 2 + p, none⟩ = some (.int k m)) ∧ ∃ z m c, W.cell? ⟨g, j * 2 + q, none⟩ = some (.slice z m c) ∧ m ≤ 1048576 ∧ IR s lo W.heap.size W z m) : SO p q s lo W.heap.size W (some ⟨g, 0, none⟩) n := by
  rcases h.2 with ⟨_, h0⟩ | ⟨g', cap, cur, hs, hb', hg, h1, h2, h3, h4⟩
  · exact .inl h0
  · simp only [Value.slice.injEq, Option.some.injEq, Addr.mk.injEq, and_true, true_and] at hs
    obtain ⟨rfl, rfl⟩ := hs
    have hg' := hb.trans hg
    refine .inr ⟨g, cur, e, rfl, hB, (Array.getElem?_eq_some_iff.1 hg').1, hg', fun j hj => ?_⟩
    obtain ⟨⟨k, m, e1⟩, z, m', c, e2, e3, e4⟩ := hc j hj
    exact ⟨⟨_, (cell_of_row _ _ _ _ _ _ hg').symm.trans e1, k, m, rfl⟩, z, m', c, (cell_of_row _ _ _ _ _ _ hg').symm.trans e2, e3, e4⟩

set_option maxRecDepth 10000 in
set_option maxHeartbeats 4000000 in
theorem toFileSigS2_any (K : Nat → Nat → Prop) (a : Option Addr) (n cap : Nat) (xs : List FsP) (w : World) (h : Fss K w a n xs) (hn : n ≤ 1048576) (hz : ∀ k, k < n → (xs.getD k default).sg.length ≤ 1048576) :
    Calls Tryz.prog 64 #[.slice a n cap] w fun e w' => ∃ a', e = .returned (.slice a' n n) ∧ KeepB w.heap.size w' (fun W => Fss (fun n c => n ≤ c ∧ n ≤ 1048576) W a' n xs ∧ SO 0 1 1 w.heap.size W.heap.size W a' n) ∧ Below w.heap.size w w' := by
  obtain ⟨i0, hi, hz0, hz1, hz2⟩ := info_parts Tryz.infoFs
  have HK : Hid (Fss K w a n xs) := h
  have HZ : Hid (∀ k, k < n → (xs.getD k default).sg.length ≤ 1048576) := hz
  have hlen : Hid (xs.length = n) := h.len
  clear h hz
  go_enter Tryz.func64, Tryz.ntmps64
  go_wp2_with (first | (at_make; refine wpList_make_full _ rfl _ _ 39 rfl w.heap.size 155 i0 _ 2 Tryz.underlying39 hi hz0 hz1 _ _ _ _ n rfl rfl rfl rfl (by rw [hz2]; omega) (by unfold maxLen; omega) (by exact Nat.le_refl _) ?_; intro w1 hown hgrow))
  have hbl : Below w.heap.size w w1 := (Below.refl _ _).grown hgrow (Nat.le_refl _) (by simp)
  clear hgrow hi hz0 hz1 hz2
  go_loopw [4] (fun i wr => ∃ k : Nat, k ≤ n ∧ i = .int .i64 k ∧ Hid (∃ vs, wr.ownsRow w.heap.size 155 2 (.slice (some ⟨w.heap.size, 0, none⟩) n n) n vs) ∧ Hid (FsPre wr w.heap.size k xs) ∧ Below w.heap.size w wr) (fun i _ => n - (intOf i).toNat)
  case atStart => exact ⟨0, Nat.zero_le _, rfl, ⟨_, hown⟩, fun j hj => absurd hj (Nat.not_lt_zero _), hbl⟩
  case round =>
    obtain ⟨k, hk, rfl, HOR, HPRE, hbr⟩ := hrel
    obtain ⟨vs, hor⟩ := HOR.out
    have hgl := (hor.lt _ rfl).2
    have HOV : Hid (_) := hor
    clear HOR hor hown hbl
    by_cases hkn : k < n
    · obtain ⟨b, off, a1, n1, d1, rfl, hlb, hc, hp, hm, hu, _⟩ := HK.out.get k hkn
      have hgp := HZ.out k hkn
      obtain ⟨y, hy⟩ : ∃ y, y = xs.getD k default := ⟨_, rfl⟩
      rw [← hy] at hc hp hgp hu
      have HY : Hid (y = xs.getD k default) := hy
      have HU : Hid (U64 y.key) := hu
      have hn1 : n1 ≤ 1048576 := by rw [← hp.len]; exact hgp
      obtain ⟨c0, c1⟩ := hc.of (w' := wr) (fun i => hbr.cell (p := ⟨b, i, none⟩) hlb)
      have HP : Hid (Row wr a1 n1 y.sg) := hp.kept hbr
      have hkni : (k : Int) < (n : Int) := by omega
      have hsz := hbr.size
      clear hc hy hp hgp hu
      go_wp2_with fail
      refine (toFileSig_any y a1 n1 d1 _ HP.out hn1).mono ?_
      rintro e w2 ⟨p1, rfl, hp2, hb2⟩
      have hor2 : w2.ownsRow w.heap.size 155 2 (.slice (some ⟨w.heap.size, 0, none⟩) n n) n vs := ownsRow_below HOV.out hb2
      have hs2 := hb2.size
      have fr : ∀ j, w2.frozen? ⟨w.heap.size, j, none⟩ = false := fun j => hor2.frozenAt j
      have hvl : vs.length = n * 2 := hor2.1
      have cx : ∀ j, j < n * 2 → ∃ z, w2.cell? ⟨w.heap.size, j, none⟩ = some z := fun j hj => ⟨_, (hor2.cellAt j hj).trans (List.getElem?_eq_getElem (by omega))⟩
      obtain ⟨z0, x0⟩ := cx (k * 2) (by omega)
      obtain ⟨z1, x1⟩ := cx (k * 2 + 1) (by omega)
      have f0 := fr (k * 2)
      have f1 := fr (k * 2 + 1)
      have hS := putFs_is hor2 k hkn p1 n1 n1 y
      have hT := putFs_touch w2 w.heap.size (k * 2) (.int .u64 y.key) (.slice p1 n1 n1)
      have hP : FsPre (putFs w2 w.heap.size (k * 2) (.int .u64 y.key) (.slice p1 n1 n1)) w.heap.size (k + 1) xs := by
        intro j hj
        by_cases hjk : j = k
        · subst hjk
          rw [← HY.out]
          exact ⟨p1, n1, hS.cells, (hp2.mono (show w.heap.size + 1 ≤ wr.heap.size by omega)).touch5 hT (Nat.le_refl _), hn1, HU.out⟩
        · obtain ⟨r1, m1, q2, q3, q4⟩ := (HPRE.out.kept hgl hb2) j (by omega)
          have hx := hS.old
          exact ⟨r1, m1, ⟨(hx _ (by omega) (by omega)).trans q2.c0, (hx _ (by omega) (by omega)).trans q2.c1⟩, q3.touch5 hT (Nat.le_refl _), q4⟩
      have hB2 := hbr.trans (hb2.mono hsz)
      have hB4 : Below w.heap.size w (putFs w2 w.heap.size (k * 2) (.int .u64 y.key) (.slice p1 n1 n1)) := hB2.trans (hT.below (Nat.le_refl _) (by omega))
      have FIN : Hid (_ ∧ _ ∧ _) := ⟨hS.own, hP, hB4⟩
      have hgl2 : w.heap.size < w2.heap.size := by omega
      clear fr cx hS hP hB4 hB2 hor2 hp2 hb2 hvl HPRE HOV HP HK hT
      go_wp2
      go_roundw
      case rel => exact ⟨k + 1, by omega, by go_num, FIN.out.1, FIN.out.2.1, FIN.out.2.2⟩
      case measure => simp [intOf]; omega
    · obtain rfl : n = k := by omega
      have HX : Hid (n ≤ 9223372036854775807) := HK.out.max
      clear HK
      go_wp2
      go_ret
      refine ⟨_, rfl, fun W hW => ⟨⟨hlen.out, HX.out, fun j hj => ?_⟩, ?_⟩, hbr⟩
      · obtain ⟨p1, m1, h3, h4, h5, h6⟩ := HPRE.out j hj
        have hcc : ∀ i, W.cell? ⟨w.heap.size, i, none⟩ = _ := fun i => World.cell?_of_block (a := ⟨w.heap.size, i, none⟩) (hW.block w.heap.size hgl (.inr (Nat.le_refl _)))
        exact ⟨w.heap.size, 0, _, _, _, rfl, Nat.lt_of_lt_of_le hgl hW.size, by rw [Nat.zero_add]; exact h3.of hcc, (h4.touch5 hW (by omega)).toRow, by omega, h6, Nat.le_refl _, h5⟩
      · refine so_of HOV.out (hW.block w.heap.size hgl (.inr (Nat.le_refl _))) (Nat.le_refl _) (fun j hj => ?_)
        obtain ⟨p1, m1, h3, h4, h5, h6⟩ := HPRE.out j hj
        have hcc : ∀ i, W.cell? ⟨w.heap.size, i, none⟩ = _ := fun i => World.cell?_of_block (a := ⟨w.heap.size, i, none⟩) (hW.block w.heap.size hgl (.inr (Nat.le_refl _)))
        have h3' := h3.of hcc
        exact ⟨⟨_, _, h3'.c0⟩, p1, m1, m1, h3'.c1, h5, (ir_owns (h4.touch5 hW (by omega)).row (by_ints _)).mono (by omega) (Nat.le_refl _)⟩

set_option maxRecDepth 10000 in
set_option maxHeartbeats 4000000 in
theorem toRoleS2_any (K : Nat → Nat → Prop) (a : Option Addr) (n cap : Nat) (xs : List RoP) (w : World) (h : Ros K w a n xs) (hn : n ≤ 1048576) (hz : ∀ k, k < n → (xs.getD k default).ks.length ≤ 1048576) :
    Calls Tryz.prog 63 #[.slice a n cap] w fun e w' => ∃ a', e = .returned (.slice a' n n) ∧ KeepB w.heap.size w' (fun W => Ros (fun n c => n ≤ c ∧ n ≤ 1048576) W a' n xs ∧ SO 1 0 3 w.heap.size W.heap.size W a' n) ∧ Below w.heap.size w w' := by
  obtain ⟨i0, hi, hz0, hz1, hz2⟩ := info_parts Tryz.infoRo
  have HK : Hid (Ros K w a n xs) := h
  have HZ : Hid (∀ k, k < n → (xs.getD k default).ks.length ≤ 1048576) := hz
  have hlen : Hid (xs.length = n) := h.len
  clear h hz
  go_enter Tryz.func63, Tryz.ntmps63
  go_wp2_with (first | (at_make; refine wpList_make_full _ rfl _ _ 38 rfl w.heap.size 113 i0 _ 2 Tryz.underlying38 hi hz0 hz1 _ _ _ _ n rfl rfl rfl rfl (by rw [hz2]; omega) (by unfold maxLen; omega) (by exact Nat.le_refl _) ?_; intro w1 hown hgrow))
  have hbl : Below w.heap.size w w1 := (Below.refl _ _).grown hgrow (Nat.le_refl _) (by simp)
  clear hgrow hi hz0 hz1 hz2
  go_loopw [4] (fun i wr => ∃ k : Nat, k ≤ n ∧ i = .int .i64 k ∧ Hid (∃ vs, wr.ownsRow w.heap.size 113 2 (.slice (some ⟨w.heap.size, 0, none⟩) n n) n vs) ∧ Hid (RoPre wr w.heap.size k xs) ∧ Below w.heap.size w wr) (fun i _ => n - (intOf i).toNat)
  case atStart => exact ⟨0, Nat.zero_le _, rfl, ⟨_, hown⟩, fun j hj => absurd hj (Nat.not_lt_zero _), hbl⟩
  case round =>
    obtain ⟨k, hk, rfl, HOR, HPRE, hbr⟩ := hrel
    obtain ⟨vs, hor⟩ := HOR.out
    have hgl := (hor.lt _ rfl).2
    have HOV : Hid (_) := hor
    clear HOR hor hown hbl
    by_cases hkn : k < n
    · obtain ⟨b, off, a1, n1, d1, rfl, hlb, hc, hp, hm, hu, _⟩ := HK.out.get k hkn
      have hgp := HZ.out k hkn
      obtain ⟨y, hy⟩ : ∃ y, y = xs.getD k default := ⟨_, rfl⟩
      rw [← hy] at hc hp hgp hu
      have HY : Hid (y = xs.getD k default) := hy
      have HU : Hid (PuW y.ks) := hu
      have hn1 : n1 ≤ 1048576 := by rw [← hp.len]; exact hgp
      obtain ⟨c0, c1⟩ := hc.of (w' := wr) (fun i => hbr.cell (p := ⟨b, i, none⟩) hlb)
      have HP : Hid (RowPu wr a1 n1 y.ks) := hp.kept hbr
      have hkni : (k : Int) < (n : Int) := by omega
      have hsz := hbr.size
      clear hc hy hp hgp hu
      go_wp2_with fail
      refine (toRole_any y a1 n1 d1 _ HP.out hn1).mono ?_
      rintro e w2 ⟨p1, rfl, hp2, hb2⟩
      have hor2 : w2.ownsRow w.heap.size 113 2 (.slice (some ⟨w.heap.size, 0, none⟩) n n) n vs := ownsRow_below HOV.out hb2
      have hs2 := hb2.size
      have fr : ∀ j, w2.frozen? ⟨w.heap.size, j, none⟩ = false := fun j => hor2.frozenAt j
      have hvl : vs.length = n * 2 := hor2.1
      have cx : ∀ j, j < n * 2 → ∃ z, w2.cell? ⟨w.heap.size, j, none⟩ = some z := fun j hj => ⟨_, (hor2.cellAt j hj).trans (List.getElem?_eq_getElem (by omega))⟩
      obtain ⟨z0, x0⟩ := cx (k * 2) (by omega)
      obtain ⟨z1, x1⟩ := cx (k * 2 + 1) (by omega)
      have f0 := fr (k * 2)
      have f1 := fr (k * 2 + 1)
      have hS := putRo_is hor2 k hkn p1 n1 n1 y
      have hT := putRo_touch w2 w.heap.size (k * 2) (.slice p1 n1 n1) (.int .i64 y.need)
      have hP : RoPre (putRo w2 w.heap.size (k * 2) (.slice p1 n1 n1) (.int .i64 y.need)) w.heap.size (k + 1) xs := by
        intro j hj
        by_cases hjk : j = k
        · subst hjk
          rw [← HY.out]
          exact ⟨p1, n1, hS.cells, (hp2.mono (show w.heap.size + 1 ≤ wr.heap.size by omega)).touch5 hT (Nat.le_refl _), hn1, HU.out⟩
        · obtain ⟨r1, m1, q2, q3, q4⟩ := (HPRE.out.kept hgl hb2) j (by omega)
          have hx := hS.old
          exact ⟨r1, m1, ⟨(hx _ (by omega) (by omega)).trans q2.c0, (hx _ (by omega) (by omega)).trans q2.c1⟩, q3.touch5 hT (Nat.le_refl _), q4⟩
      have hB2 := hbr.trans (hb2.mono hsz)
      have hB4 : Below w.heap.size w (putRo w2 w.heap.size (k * 2) (.slice p1 n1 n1) (.int .i64 y.need)) := hB2.trans (hT.below (Nat.le_refl _) (by omega))
      have FIN : Hid (_ ∧ _ ∧ _) := ⟨hS.own, hP, hB4⟩
      have hgl2 : w.heap.size < w2.heap.size := by omega
      clear fr cx hS hP hB4 hB2 hor2 hp2 hb2 hvl HPRE HOV HP HK hT
      go_wp2
      go_roundw
      case rel => exact ⟨k + 1, by omega, by go_num, FIN.out.1, FIN.out.2.1, FIN.out.2.2⟩
      case measure => simp [intOf]; omega
    · obtain rfl : n = k := by omega
      have HX : Hid (n ≤ 9223372036854775807) := HK.out.max
      clear HK
      go_wp2
      go_ret
      refine ⟨_, rfl, fun W hW => ⟨⟨hlen.out, HX.out, fun j hj => ?_⟩, ?_⟩, hbr⟩
      · obtain ⟨p1, m1, h3, h4, h5, h6⟩ := HPRE.out j hj
        have hcc : ∀ i, W.cell? ⟨w.heap.size, i, none⟩ = _ := fun i => World.cell?_of_block (a := ⟨w.heap.size, i, none⟩) (hW.block w.heap.size hgl (.inr (Nat.le_refl _)))
        exact ⟨w.heap.size, 0, _, _, _, rfl, Nat.lt_of_lt_of_le hgl hW.size, by rw [Nat.zero_add]; exact h3.of hcc, (h4.touch5 hW (by omega)).toRow, by omega, h6, Nat.le_refl _, h5⟩
      · refine so_of HOV.out (hW.block w.heap.size hgl (.inr (Nat.le_refl _))) (Nat.le_refl _) (fun j hj => ?_)
        obtain ⟨p1, m1, h3, h4, h5, h6⟩ := HPRE.out j hj
        have hcc : ∀ i, W.cell? ⟨w.heap.size, i, none⟩ = _ := fun i => World.cell?_of_block (a := ⟨w.heap.size, i, none⟩) (hW.block w.heap.size hgl (.inr (Nat.le_refl _)))
        have h3' := h3.of hcc
        exact ⟨⟨_, _, h3'.c1⟩, p1, m1, m1, h3'.c0, h5, (ir_owns (h4.touch5 hW (by omega)).row (pu_ints _)).mono (by omega) (Nat.le_refl _)⟩

set_option maxRecDepth 10000 in
set_option maxHeartbeats 4000000 in
theorem toRootFile2_any (x : RfP) (a0 : Option Addr) (n0 c0 : Nat) (a1 : Option Addr) (n1 c1 : Nat) (w : World) (r0 : Ros KT w a0 n0 x.rs) (m0 : n0 ≤ 9223372036854775807) (r1 : Fss KT w a1 n1 x.ss) (m1 : n1 ≤ 9223372036854775807) (q0 : (n0 ≤ 1048576 ∧ ∀ k, k < n0 → (x.rs.getD k default).ks.length ≤ 1048576)) (q1 : (n1 ≤ 1048576 ∧ ∀ k, k < n1 → (x.ss.getD k default).sg.length ≤ 1048576)) :
    Calls Tryz.prog 28 #[.agg #[.int .i64 x.v, .int .i64 x.e, .slice a0 n0 c0, .slice a1 n1 c1]] w fun e w' => ∃ p0 p1, e = .returned (.agg #[.int .i64 x.v, .int .i64 x.e, .slice p0 n0 n0, .slice p1 n1 n1]) ∧ KeepB w.heap.size w' (fun W => Ros KT W p0 n0 x.rs ∧ SO 1 0 3 w.heap.size W.heap.size W p0 n0) ∧ KeepB w.heap.size w' (fun W => Fss KT W p1 n1 x.ss ∧ SO 0 1 1 w.heap.size W.heap.size W p1 n1) ∧ Below w.heap.size w w' := by
  obtain ⟨w1, hw1⟩ : ∃ w1, w1 = ((w.alloc (.cells #[.int .i64 x.v, .int .i64 x.e, .slice a0 n0 c0, .slice a1 n1 c1] 25)).alloc (.cells #[.int .i64 0, .int .i64 0, .slice none 0 0, .slice none 0 0] 41)).alloc (.cells #[.int .i64 x.v, .int .i64 x.e, .slice none 0 0, .slice none 0 0] 41) := ⟨_, rfl⟩
  have hbb : Below w.heap.size w w1 := by rw [hw1]; exact (((Below.refl _ _).alloc (Nat.le_refl _) _).alloc (by simp) _).alloc (by simp; omega) _
  have hsz : w1.heap.size = w.heap.size + 3 := by rw [hw1]; simp
  have HBX : Hid (_ ∧ _ ∧ _) := heap_alloc2_newH w (.cells #[.int .i64 x.v, .int .i64 x.e, .slice a0 n0 c0, .slice a1 n1 c1] 25) (.cells #[.int .i64 0, .int .i64 0, .slice none 0 0, .slice none 0 0] 41) (.cells #[.int .i64 x.v, .int .i64 x.e, .slice none 0 0, .slice none 0 0] 41)
  rw [← hw1] at HBX
  have HW : Hid (_ = _) := hw1
  have HR0 : Hid (∀ W, Below w.heap.size w W → Ros KT W a0 n0 x.rs) := fun W hW => r0.kept hW
  have HQ0 : Hid ((n0 ≤ 1048576 ∧ ∀ k, k < n0 → (x.rs.getD k default).ks.length ≤ 1048576)) := q0
  have HR1 : Hid (∀ W, Below w.heap.size w W → Fss KT W a1 n1 x.ss) := fun W hW => r1.kept hW
  have HQ1 : Hid ((n1 ≤ 1048576 ∧ ∀ k, k < n1 → (x.ss.getD k default).sg.length ≤ 1048576)) := q1
  clear hw1 r0 q0 r1 q1
  have l0 : w1.cell? ⟨w.heap.size, 2, none⟩ = some (.slice a0 n0 c0) := (cell_of_row _ _ 2 _ 25 (0, 0) HBX.out.1).trans rfl
  go_enter Tryz.func28, Tryz.ntmps28
  go_upto_region 4 with fail
  rw [← HW.out]
  clear HW
  go_wp2_with fail
  refine (toRoleS2_any KT a0 n0 c0 x.rs _ (HR0.out _ hbb) HQ0.out.1 HQ0.out.2).mono ?_
  rintro e v0 ⟨p0, rfl, hk0, hb0⟩
  clear l0
  have hk0 : KeepB w1.heap.size v0 (fun W => Ros KT W p0 n0 x.rs ∧ SO 1 0 3 w.heap.size W.heap.size W p0 n0) := hk0.map (fun W h => ⟨h.1.weak, h.2.mono (by omega) (Nat.le_refl _)⟩)
  have HK0 : Hid (KeepB (w.heap.size + 3) v0 (fun W => Ros KT W p0 n0 x.rs ∧ SO 1 0 3 w.heap.size W.heap.size W p0 n0)) := hk0.mono (by omega)
  have hw0 : Below w.heap.size w v0 := hbb.trans (hb0.mono hbb.size)
  have hz0 : w.heap.size + 3 ≤ v0.heap.size := by have := hb0.size; omega
  have HBX0 : Hid (v0.heap[w.heap.size]? = some (.cells #[.int .i64 x.v, .int .i64 x.e, .slice a0 n0 c0, .slice a1 n1 c1] 25 (0, 0)) ∧ v0.heap[w.heap.size + 1]? = some (.cells #[.int .i64 0, .int .i64 0, .slice none 0 0, .slice none 0 0] 41 (0, 0)) ∧ v0.heap[w.heap.size + 1 + 1]? = some (.cells #[.int .i64 x.v, .int .i64 x.e, .slice none 0 0, .slice none 0 0] 41 (0, 0))) := ⟨below_kept HBX.out.1 hb0, below_kept HBX.out.2.1 hb0, below_kept HBX.out.2.2 hb0⟩
  have x0 : v0.cell? ⟨w.heap.size + 1 + 1, 0, none⟩ = some (.int .i64 x.v) := (cell_of_row _ _ 0 _ 41 (0, 0) HBX0.out.2.2).trans rfl
  have y0 : v0.frozen? ⟨w.heap.size + 1 + 1, 0, none⟩ = false := frozen_of_row v0 _ 0 _ 41 HBX0.out.2.2
  have x1 : v0.cell? ⟨w.heap.size + 1 + 1, 1, none⟩ = some (.int .i64 x.e) := (cell_of_row _ _ 1 _ 41 (0, 0) HBX0.out.2.2).trans rfl
  have y1 : v0.frozen? ⟨w.heap.size + 1 + 1, 1, none⟩ = false := frozen_of_row v0 _ 1 _ 41 HBX0.out.2.2
  have x2 : v0.cell? ⟨w.heap.size + 1 + 1, 2, none⟩ = some (.slice none 0 0) := (cell_of_row _ _ 2 _ 41 (0, 0) HBX0.out.2.2).trans rfl
  have y2 : v0.frozen? ⟨w.heap.size + 1 + 1, 2, none⟩ = false := frozen_of_row v0 _ 2 _ 41 HBX0.out.2.2
  have x3 : v0.cell? ⟨w.heap.size + 1 + 1, 3, none⟩ = some (.slice none 0 0) := (cell_of_row _ _ 3 _ 41 (0, 0) HBX0.out.2.2).trans rfl
  have y3 : v0.frozen? ⟨w.heap.size + 1 + 1, 3, none⟩ = false := frozen_of_row v0 _ 3 _ 41 HBX0.out.2.2
  have l3 : v0.cell? ⟨w.heap.size, 3, none⟩ = some (.slice a1 n1 c1) := (cell_of_row _ _ 3 _ 25 (0, 0) HBX0.out.1).trans rfl
  obtain ⟨z0, hz0⟩ : ∃ z, z = (v0.setCell ⟨w.heap.size + 1 + 1, 2, none⟩ (.slice p0 n0 n0)) := ⟨_, rfl⟩
  have ht0 : Touch (w.heap.size + 1 + 1) (w.heap.size + 1 + 1 + 1) v0 z0 := by rw [hz0]; exact touch_set1 _ _ _ _
  have HBY0 : Hid (z0.heap[w.heap.size]? = some (.cells #[.int .i64 x.v, .int .i64 x.e, .slice a0 n0 c0, .slice a1 n1 c1] 25 (0, 0)) ∧ z0.heap[w.heap.size + 1]? = some (.cells #[.int .i64 0, .int .i64 0, .slice none 0 0, .slice none 0 0] 41 (0, 0)) ∧ z0.heap[w.heap.size + 1 + 1]? = some (.cells #[.int .i64 x.v, .int .i64 x.e, .slice p0 n0 n0, .slice none 0 0] 41 (0, 0))) := ⟨touch_kept ht0 HBX0.out.1 (by omega), touch_kept ht0 HBX0.out.2.1 (by omega), by rw [hz0]; exact (heap_setCell_same _ _ 2 _ _ _ HBX0.out.2.2)⟩
  have HK0 : Hid (KeepB (w.heap.size + 3) z0 (fun W => Ros KT W p0 n0 x.rs ∧ SO 1 0 3 w.heap.size W.heap.size W p0 n0)) := HK0.out.touch ht0 (by omega)
  have hy0 : Below w.heap.size w z0 := hw0.trans (ht0.below (by omega) (by omega))
  have hq0 : w.heap.size + 3 ≤ z0.heap.size := by have := ht0.size; omega
  have HZ0 : Hid (_ = _) := hz0
  clear hz0 hk0 hb0
  go_upto_region 5 with fail
  rw [← HZ0.out]
  clear HZ0 x0 y0 x1 y1 x2 y2 x3 y3 l3
  have l0 : z0.cell? ⟨w.heap.size, 3, none⟩ = some (.slice a1 n1 c1) := (cell_of_row _ _ 3 _ 25 (0, 0) HBY0.out.1).trans rfl
  have x0 : z0.cell? ⟨w.heap.size + 1 + 1, 0, none⟩ = some (.int .i64 x.v) := (cell_of_row _ _ 0 _ 41 (0, 0) HBY0.out.2.2).trans rfl
  have y0 : z0.frozen? ⟨w.heap.size + 1 + 1, 0, none⟩ = false := frozen_of_row z0 _ 0 _ 41 HBY0.out.2.2
  have x1 : z0.cell? ⟨w.heap.size + 1 + 1, 1, none⟩ = some (.int .i64 x.e) := (cell_of_row _ _ 1 _ 41 (0, 0) HBY0.out.2.2).trans rfl
  have y1 : z0.frozen? ⟨w.heap.size + 1 + 1, 1, none⟩ = false := frozen_of_row z0 _ 1 _ 41 HBY0.out.2.2
  have x2 : z0.cell? ⟨w.heap.size + 1 + 1, 2, none⟩ = some (.slice p0 n0 n0) := (cell_of_row _ _ 2 _ 41 (0, 0) HBY0.out.2.2).trans rfl
  have y2 : z0.frozen? ⟨w.heap.size + 1 + 1, 2, none⟩ = false := frozen_of_row z0 _ 2 _ 41 HBY0.out.2.2
  have x3 : z0.cell? ⟨w.heap.size + 1 + 1, 3, none⟩ = some (.slice none 0 0) := (cell_of_row _ _ 3 _ 41 (0, 0) HBY0.out.2.2).trans rfl
  have y3 : z0.frozen? ⟨w.heap.size + 1 + 1, 3, none⟩ = false := frozen_of_row z0 _ 3 _ 41 HBY0.out.2.2
  go_wp2_with fail
  refine (toFileSigS2_any KT a1 n1 c1 x.ss _ (HR1.out _ hy0) HQ1.out.1 HQ1.out.2).mono ?_
  rintro e v1 ⟨p1, rfl, hk1, hb1⟩
  clear l0 x0 y0 x1 y1 x2 y2 x3 y3
  have hk1 : KeepB z0.heap.size v1 (fun W => Fss KT W p1 n1 x.ss ∧ SO 0 1 1 w.heap.size W.heap.size W p1 n1) := hk1.map (fun W h => ⟨h.1.weak, h.2.mono (by omega) (Nat.le_refl _)⟩)
  have HK1 : Hid (KeepB (w.heap.size + 3) v1 (fun W => Fss KT W p1 n1 x.ss ∧ SO 0 1 1 w.heap.size W.heap.size W p1 n1)) := hk1.mono (by omega)
  have HK0 : Hid (KeepB (w.heap.size + 3) v1 (fun W => Ros KT W p0 n0 x.rs ∧ SO 1 0 3 w.heap.size W.heap.size W p0 n0)) := HK0.out.kept hb1
  have hw1 : Below w.heap.size w v1 := hy0.trans (hb1.mono hy0.size)
  have hz1 : w.heap.size + 3 ≤ v1.heap.size := by have := hb1.size; omega
  have HBX1 : Hid (v1.heap[w.heap.size]? = some (.cells #[.int .i64 x.v, .int .i64 x.e, .slice a0 n0 c0, .slice a1 n1 c1] 25 (0, 0)) ∧ v1.heap[w.heap.size + 1]? = some (.cells #[.int .i64 0, .int .i64 0, .slice none 0 0, .slice none 0 0] 41 (0, 0)) ∧ v1.heap[w.heap.size + 1 + 1]? = some (.cells #[.int .i64 x.v, .int .i64 x.e, .slice p0 n0 n0, .slice none 0 0] 41 (0, 0))) := ⟨below_kept HBY0.out.1 hb1, below_kept HBY0.out.2.1 hb1, below_kept HBY0.out.2.2 hb1⟩
  have x0 : v1.cell? ⟨w.heap.size + 1 + 1, 0, none⟩ = some (.int .i64 x.v) := (cell_of_row _ _ 0 _ 41 (0, 0) HBX1.out.2.2).trans rfl
  have y0 : v1.frozen? ⟨w.heap.size + 1 + 1, 0, none⟩ = false := frozen_of_row v1 _ 0 _ 41 HBX1.out.2.2
  have x1 : v1.cell? ⟨w.heap.size + 1 + 1, 1, none⟩ = some (.int .i64 x.e) := (cell_of_row _ _ 1 _ 41 (0, 0) HBX1.out.2.2).trans rfl
  have y1 : v1.frozen? ⟨w.heap.size + 1 + 1, 1, none⟩ = false := frozen_of_row v1 _ 1 _ 41 HBX1.out.2.2
  have x2 : v1.cell? ⟨w.heap.size + 1 + 1, 2, none⟩ = some (.slice p0 n0 n0) := (cell_of_row _ _ 2 _ 41 (0, 0) HBX1.out.2.2).trans rfl
  have y2 : v1.frozen? ⟨w.heap.size + 1 + 1, 2, none⟩ = false := frozen_of_row v1 _ 2 _ 41 HBX1.out.2.2
  have x3 : v1.cell? ⟨w.heap.size + 1 + 1, 3, none⟩ = some (.slice none 0 0) := (cell_of_row _ _ 3 _ 41 (0, 0) HBX1.out.2.2).trans rfl
  have y3 : v1.frozen? ⟨w.heap.size + 1 + 1, 3, none⟩ = false := frozen_of_row v1 _ 3 _ 41 HBX1.out.2.2
  have r0 : v1.cell? ⟨w.heap.size + 1, 0, none⟩ = some (.int .i64 0) := (cell_of_row _ _ 0 _ 41 (0, 0) HBX1.out.2.1).trans rfl
  have f0 : v1.frozen? ⟨w.heap.size + 1, 0, none⟩ = false := frozen_of_row v1 _ 0 _ 41 HBX1.out.2.1
  have r1 : v1.cell? ⟨w.heap.size + 1, 1, none⟩ = some (.int .i64 0) := (cell_of_row _ _ 1 _ 41 (0, 0) HBX1.out.2.1).trans rfl
  have f1 : v1.frozen? ⟨w.heap.size + 1, 1, none⟩ = false := frozen_of_row v1 _ 1 _ 41 HBX1.out.2.1
  have r2 : v1.cell? ⟨w.heap.size + 1, 2, none⟩ = some (.slice none 0 0) := (cell_of_row _ _ 2 _ 41 (0, 0) HBX1.out.2.1).trans rfl
  have f2 : v1.frozen? ⟨w.heap.size + 1, 2, none⟩ = false := frozen_of_row v1 _ 2 _ 41 HBX1.out.2.1
  have r3 : v1.cell? ⟨w.heap.size + 1, 3, none⟩ = some (.slice none 0 0) := (cell_of_row _ _ 3 _ 41 (0, 0) HBX1.out.2.1).trans rfl
  have f3 : v1.frozen? ⟨w.heap.size + 1, 3, none⟩ = false := frozen_of_row v1 _ 3 _ 41 HBX1.out.2.1
  clear hk1 hb1
  go_wp2_with fail
  try simp only [Exit.inBlock, Exit.then]
  have T0 : Touch (w.heap.size + 1 + 1) (w.heap.size + 1 + 1 + 1) v1 (v1.setCell ⟨w.heap.size + 1 + 1, 3, none⟩ (.slice p1 n1 n1)) := touch_set1 v1 (w.heap.size + 1 + 1) _ _
  have T1 : Touch (w.heap.size + 1) (w.heap.size + 3) v1 (v1.setCell ⟨w.heap.size + 1 + 1, 3, none⟩ (.slice p1 n1 n1)) := T0.mono (by omega) (by omega)
  have T2 : Touch (w.heap.size + 1) (w.heap.size + 3) v1 (putRf (v1.setCell ⟨w.heap.size + 1 + 1, 3, none⟩ (.slice p1 n1 n1)) (w.heap.size + 1) (.int .i64 x.v) (.int .i64 x.e) (.slice p0 n0 n0) (.slice p1 n1 n1)) := T1.trans ((putRf_touch _ (w.heap.size + 1) _ _ _ _).mono (by omega) (by omega))
  refine bodyPost_ret (results_Rf rfl _ (w.heap.size + 1) rfl _ _ _ _ _ (putRf_heap (touch_kept T0 HBX1.out.2.1 (by omega)) _ _ _ _)) rfl ⟨p0, p1, rfl, (HK0.out.touch T2 (Nat.le_refl _)).mono (by omega), (HK1.out.touch T2 (Nat.le_refl _)).mono (by omega), hw1.trans (T2.below (by omega) (by omega))⟩

set_option maxRecDepth 10000 in
set_option maxHeartbeats 4000000 in
theorem toStampFile2_any (x : SfP) (a0 : Option Addr) (n0 c0 : Nat) (w : World) (r0 : Fss KT w a0 n0 x.ss) (m0 : n0 ≤ 9223372036854775807) (q0 : (n0 ≤ 1048576 ∧ ∀ k, k < n0 → (x.ss.getD k default).sg.length ≤ 1048576)) :
    Calls Tryz.prog 29 #[.agg #[.int .i64 x.v, .int .i64 x.e, .int .i64 x.lv, .int .u64 x.lh, .slice a0 n0 c0]] w fun e w' => ∃ p0, e = .returned (.agg #[.int .i64 x.v, .int .i64 x.e, .int .i64 x.lv, .int .u64 x.lh, .slice p0 n0 n0]) ∧ KeepB w.heap.size w' (fun W => Fss KT W p0 n0 x.ss ∧ SO 0 1 1 w.heap.size W.heap.size W p0 n0) ∧ Below w.heap.size w w' := by
  obtain ⟨w1, hw1⟩ : ∃ w1, w1 = ((w.alloc (.cells #[.int .i64 x.v, .int .i64 x.e, .int .i64 x.lv, .int .u64 x.lh, .slice a0 n0 c0] 28)).alloc (.cells #[.int .i64 0, .int .i64 0, .int .i64 0, .int .u64 0, .slice none 0 0] 43)).alloc (.cells #[.int .i64 x.v, .int .i64 x.e, .int .i64 x.lv, .int .u64 x.lh, .slice none 0 0] 43) := ⟨_, rfl⟩
  have hbb : Below w.heap.size w w1 := by rw [hw1]; exact (((Below.refl _ _).alloc (Nat.le_refl _) _).alloc (by simp) _).alloc (by simp; omega) _
  have hsz : w1.heap.size = w.heap.size + 3 := by rw [hw1]; simp
  have HBX : Hid (_ ∧ _ ∧ _) := heap_alloc2_newH w (.cells #[.int .i64 x.v, .int .i64 x.e, .int .i64 x.lv, .int .u64 x.lh, .slice a0 n0 c0] 28) (.cells #[.int .i64 0, .int .i64 0, .int .i64 0, .int .u64 0, .slice none 0 0] 43) (.cells #[.int .i64 x.v, .int .i64 x.e, .int .i64 x.lv, .int .u64 x.lh, .slice none 0 0] 43)
  rw [← hw1] at HBX
  have HW : Hid (_ = _) := hw1
  have HR0 : Hid (∀ W, Below w.heap.size w W → Fss KT W a0 n0 x.ss) := fun W hW => r0.kept hW
  have HQ0 : Hid ((n0 ≤ 1048576 ∧ ∀ k, k < n0 → (x.ss.getD k default).sg.length ≤ 1048576)) := q0
  clear hw1 r0 q0
  have l0 : w1.cell? ⟨w.heap.size, 4, none⟩ = some (.slice a0 n0 c0) := (cell_of_row _ _ 4 _ 28 (0, 0) HBX.out.1).trans rfl
  go_enter Tryz.func29, Tryz.ntmps29
  go_upto_region 6 with fail
  rw [← HW.out]
  clear HW
  go_wp2_with fail
  refine (toFileSigS2_any KT a0 n0 c0 x.ss _ (HR0.out _ hbb) HQ0.out.1 HQ0.out.2).mono ?_
  rintro e v0 ⟨p0, rfl, hk0, hb0⟩
  clear l0
  have hk0 : KeepB w1.heap.size v0 (fun W => Fss KT W p0 n0 x.ss ∧ SO 0 1 1 w.heap.size W.heap.size W p0 n0) := hk0.map (fun W h => ⟨h.1.weak, h.2.mono (by omega) (Nat.le_refl _)⟩)
  have HK0 : Hid (KeepB (w.heap.size + 3) v0 (fun W => Fss KT W p0 n0 x.ss ∧ SO 0 1 1 w.heap.size W.heap.size W p0 n0)) := hk0.mono (by omega)
  have hw0 : Below w.heap.size w v0 := hbb.trans (hb0.mono hbb.size)
  have hz0 : w.heap.size + 3 ≤ v0.heap.size := by have := hb0.size; omega
  have HBX0 : Hid (v0.heap[w.heap.size]? = some (.cells #[.int .i64 x.v, .int .i64 x.e, .int .i64 x.lv, .int .u64 x.lh, .slice a0 n0 c0] 28 (0, 0)) ∧ v0.heap[w.heap.size + 1]? = some (.cells #[.int .i64 0, .int .i64 0, .int .i64 0, .int .u64 0, .slice none 0 0] 43 (0, 0)) ∧ v0.heap[w.heap.size + 1 + 1]? = some (.cells #[.int .i64 x.v, .int .i64 x.e, .int .i64 x.lv, .int .u64 x.lh, .slice none 0 0] 43 (0, 0))) := ⟨below_kept HBX.out.1 hb0, below_kept HBX.out.2.1 hb0, below_kept HBX.out.2.2 hb0⟩
  have x0 : v0.cell? ⟨w.heap.size + 1 + 1, 0, none⟩ = some (.int .i64 x.v) := (cell_of_row _ _ 0 _ 43 (0, 0) HBX0.out.2.2).trans rfl
  have y0 : v0.frozen? ⟨w.heap.size + 1 + 1, 0, none⟩ = false := frozen_of_row v0 _ 0 _ 43 HBX0.out.2.2
  have x1 : v0.cell? ⟨w.heap.size + 1 + 1, 1, none⟩ = some (.int .i64 x.e) := (cell_of_row _ _ 1 _ 43 (0, 0) HBX0.out.2.2).trans rfl
  have y1 : v0.frozen? ⟨w.heap.size + 1 + 1, 1, none⟩ = false := frozen_of_row v0 _ 1 _ 43 HBX0.out.2.2
  have x2 : v0.cell? ⟨w.heap.size + 1 + 1, 2, none⟩ = some (.int .i64 x.lv) := (cell_of_row _ _ 2 _ 43 (0, 0) HBX0.out.2.2).trans rfl
  have y2 : v0.frozen? ⟨w.heap.size + 1 + 1, 2, none⟩ = false := frozen_of_row v0 _ 2 _ 43 HBX0.out.2.2
  have x3 : v0.cell? ⟨w.heap.size + 1 + 1, 3, none⟩ = some (.int .u64 x.lh) := (cell_of_row _ _ 3 _ 43 (0, 0) HBX0.out.2.2).trans rfl
  have y3 : v0.frozen? ⟨w.heap.size + 1 + 1, 3, none⟩ = false := frozen_of_row v0 _ 3 _ 43 HBX0.out.2.2
  have x4 : v0.cell? ⟨w.heap.size + 1 + 1, 4, none⟩ = some (.slice none 0 0) := (cell_of_row _ _ 4 _ 43 (0, 0) HBX0.out.2.2).trans rfl
  have y4 : v0.frozen? ⟨w.heap.size + 1 + 1, 4, none⟩ = false := frozen_of_row v0 _ 4 _ 43 HBX0.out.2.2
  have r0 : v0.cell? ⟨w.heap.size + 1, 0, none⟩ = some (.int .i64 0) := (cell_of_row _ _ 0 _ 43 (0, 0) HBX0.out.2.1).trans rfl
  have f0 : v0.frozen? ⟨w.heap.size + 1, 0, none⟩ = false := frozen_of_row v0 _ 0 _ 43 HBX0.out.2.1
  have r1 : v0.cell? ⟨w.heap.size + 1, 1, none⟩ = some (.int .i64 0) := (cell_of_row _ _ 1 _ 43 (0, 0) HBX0.out.2.1).trans rfl
  have f1 : v0.frozen? ⟨w.heap.size + 1, 1, none⟩ = false := frozen_of_row v0 _ 1 _ 43 HBX0.out.2.1
  have r2 : v0.cell? ⟨w.heap.size + 1, 2, none⟩ = some (.int .i64 0) := (cell_of_row _ _ 2 _ 43 (0, 0) HBX0.out.2.1).trans rfl
  have f2 : v0.frozen? ⟨w.heap.size + 1, 2, none⟩ = false := frozen_of_row v0 _ 2 _ 43 HBX0.out.2.1
  have r3 : v0.cell? ⟨w.heap.size + 1, 3, none⟩ = some (.int .u64 0) := (cell_of_row _ _ 3 _ 43 (0, 0) HBX0.out.2.1).trans rfl
  have f3 : v0.frozen? ⟨w.heap.size + 1, 3, none⟩ = false := frozen_of_row v0 _ 3 _ 43 HBX0.out.2.1
  have r4 : v0.cell? ⟨w.heap.size + 1, 4, none⟩ = some (.slice none 0 0) := (cell_of_row _ _ 4 _ 43 (0, 0) HBX0.out.2.1).trans rfl
  have f4 : v0.frozen? ⟨w.heap.size + 1, 4, none⟩ = false := frozen_of_row v0 _ 4 _ 43 HBX0.out.2.1
  clear hk0 hb0
  go_wp2_with fail
  try simp only [Exit.inBlock, Exit.then]
  have T0 : Touch (w.heap.size + 1 + 1) (w.heap.size + 1 + 1 + 1) v0 (v0.setCell ⟨w.heap.size + 1 + 1, 4, none⟩ (.slice p0 n0 n0)) := touch_set1 v0 (w.heap.size + 1 + 1) _ _
  have T1 : Touch (w.heap.size + 1) (w.heap.size + 3) v0 (v0.setCell ⟨w.heap.size + 1 + 1, 4, none⟩ (.slice p0 n0 n0)) := T0.mono (by omega) (by omega)
  have T2 : Touch (w.heap.size + 1) (w.heap.size + 3) v0 (putSf (v0.setCell ⟨w.heap.size + 1 + 1, 4, none⟩ (.slice p0 n0 n0)) (w.heap.size + 1) (.int .i64 x.v) (.int .i64 x.e) (.int .i64 x.lv) (.int .u64 x.lh) (.slice p0 n0 n0)) := T1.trans ((putSf_touch _ (w.heap.size + 1) _ _ _ _ _).mono (by omega) (by omega))
  refine bodyPost_ret (results_Sf rfl _ (w.heap.size + 1) rfl _ _ _ _ _ _ (putSf_heap (touch_kept T0 HBX0.out.2.1 (by omega)) _ _ _ _ _)) rfl ⟨p0, rfl, (HK0.out.touch T2 (Nat.le_refl _)).mono (by omega), hw0.trans (T2.below (by omega) (by omega))⟩

set_option maxRecDepth 10000 in
set_option maxHeartbeats 4000000 in
theorem toListFile2_any (x : LfP) (a0 : Option Addr) (n0 c0 : Nat) (a1 : Option Addr) (n1 c1 : Nat) (w : World) (r0 : RowTe w a0 n0 x.es) (m0 : n0 ≤ 9223372036854775807) (r1 : Fss KT w a1 n1 x.ss) (m1 : n1 ≤ 9223372036854775807) (q0 : n0 ≤ 1048576) (q1 : (n1 ≤ 1048576 ∧ ∀ k, k < n1 → (x.ss.getD k default).sg.length ≤ 1048576)) :
    Calls Tryz.prog 30 #[.agg #[.int .i64 x.v, .int .i64 x.e, .slice a0 n0 c0, .slice a1 n1 c1]] w fun e w' => ∃ p0 p1, e = .returned (.agg #[.int .i64 x.v, .int .i64 x.e, .slice p0 n0 n0, .slice p1 n1 n1]) ∧ KeepB w.heap.size w' (fun W => RowTe W p0 n0 x.es ∧ IR 2 w.heap.size W.heap.size W p0 n0) ∧ KeepB w.heap.size w' (fun W => Fss KT W p1 n1 x.ss ∧ SO 0 1 1 w.heap.size W.heap.size W p1 n1) ∧ Below w.heap.size w w' := by
  obtain ⟨w1, hw1⟩ : ∃ w1, w1 = ((w.alloc (.cells #[.int .i64 x.v, .int .i64 x.e, .slice a0 n0 c0, .slice a1 n1 c1] 31)).alloc (.cells #[.int .i64 0, .int .i64 0, .slice none 0 0, .slice none 0 0] 46)).alloc (.cells #[.int .i64 x.v, .int .i64 x.e, .slice none 0 0, .slice none 0 0] 46) := ⟨_, rfl⟩
  have hbb : Below w.heap.size w w1 := by rw [hw1]; exact (((Below.refl _ _).alloc (Nat.le_refl _) _).alloc (by simp) _).alloc (by simp; omega) _
  have hsz : w1.heap.size = w.heap.size + 3 := by rw [hw1]; simp
  have HBX : Hid (_ ∧ _ ∧ _) := heap_alloc2_newH w (.cells #[.int .i64 x.v, .int .i64 x.e, .slice a0 n0 c0, .slice a1 n1 c1] 31) (.cells #[.int .i64 0, .int .i64 0, .slice none 0 0, .slice none 0 0] 46) (.cells #[.int .i64 x.v, .int .i64 x.e, .slice none 0 0, .slice none 0 0] 46)
  rw [← hw1] at HBX
  have HW : Hid (_ = _) := hw1
  have HR0 : Hid (∀ W, Below w.heap.size w W → RowTe W a0 n0 x.es) := fun W hW => r0.kept hW
  have HQ0 : Hid (n0 ≤ 1048576) := q0
  have HR1 : Hid (∀ W, Below w.heap.size w W → Fss KT W a1 n1 x.ss) := fun W hW => r1.kept hW
  have HQ1 : Hid ((n1 ≤ 1048576 ∧ ∀ k, k < n1 → (x.ss.getD k default).sg.length ≤ 1048576)) := q1
  clear hw1 r0 q0 r1 q1
  have l0 : w1.cell? ⟨w.heap.size, 2, none⟩ = some (.slice a0 n0 c0) := (cell_of_row _ _ 2 _ 31 (0, 0) HBX.out.1).trans rfl
  go_enter Tryz.func30, Tryz.ntmps30
  go_upto_region 4 with fail
  rw [← HW.out]
  clear HW
  go_wp2_with fail
  refine (toTeS_any a0 n0 c0 x.es _ (HR0.out _ hbb) HQ0.out).mono ?_
  rintro e v0 ⟨p0, rfl, hk0, hb0⟩
  clear l0
  have hk0 : KeepB w1.heap.size v0 (fun W => RowTe W p0 n0 x.es ∧ IR 2 w.heap.size W.heap.size W p0 n0) := fun W hW => ⟨(hk0.touch5 hW (Nat.le_refl _)).toRow, (ir_owns (hk0.touch5 hW (Nat.le_refl _)).row (te_ints _)).mono (by omega) (Nat.le_refl _)⟩
  have HK0 : Hid (KeepB (w.heap.size + 3) v0 (fun W => RowTe W p0 n0 x.es ∧ IR 2 w.heap.size W.heap.size W p0 n0)) := hk0.mono (by omega)
  have hw0 : Below w.heap.size w v0 := hbb.trans (hb0.mono hbb.size)
  have hz0 : w.heap.size + 3 ≤ v0.heap.size := by have := hb0.size; omega
  have HBX0 : Hid (v0.heap[w.heap.size]? = some (.cells #[.int .i64 x.v, .int .i64 x.e, .slice a0 n0 c0, .slice a1 n1 c1] 31 (0, 0)) ∧ v0.heap[w.heap.size + 1]? = some (.cells #[.int .i64 0, .int .i64 0, .slice none 0 0, .slice none 0 0] 46 (0, 0)) ∧ v0.heap[w.heap.size + 1 + 1]? = some (.cells #[.int .i64 x.v, .int .i64 x.e, .slice none 0 0, .slice none 0 0] 46 (0, 0))) := ⟨below_kept HBX.out.1 hb0, below_kept HBX.out.2.1 hb0, below_kept HBX.out.2.2 hb0⟩
  have x0 : v0.cell? ⟨w.heap.size + 1 + 1, 0, none⟩ = some (.int .i64 x.v) := (cell_of_row _ _ 0 _ 46 (0, 0) HBX0.out.2.2).trans rfl
  have y0 : v0.frozen? ⟨w.heap.size + 1 + 1, 0, none⟩ = false := frozen_of_row v0 _ 0 _ 46 HBX0.out.2.2
  have x1 : v0.cell? ⟨w.heap.size + 1 + 1, 1, none⟩ = some (.int .i64 x.e) := (cell_of_row _ _ 1 _ 46 (0, 0) HBX0.out.2.2).trans rfl
  have y1 : v0.frozen? ⟨w.heap.size + 1 + 1, 1, none⟩ = false := frozen_of_row v0 _ 1 _ 46 HBX0.out.2.2
  have x2 : v0.cell? ⟨w.heap.size + 1 + 1, 2, none⟩ = some (.slice none 0 0) := (cell_of_row _ _ 2 _ 46 (0, 0) HBX0.out.2.2).trans rfl
  have y2 : v0.frozen? ⟨w.heap.size + 1 + 1, 2, none⟩ = false := frozen_of_row v0 _ 2 _ 46 HBX0.out.2.2
  have x3 : v0.cell? ⟨w.heap.size + 1 + 1, 3, none⟩ = some (.slice none 0 0) := (cell_of_row _ _ 3 _ 46 (0, 0) HBX0.out.2.2).trans rfl
  have y3 : v0.frozen? ⟨w.heap.size + 1 + 1, 3, none⟩ = false := frozen_of_row v0 _ 3 _ 46 HBX0.out.2.2
  have l3 : v0.cell? ⟨w.heap.size, 3, none⟩ = some (.slice a1 n1 c1) := (cell_of_row _ _ 3 _ 31 (0, 0) HBX0.out.1).trans rfl
  obtain ⟨z0, hz0⟩ : ∃ z, z = (v0.setCell ⟨w.heap.size + 1 + 1, 2, none⟩ (.slice p0 n0 n0)) := ⟨_, rfl⟩
  have ht0 : Touch (w.heap.size + 1 + 1) (w.heap.size + 1 + 1 + 1) v0 z0 := by rw [hz0]; exact touch_set1 _ _ _ _
  have HBY0 : Hid (z0.heap[w.heap.size]? = some (.cells #[.int .i64 x.v, .int .i64 x.e, .slice a0 n0 c0, .slice a1 n1 c1] 31 (0, 0)) ∧ z0.heap[w.heap.size + 1]? = some (.cells #[.int .i64 0, .int .i64 0, .slice none 0 0, .slice none 0 0] 46 (0, 0)) ∧ z0.heap[w.heap.size + 1 + 1]? = some (.cells #[.int .i64 x.v, .int .i64 x.e, .slice p0 n0 n0, .slice none 0 0] 46 (0, 0))) := ⟨touch_kept ht0 HBX0.out.1 (by omega), touch_kept ht0 HBX0.out.2.1 (by omega), by rw [hz0]; exact (heap_setCell_same _ _ 2 _ _ _ HBX0.out.2.2)⟩
  have HK0 : Hid (KeepB (w.heap.size + 3) z0 (fun W => RowTe W p0 n0 x.es ∧ IR 2 w.heap.size W.heap.size W p0 n0)) := HK0.out.touch ht0 (by omega)
  have hy0 : Below w.heap.size w z0 := hw0.trans (ht0.below (by omega) (by omega))
  have hq0 : w.heap.size + 3 ≤ z0.heap.size := by have := ht0.size; omega
  have HZ0 : Hid (_ = _) := hz0
  clear hz0 hk0 hb0
  go_upto_region 5 with fail
  rw [← HZ0.out]
  clear HZ0 x0 y0 x1 y1 x2 y2 x3 y3 l3
  have l0 : z0.cell? ⟨w.heap.size, 3, none⟩ = some (.slice a1 n1 c1) := (cell_of_row _ _ 3 _ 31 (0, 0) HBY0.out.1).trans rfl
  have x0 : z0.cell? ⟨w.heap.size + 1 + 1, 0, none⟩ = some (.int .i64 x.v) := (cell_of_row _ _ 0 _ 46 (0, 0) HBY0.out.2.2).trans rfl
  have y0 : z0.frozen? ⟨w.heap.size + 1 + 1, 0, none⟩ = false := frozen_of_row z0 _ 0 _ 46 HBY0.out.2.2
  have x1 : z0.cell? ⟨w.heap.size + 1 + 1, 1, none⟩ = some (.int .i64 x.e) := (cell_of_row _ _ 1 _ 46 (0, 0) HBY0.out.2.2).trans rfl
  have y1 : z0.frozen? ⟨w.heap.size + 1 + 1, 1, none⟩ = false := frozen_of_row z0 _ 1 _ 46 HBY0.out.2.2
  have x2 : z0.cell? ⟨w.heap.size + 1 + 1, 2, none⟩ = some (.slice p0 n0 n0) := (cell_of_row _ _ 2 _ 46 (0, 0) HBY0.out.2.2).trans rfl
  have y2 : z0.frozen? ⟨w.heap.size + 1 + 1, 2, none⟩ = false := frozen_of_row z0 _ 2 _ 46 HBY0.out.2.2
  have x3 : z0.cell? ⟨w.heap.size + 1 + 1, 3, none⟩ = some (.slice none 0 0) := (cell_of_row _ _ 3 _ 46 (0, 0) HBY0.out.2.2).trans rfl
  have y3 : z0.frozen? ⟨w.heap.size + 1 + 1, 3, none⟩ = false := frozen_of_row z0 _ 3 _ 46 HBY0.out.2.2
  go_wp2_with fail
  refine (toFileSigS2_any KT a1 n1 c1 x.ss _ (HR1.out _ hy0) HQ1.out.1 HQ1.out.2).mono ?_
  rintro e v1 ⟨p1, rfl, hk1, hb1⟩
  clear l0 x0 y0 x1 y1 x2 y2 x3 y3
  have hk1 : KeepB z0.heap.size v1 (fun W => Fss KT W p1 n1 x.ss ∧ SO 0 1 1 w.heap.size W.heap.size W p1 n1) := hk1.map (fun W h => ⟨h.1.weak, h.2.mono (by omega) (Nat.le_refl _)⟩)
  have HK1 : Hid (KeepB (w.heap.size + 3) v1 (fun W => Fss KT W p1 n1 x.ss ∧ SO 0 1 1 w.heap.size W.heap.size W p1 n1)) := hk1.mono (by omega)
  have HK0 : Hid (KeepB (w.heap.size + 3) v1 (fun W => RowTe W p0 n0 x.es ∧ IR 2 w.heap.size W.heap.size W p0 n0)) := HK0.out.kept hb1
  have hw1 : Below w.heap.size w v1 := hy0.trans (hb1.mono hy0.size)
  have hz1 : w.heap.size + 3 ≤ v1.heap.size := by have := hb1.size; omega
  have HBX1 : Hid (v1.heap[w.heap.size]? = some (.cells #[.int .i64 x.v, .int .i64 x.e, .slice a0 n0 c0, .slice a1 n1 c1] 31 (0, 0)) ∧ v1.heap[w.heap.size + 1]? = some (.cells #[.int .i64 0, .int .i64 0, .slice none 0 0, .slice none 0 0] 46 (0, 0)) ∧ v1.heap[w.heap.size + 1 + 1]? = some (.cells #[.int .i64 x.v, .int .i64 x.e, .slice p0 n0 n0, .slice none 0 0] 46 (0, 0))) := ⟨below_kept HBY0.out.1 hb1, below_kept HBY0.out.2.1 hb1, below_kept HBY0.out.2.2 hb1⟩
  have x0 : v1.cell? ⟨w.heap.size + 1 + 1, 0, none⟩ = some (.int .i64 x.v) := (cell_of_row _ _ 0 _ 46 (0, 0) HBX1.out.2.2).trans rfl
  have y0 : v1.frozen? ⟨w.heap.size + 1 + 1, 0, none⟩ = false := frozen_of_row v1 _ 0 _ 46 HBX1.out.2.2
  have x1 : v1.cell? ⟨w.heap.size + 1 + 1, 1, none⟩ = some (.int .i64 x.e) := (cell_of_row _ _ 1 _ 46 (0, 0) HBX1.out.2.2).trans rfl
  have y1 : v1.frozen? ⟨w.heap.size + 1 + 1, 1, none⟩ = false := frozen_of_row v1 _ 1 _ 46 HBX1.out.2.2
  have x2 : v1.cell? ⟨w.heap.size + 1 + 1, 2, none⟩ = some (.slice p0 n0 n0) := (cell_of_row _ _ 2 _ 46 (0, 0) HBX1.out.2.2).trans rfl
  have y2 : v1.frozen? ⟨w.heap.size + 1 + 1, 2, none⟩ = false := frozen_of_row v1 _ 2 _ 46 HBX1.out.2.2
  have x3 : v1.cell? ⟨w.heap.size + 1 + 1, 3, none⟩ = some (.slice none 0 0) := (cell_of_row _ _ 3 _ 46 (0, 0) HBX1.out.2.2).trans rfl
  have y3 : v1.frozen? ⟨w.heap.size + 1 + 1, 3, none⟩ = false := frozen_of_row v1 _ 3 _ 46 HBX1.out.2.2
  have r0 : v1.cell? ⟨w.heap.size + 1, 0, none⟩ = some (.int .i64 0) := (cell_of_row _ _ 0 _ 46 (0, 0) HBX1.out.2.1).trans rfl
  have f0 : v1.frozen? ⟨w.heap.size + 1, 0, none⟩ = false := frozen_of_row v1 _ 0 _ 46 HBX1.out.2.1
  have r1 : v1.cell? ⟨w.heap.size + 1, 1, none⟩ = some (.int .i64 0) := (cell_of_row _ _ 1 _ 46 (0, 0) HBX1.out.2.1).trans rfl
  have f1 : v1.frozen? ⟨w.heap.size + 1, 1, none⟩ = false := frozen_of_row v1 _ 1 _ 46 HBX1.out.2.1
  have r2 : v1.cell? ⟨w.heap.size + 1, 2, none⟩ = some (.slice none 0 0) := (cell_of_row _ _ 2 _ 46 (0, 0) HBX1.out.2.1).trans rfl
  have f2 : v1.frozen? ⟨w.heap.size + 1, 2, none⟩ = false := frozen_of_row v1 _ 2 _ 46 HBX1.out.2.1
  have r3 : v1.cell? ⟨w.heap.size + 1, 3, none⟩ = some (.slice none 0 0) := (cell_of_row _ _ 3 _ 46 (0, 0) HBX1.out.2.1).trans rfl
  have f3 : v1.frozen? ⟨w.heap.size + 1, 3, none⟩ = false := frozen_of_row v1 _ 3 _ 46 HBX1.out.2.1
  clear hk1 hb1
  go_wp2_with fail
  try simp only [Exit.inBlock, Exit.then]
  have T0 : Touch (w.heap.size + 1 + 1) (w.heap.size + 1 + 1 + 1) v1 (v1.setCell ⟨w.heap.size + 1 + 1, 3, none⟩ (.slice p1 n1 n1)) := touch_set1 v1 (w.heap.size + 1 + 1) _ _
  have T1 : Touch (w.heap.size + 1) (w.heap.size + 3) v1 (v1.setCell ⟨w.heap.size + 1 + 1, 3, none⟩ (.slice p1 n1 n1)) := T0.mono (by omega) (by omega)
  have T2 : Touch (w.heap.size + 1) (w.heap.size + 3) v1 (putLf (v1.setCell ⟨w.heap.size + 1 + 1, 3, none⟩ (.slice p1 n1 n1)) (w.heap.size + 1) (.int .i64 x.v) (.int .i64 x.e) (.slice p0 n0 n0) (.slice p1 n1 n1)) := T1.trans ((putLf_touch _ (w.heap.size + 1) _ _ _ _).mono (by omega) (by omega))
  refine bodyPost_ret (results_Lf rfl _ (w.heap.size + 1) rfl _ _ _ _ _ (putLf_heap (touch_kept T0 HBX1.out.2.1 (by omega)) _ _ _ _)) rfl ⟨p0, p1, rfl, (HK0.out.touch T2 (Nat.le_refl _)).mono (by omega), (HK1.out.touch T2 (Nat.le_refl _)).mono (by omega), hw1.trans (T2.below (by omega) (by omega))⟩

end Go.Proofs.YtglpbgebcpijaaaGreat

