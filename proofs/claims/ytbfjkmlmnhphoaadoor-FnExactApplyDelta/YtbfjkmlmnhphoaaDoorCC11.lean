import Derived.Test.YtbfjkmlmnhphoaaDoorCC10
import Derived.Test.YtbfjkmlmnhphoaaDoorCO16
set_option linter.unusedVariables false
namespace Go.Proofs.YtbfjkmlmnhphoaaDoor
open Go.RowKit Go.Sort

/-- The list of changes, ahead of its signature's being struck. -/
def dlV (x y : CP) : CP := ⟨y.parts, y.num, x.num, y.tm, y.next, y.scope, y.ind, chgs x.ents y.ents y.tm, y.sig⟩
theorem chA_mem (xs ys : List GP) : ∀ k, ∀ z ∈ chA xs ys k, ∃ j, j < k ∧ z = ys.getD j default
  | 0, z, h => by cases h
  | k + 1, z, h => by
    unfold chA at h
    rcases List.mem_append.1 h with h | h
    · obtain ⟨j, hj, e⟩ := chA_mem xs ys k z h
      exact ⟨j, by omega, e⟩
    · split at h
      · cases h
      · exact ⟨k, by omega, by simpa using h⟩
theorem chB_mem (xs ys : List GP) (tm : Int) : ∀ k, ∀ z ∈ chB xs ys tm k, ∃ j, j < k ∧ z = outE tm (xs.getD j default)
  | 0, z, h => by cases h
  | k + 1, z, h => by
    unfold chB at h
    rcases List.mem_append.1 h with h | h
    · obtain ⟨j, hj, e⟩ := chB_mem xs ys tm k z h
      exact ⟨j, by omega, e⟩
    · split at h
      · cases h
      · exact ⟨k, by omega, by simpa using h⟩
theorem chgs_ok {xs ys : List GP} {tm : Int} (hx : ∀ k, k < xs.length → GpOk (xs.getD k default)) (hy : ∀ k, k < ys.length → GpOk (ys.getD k default)) (k : Nat) (hk : k < (chgs xs ys tm).length) : GpOk ((chgs xs ys tm).getD k default) := by
  have hm : (chgs xs ys tm).getD k default ∈ chgs xs ys tm := by
    rw [List.getD_eq_getElem?_getD, List.getElem?_eq_getElem hk]
    exact List.getElem_mem hk
  rcases List.mem_append.1 hm with h | h
  · obtain ⟨j, hj, e⟩ := chA_mem _ _ _ _ h
    rw [e]; exact hy j hj
  · obtain ⟨j, hj, e⟩ := chB_mem _ _ _ _ _ h
    rw [e]; exact hx j hj
theorem chgs_len (xs ys : List GP) (tm : Int) : (chgs xs ys tm).length ≤ ys.length + xs.length := by
  have h1 := chA_len xs ys ys.length
  have h2 := chB_len xs ys tm xs.length
  unfold chgs
  rw [List.length_append]
  omega
theorem GsO.touch {w0 w w' : World} {B lo hi : Nat} {a : Option Addr} {k c : Nat} {zs : List GP} {sl : Nat → Sl} (h : GsO w0 B w a k c zs sl) (ht : Touch lo hi w w') (hd : hi ≤ B) : GsO w0 B w' a k c zs sl := ⟨h.len, owns_touchC h.row ht hd, h.pts⟩
def ChF (w0 : World) (R : Nat) (zs : List GP) (v : Value) (w : World) : Prop := ∃ p d sl, v = .slice p zs.length d ∧ GsO w0 R w p zs.length d zs sl
theorem ChF.kept {w0 : World} {R : Nat} {zs : List GP} {v : Value} {w w' : World} (h : ChF w0 R zs v w) (hb : Below w.heap.size w w') : ChF w0 R zs v w' := by
  obtain ⟨p, d, sl, e, h1⟩ := h
  exact ⟨p, d, sl, e, h1.below hb⟩
theorem ChF.touch {w0 : World} {R G : Nat} {zs : List GP} {v : Value} {w w' : World} (h : ChF w0 R zs v w) (hG : G < R) (ht : Touch G (G + 1) w w') : ChF w0 R zs v w' := by
  obtain ⟨p, d, sl, e, h1⟩ := h
  exact ⟨p, d, sl, e, h1.touch ht (by omega)⟩
/-- What is known of the region's slots. -/
def mdS (a1 : Option Addr) (n1 c1 : Nat) (a2 : Option Addr) (n2 c2 : Nat) (a3 : Option Addr) (n3 c3 : Nat) (x : CP) (b1 : Option Addr) (m1 d1 : Nat) (b2 : Option Addr) (m2 d2 : Nat) (b3 : Option Addr) (m3 d3 : Nat) (y : CP) (w0 : World) (G R : Nat) : RSpec where
  m := 9
  n := 9
  slots := [35, 36, 37, 38, 39, 40, 100006, 41, 100008]
  kills := [[], [], [], [], [], [], [], [], []]
  pres := [[], [], [], [], [2, 3], [], [], [], []]
  fact := fun k v w => match k with
    | 0 => v = .pointer (some ⟨w0.heap.size, 1, none⟩)
    | 1 => v = .int .i64 x.num
    | 2 => v = .agg #[.slice a1 n1 c1, .int .i64 x.num, .int .i64 x.base, .int .i64 x.tm, .int .i64 x.next, .int .i64 x.scope, .bool x.ind, .slice a2 n2 c2, .slice a3 n3 c3]
    | 3 => v = .agg #[.slice b1 m1 d1, .int .i64 y.num, .int .i64 y.base, .int .i64 y.tm, .int .i64 y.next, .int .i64 y.scope, .bool y.ind, .slice b2 m2 d2, .slice b3 m3 d3]
    | 4 => ChF w0 R (chgs x.ents y.ents y.tm) v w
    | 5 => v = .pointer (some ⟨G, 2, none⟩)
    | 7 => v = .pointer (some ⟨G, 7, none⟩)
    | _ => True
theorem mdS_stb (a1 : Option Addr) (n1 c1 : Nat) (a2 : Option Addr) (n2 c2 : Nat) (a3 : Option Addr) (n3 c3 : Nat) (x : CP) (b1 : Option Addr) (m1 d1 : Nat) (b2 : Option Addr) (m2 d2 : Nat) (b3 : Option Addr) (m3 d3 : Nat) (y : CP) (w0 : World) (G R : Nat) (k : Nat) (hk : k < 9) : StB ((mdS a1 n1 c1 a2 n2 c2 a3 n3 c3 x b1 m1 d1 b2 m2 d2 b3 m3 d3 y w0 G R).fact k) := by
  match k, hk with
  | 0, _ => exact fun _ _ _ h _ => h
  | 1, _ => exact fun _ _ _ h _ => h
  | 2, _ => exact fun _ _ _ h _ => h
  | 3, _ => exact fun _ _ _ h _ => h
  | 4, _ => exact fun _ _ _ h hb => h.kept hb
  | 5, _ => exact fun _ _ _ h _ => h
  | 6, _ => exact fun _ _ _ h _ => h
  | 7, _ => exact fun _ _ _ h _ => h
  | 8, _ => exact fun _ _ _ h _ => h
  | k + 9, hk => omega
theorem mdS_st (a1 : Option Addr) (n1 c1 : Nat) (a2 : Option Addr) (n2 c2 : Nat) (a3 : Option Addr) (n3 c3 : Nat) (x : CP) (b1 : Option Addr) (m1 d1 : Nat) (b2 : Option Addr) (m2 d2 : Nat) (b3 : Option Addr) (m3 d3 : Nat) (y : CP) (w0 : World) (G R : Nat) (hG : G < R) {W W2 : World} (ht : Touch G (G + 1) W W2) (k : Nat) (hk : k < 9) (v : Value) (hf : (mdS a1 n1 c1 a2 n2 c2 a3 n3 c3 x b1 m1 d1 b2 m2 d2 b3 m3 d3 y w0 G R).fact k v W) : (mdS a1 n1 c1 a2 n2 c2 a3 n3 c3 x b1 m1 d1 b2 m2 d2 b3 m3 d3 y w0 G R).fact k v W2 := by
  match k, hk, hf with
  | 0, _, h => exact h
  | 1, _, h => exact h
  | 2, _, h => exact h
  | 3, _, h => exact h
  | 4, _, h => exact h.touch hG ht
  | 5, _, h => exact h
  | 6, _, h => exact h
  | 7, _, h => exact h
  | 8, _, h => exact h
  | k + 9, hk, _ => omega
/-- The box. -/
structure MdJ (a1 : Option Addr) (n1 c1 : Nat) (a2 : Option Addr) (n2 c2 : Nat) (a3 : Option Addr) (n3 c3 : Nat) (x : CP) (b1 : Option Addr) (m1 d1 : Nat) (b2 : Option Addr) (m2 d2 : Nat) (b3 : Option Addr) (m3 d3 : Nat) (y : CP) (w0 : World) (G R : Nat) (l : Nat → Bool) (a : Act) (w : World) : Prop where
  box : ∃ u2 u7, w.heap[G]? = some (.cells #[.slice b1 m1 d1, .int .i64 y.num, u2, .int .i64 y.tm, .int .i64 y.next, .int .i64 y.scope, .bool y.ind, u7, .slice b3 m3 d3] 36 (0, 0)) ∧ (l 6 = true → u2 = .int .i64 x.num) ∧ (l 8 = true → aT a 39 = u7)
  e8 : l 8 = true → l 4 = true
theorem MdJ.put {a1 : Option Addr} {n1 c1 : Nat} {a2 : Option Addr} {n2 c2 : Nat} {a3 : Option Addr} {n3 c3 : Nat} {x : CP} {b1 : Option Addr} {m1 d1 : Nat} {b2 : Option Addr} {m2 d2 : Nat} {b3 : Option Addr} {m3 d3 : Nat} {y : CP} {w0 : World} {G R : Nat} {l : Nat → Bool} {a : Act} {w w' : World} (h : MdJ a1 n1 c1 a2 n2 c2 a3 n3 c3 x b1 m1 d1 b2 m2 d2 b3 m3 d3 y w0 G R l a w) (k t : Nat) (v : Value) (hk : k ≠ 4 ∧ k ≠ 6 ∧ k ≠ 8) (ht : t ≠ 39) (hb : Below w.heap.size w w') : MdJ a1 n1 c1 a2 n2 c2 a3 n3 c3 x b1 m1 d1 b2 m2 d2 b3 m3 d3 y w0 G R (upd l k) (a.put (some t) v) w' := by
  obtain ⟨k4, k6, k8⟩ := hk
  refine ⟨?_, fun e => ?_⟩
  · obtain ⟨u2, u7, hx, i1, i2⟩ := h.box
    refine ⟨u2, u7, below_kept hx hb, ?_, ?_⟩
    · rw [upd_ne k6.symm]; exact i1
    · rw [upd_ne k8.symm, aT_put_ne ht]; exact i2
  · rw [upd_ne k8.symm] at e
    exact upd_mono (h.e8 e)
theorem MdJ.call4 {a1 : Option Addr} {n1 c1 : Nat} {a2 : Option Addr} {n2 c2 : Nat} {a3 : Option Addr} {n3 c3 : Nat} {x : CP} {b1 : Option Addr} {m1 d1 : Nat} {b2 : Option Addr} {m2 d2 : Nat} {b3 : Option Addr} {m3 d3 : Nat} {y : CP} {w0 : World} {G R : Nat} {l : Nat → Bool} {a : Act} {w w' : World} (h : MdJ a1 n1 c1 a2 n2 c2 a3 n3 c3 x b1 m1 d1 b2 m2 d2 b3 m3 d3 y w0 G R l a w) (v : Value) (hun : l 4 = false) (hb : Below w.heap.size w w') : MdJ a1 n1 c1 a2 n2 c2 a3 n3 c3 x b1 m1 d1 b2 m2 d2 b3 m3 d3 y w0 G R (upd l 4) (a.put (some 39) v) w' := by
  have hs : l 8 = false := unC (fun e => by have h1 := h.e8 e; rw [hun] at h1; cases h1)
  refine ⟨?_, fun e => upd_same _ _⟩
  obtain ⟨u2, u7, hx, i1, i2⟩ := h.box
  refine ⟨u2, u7, below_kept hx hb, ?_, ?_⟩
  · rw [upd_ne (by decide)]; exact i1
  · rw [upd_ne (by decide)]; intro e; rw [hs] at e; cases e
theorem MdJ.store6 {a1 : Option Addr} {n1 c1 : Nat} {a2 : Option Addr} {n2 c2 : Nat} {a3 : Option Addr} {n3 c3 : Nat} {x : CP} {b1 : Option Addr} {m1 d1 : Nat} {b2 : Option Addr} {m2 d2 : Nat} {b3 : Option Addr} {m3 d3 : Nat} {y : CP} {w0 : World} {G R : Nat} {l : Nat → Bool} {a : Act} {w w' : World} (h : MdJ a1 n1 c1 a2 n2 c2 a3 n3 c3 x b1 m1 d1 b2 m2 d2 b3 m3 d3 y w0 G R l a w)
    (hw : ∀ u2 u7, w.heap[G]? = some (.cells #[.slice b1 m1 d1, .int .i64 y.num, u2, .int .i64 y.tm, .int .i64 y.next, .int .i64 y.scope, .bool y.ind, u7, .slice b3 m3 d3] 36 (0, 0)) → w'.heap[G]? = some (.cells #[.slice b1 m1 d1, .int .i64 y.num, .int .i64 x.num, .int .i64 y.tm, .int .i64 y.next, .int .i64 y.scope, .bool y.ind, u7, .slice b3 m3 d3] 36 (0, 0))) : MdJ a1 n1 c1 a2 n2 c2 a3 n3 c3 x b1 m1 d1 b2 m2 d2 b3 m3 d3 y w0 G R (upd l 6) (a.put none undef) w' := by
  obtain ⟨u2, u7, hx, i1, i2⟩ := h.box
  refine ⟨⟨.int .i64 x.num, u7, hw u2 u7 hx, fun _ => rfl, ?_⟩, fun e => ?_⟩
  · rw [upd_ne (by decide)]; exact i2
  · rw [upd_ne (by decide)] at e
    exact upd_mono (h.e8 e)
theorem MdJ.store8 {a1 : Option Addr} {n1 c1 : Nat} {a2 : Option Addr} {n2 c2 : Nat} {a3 : Option Addr} {n3 c3 : Nat} {x : CP} {b1 : Option Addr} {m1 d1 : Nat} {b2 : Option Addr} {m2 d2 : Nat} {b3 : Option Addr} {m3 d3 : Nat} {y : CP} {w0 : World} {G R : Nat} {l : Nat → Bool} {a : Act} {w w' : World} (h : MdJ a1 n1 c1 a2 n2 c2 a3 n3 c3 x b1 m1 d1 b2 m2 d2 b3 m3 d3 y w0 G R l a w) (p : Value) (hv : aT a 39 = p) (hl : l 4 = true)
    (hw : ∀ u2 u7, w.heap[G]? = some (.cells #[.slice b1 m1 d1, .int .i64 y.num, u2, .int .i64 y.tm, .int .i64 y.next, .int .i64 y.scope, .bool y.ind, u7, .slice b3 m3 d3] 36 (0, 0)) → w'.heap[G]? = some (.cells #[.slice b1 m1 d1, .int .i64 y.num, u2, .int .i64 y.tm, .int .i64 y.next, .int .i64 y.scope, .bool y.ind, p, .slice b3 m3 d3] 36 (0, 0))) : MdJ a1 n1 c1 a2 n2 c2 a3 n3 c3 x b1 m1 d1 b2 m2 d2 b3 m3 d3 y w0 G R (upd l 8) (a.put none undef) w' := by
  obtain ⟨u2, u7, hx, i1, i2⟩ := h.box
  refine ⟨⟨u2, p, hw u2 u7 hx, ?_, fun _ => hv⟩, fun e => upd_mono hl⟩
  rw [upd_ne (by decide)]; exact i1

/-- When there is something to tell. -/
def OkP (x y : CP) : Prop := crlP x ∧ crlP y ∧ x.base = -1 ∧ y.base = -1
def MdQ (x y : CP) (m1 : Nat) (w : World) (e : Ending) (w' : World) : Prop :=
  (¬ OkP x y ∧ e = .returned (.tuple #[crv none 0 0 none 0 0 none 0 0 zeroC, .int .i64 1]) ∧ Below w.heap.size w w') ∨ (OkP x y ∧ fitV x y ≠ 0 ∧ e = .returned (.tuple #[crv none 0 0 none 0 0 none 0 0 zeroC, .int .i64 (fitV x y)]) ∧ Below w.heap.size w w') ∨ (OkP x y ∧ fitV x y = 0 ∧ UnsQ w m1 (chgs x.ents y.ents y.tm).length (dlV x y) e w')

set_option maxRecDepth 10000 in
set_option maxHeartbeats 8000000 in
theorem implMakeDelta_any (a1 : Option Addr) (n1 c1 : Nat) (a2 : Option Addr) (n2 c2 : Nat) (a3 : Option Addr) (n3 c3 : Nat) (x : CP) (b1 : Option Addr) (m1 d1 : Nat) (b2 : Option Addr) (m2 d2 : Nat) (b3 : Option Addr) (m3 d3 : Nat) (y : CP) (w : World) (htab : Lib.TabIs Tryd.prog w "internal/strconv.uint64pow10" .u64 Lib.pow10Tab) (h : Crs w a1 n1 a2 n2 a3 n3 x) (h' : Crs w b1 m1 b2 m2 b3 m3 y) (hz : CpOk n1 n2 n3 x) (hz' : CpOk m1 m2 m3 y)
    (hsc : -9223372036854775808 ≤ x.scope ∧ x.scope ≤ 9223372036854775807) (hsc' : -9223372036854775808 ≤ y.scope ∧ y.scope ≤ 9223372036854775807) (hn1 : b1 = none → d1 = 0)
    (hc : ∀ k, k < n2 → ∀ b off an nn cn, a2 = some ⟨b, off, none⟩ → w.cell? ⟨b, off + k * 4, none⟩ = some (.slice an nn cn) → (an = none → cn = 0) ∧ nn ≤ 1048576)
    (hc' : ∀ k, k < m2 → ∀ b off an nn cn, b2 = some ⟨b, off, none⟩ → w.cell? ⟨b, off + k * 4, none⟩ = some (.slice an nn cn) → (an = none → cn = 0) ∧ nn ≤ 1048576) :
    Calls Tryd.prog 13 #[crv a1 n1 c1 a2 n2 c2 a3 n3 c3 x, crv b1 m1 d1 b2 m2 d2 b3 m3 d3 y] w fun e w' => MdQ x y m1 w e w' := by
  obtain ⟨w1, hw1⟩ : ∃ w1, w1 = ((w.alloc (.cells #[.slice a1 n1 c1, .int .i64 x.num, .int .i64 x.base, .int .i64 x.tm, .int .i64 x.next, .int .i64 x.scope, .bool x.ind, .slice a2 n2 c2, .slice a3 n3 c3] 36)).alloc (.cells #[.slice b1 m1 d1, .int .i64 y.num, .int .i64 y.base, .int .i64 y.tm, .int .i64 y.next, .int .i64 y.scope, .bool y.ind, .slice b2 m2 d2, .slice b3 m3 d3] 36)).alloc (.cells #[.slice none 0 0, .int .i64 0, .int .i64 0, .int .i64 0, .int .i64 0, .int .i64 0, .bool false, .slice none 0 0, .slice none 0 0] 36) := ⟨_, rfl⟩
  have hbb : Below w.heap.size w w1 := by rw [hw1]; exact (((Below.refl _ _).alloc (Nat.le_refl _) _).alloc (by simp) _).alloc (by simp; omega) _
  have hB1 := three_blocks' w (.cells #[.slice a1 n1 c1, .int .i64 x.num, .int .i64 x.base, .int .i64 x.tm, .int .i64 x.next, .int .i64 x.scope, .bool x.ind, .slice a2 n2 c2, .slice a3 n3 c3] 36) (.cells #[.slice b1 m1 d1, .int .i64 y.num, .int .i64 y.base, .int .i64 y.tm, .int .i64 y.next, .int .i64 y.scope, .bool y.ind, .slice b2 m2 d2, .slice b3 m3 d3] 36) (.cells #[.slice none 0 0, .int .i64 0, .int .i64 0, .int .i64 0, .int .i64 0, .int .i64 0, .bool false, .slice none 0 0, .slice none 0 0] 36)
  rw [← hw1] at hB1
  have hs1 : w1.heap.size = w.heap.size + 3 := by rw [hw1]; simp
  have HK : Hid (∀ W, Below w1.heap.size w1 W → W.heap[w.heap.size]? = some (.cells #[.slice a1 n1 c1, .int .i64 x.num, .int .i64 x.base, .int .i64 x.tm, .int .i64 x.next, .int .i64 x.scope, .bool x.ind, .slice a2 n2 c2, .slice a3 n3 c3] 36 (0, 0)) ∧ W.heap[w.heap.size + 1]? = some (.cells #[.slice b1 m1 d1, .int .i64 y.num, .int .i64 y.base, .int .i64 y.tm, .int .i64 y.next, .int .i64 y.scope, .bool y.ind, .slice b2 m2 d2, .slice b3 m3 d3] 36 (0, 0)) ∧ W.heap[w.heap.size + 2]? = some (.cells #[.slice none 0 0, .int .i64 0, .int .i64 0, .int .i64 0, .int .i64 0, .int .i64 0, .bool false, .slice none 0 0, .slice none 0 0] 36 (0, 0))) := fun W hb => ⟨(hb.block _ (by omega)).trans hB1.1, (hb.block _ (by omega)).trans hB1.2.1, (hb.block _ (by omega)).trans hB1.2.2⟩
  have HA : Hid (Crs w a1 n1 a2 n2 a3 n3 x ∧ CpOk n1 n2 n3 x) := ⟨h, hz⟩
  have HB : Hid (Crs w b1 m1 b2 m2 b3 m3 y ∧ CpOk m1 m2 m3 y) := ⟨h', hz'⟩
  have HSC : Hid ((-9223372036854775808 ≤ x.scope ∧ x.scope ≤ 9223372036854775807) ∧ (-9223372036854775808 ≤ y.scope ∧ y.scope ≤ 9223372036854775807)) := ⟨hsc, hsc'⟩
  have HN1 : Hid (b1 = none → d1 = 0) := hn1
  have HCA : Hid (∀ k, k < n2 → ∀ b off an nn cn, a2 = some ⟨b, off, none⟩ → w.cell? ⟨b, off + k * 4, none⟩ = some (.slice an nn cn) → (an = none → cn = 0) ∧ nn ≤ 1048576) := hc
  have HCB : Hid (∀ k, k < m2 → ∀ b off an nn cn, b2 = some ⟨b, off, none⟩ → w.cell? ⟨b, off + k * 4, none⟩ = some (.slice an nn cn) → (an = none → cn = 0) ∧ nn ≤ 1048576) := hc'
  have HT : Hid (∀ W, Below w.heap.size w W → Lib.TabIs Tryd.prog W "internal/strconv.uint64pow10" .u64 Lib.pow10Tab) := fun W hW => Lib.tabBelow_of_tabIs htab W hW
  have HBW : Hid (Below w.heap.size w w1) := hbb
  have HS1 : Hid (_ = _) := hs1
  have HW : Hid (_ = _) := hw1
  clear hw1 hB1 hbb hs1 h h' hz hz' hsc hsc' hn1 hc hc' htab
  have COX : ∀ W, Below w1.heap.size w1 W → _ := fun W hb => implCrlOk_any a1 n1 c1 a2 n2 c2 a3 n3 c3 x W (HT.out W (HBW.out.trans (hb.mono HBW.out.size))) (HA.out.1.kept (HBW.out.trans (hb.mono HBW.out.size))) HA.out.2 HSC.out.1
  have COY : ∀ W, Below w1.heap.size w1 W → _ := fun W hb => implCrlOk_any b1 m1 d1 b2 m2 d2 b3 m3 d3 y W (HT.out W (HBW.out.trans (hb.mono HBW.out.size))) (HB.out.1.kept (HBW.out.trans (hb.mono HBW.out.size))) HB.out.2 HSC.out.2
  have FCX : ∀ W, _ := fun W => isFull_any a1 n1 c1 a2 n2 c2 a3 n3 c3 x W
  have FCY : ∀ W, _ := fun W => isFull_any b1 m1 d1 b2 m2 d2 b3 m3 d3 y W
  have FLW : ∀ W, Below w1.heap.size w1 W → _ := fun W hb => followCode_any a1 n1 c1 a2 n2 c2 a3 n3 c3 x b1 m1 d1 b2 m2 d2 b3 m3 d3 y W (HA.out.1.kept (HBW.out.trans (hb.mono HBW.out.size))).nm (HB.out.1.kept (HBW.out.trans (hb.mono HBW.out.size))).nm HA.out.2.2.1 HB.out.2.2.1
  have CHG : OkP x y → ∀ W, Below w1.heap.size w1 W → _ := fun hok W hb => changesOf_any a1 n1 c1 a2 n2 c2 a3 n3 c3 x b1 m1 d1 b2 m2 d2 b3 m3 d3 y w W (HBW.out.trans (hb.mono HBW.out.size)) (HT.out W (HBW.out.trans (hb.mono HBW.out.size))) HA.out.1.en HB.out.1.en (by have := hok.1.1.2.2.2.2.2.2.2.1; rw [HA.out.1.en.len] at this; omega) (by have := hok.2.1.1.2.2.2.2.2.2.2.1; rw [HB.out.1.en.len] at this; omega) (fun k hk => ⟨entP_name (hok.1.2.1 k (by rw [HA.out.1.en.len]; exact hk)), entP_wf (hok.1.2.1 k (by rw [HA.out.1.en.len]; exact hk))⟩) (fun k hk => ⟨entP_name (hok.2.1.2.1 k (by rw [HB.out.1.en.len]; exact hk)), entP_wf (hok.2.1.2.1 k (by rw [HB.out.1.en.len]; exact hk))⟩) (fun i k hi hk e => hok.2.1.2.2 i k (by rw [HB.out.1.en.len]; exact hi) hk ((kb_like (hok.2.1.2.1 k (by rw [HB.out.1.en.len]; omega)) (hok.2.1.2.1 i (by rw [HB.out.1.en.len]; exact hi))).1 e)) HCA.out HCB.out
  unfold crv at COX COY FCX FCY FLW CHG
  have HOX : Hid (_) := COX
  have HOY : Hid (_) := COY
  have HFX : Hid (_) := FCX
  have HFY : Hid (_) := FCY
  have HFL : Hid (_) := FLW
  have HCG : Hid (_) := CHG
  clear COX COY FCX FCY FLW CHG
  unfold crv
  go_enter Tryd.func13, Tryd.ntmps13
  go_upto_region 1 with fail
  rw [← HW.out]
  clear HW
  go_cut [25] (fun c wx => ∃ bq : Bool, c = .bool bq ∧ Hid ((bq = false ↔ OkP x y) ∧ Below w1.heap.size w1 wx))
  case first =>
    go_wp2_with (refine wpList_load_row rfl 36 _ rfl (w.heap.size) rfl 36 #[.slice a1 n1 c1, .int .i64 x.num, .int .i64 x.base, .int .i64 x.tm, .int .i64 x.next, .int .i64 x.scope, .bool x.ind, .slice a2 n2 c2, .slice a3 n3 c3] (0, 0) _ (HK.out _ (Below.refl _ _)).1 Tryd.underlying36 rfl infoSizeCrl ?_)
    refine Calls.mono (HOX.out w1 (Below.refl _ _)) ?_
    rintro e w2 ⟨e1, rfl, hp1, hb2⟩
    cases e1 with
    | false =>
      go_wp2_with fail
      go_meet
      exact ⟨true, rfl, ⟨⟨fun e => (by cases e), fun e => absurd (hp1.out.2 e.1) (by decide)⟩, hb2⟩⟩
    | true =>
      have p0 : w2.cell? ⟨w.heap.size + 1, 0, none⟩ = some (.slice b1 m1 d1) := (cell_of_row _ _ 0 _ _ (0, 0) (HK.out _ hb2).2.1).trans rfl
      have p1 : w2.cell? ⟨w.heap.size + 1, 1, none⟩ = some (.int .i64 y.num) := (cell_of_row _ _ 1 _ _ (0, 0) (HK.out _ hb2).2.1).trans rfl
      have p2 : w2.cell? ⟨w.heap.size + 1, 2, none⟩ = some (.int .i64 y.base) := (cell_of_row _ _ 2 _ _ (0, 0) (HK.out _ hb2).2.1).trans rfl
      have p3 : w2.cell? ⟨w.heap.size + 1, 3, none⟩ = some (.int .i64 y.tm) := (cell_of_row _ _ 3 _ _ (0, 0) (HK.out _ hb2).2.1).trans rfl
      have p4 : w2.cell? ⟨w.heap.size + 1, 4, none⟩ = some (.int .i64 y.next) := (cell_of_row _ _ 4 _ _ (0, 0) (HK.out _ hb2).2.1).trans rfl
      have p5 : w2.cell? ⟨w.heap.size + 1, 5, none⟩ = some (.int .i64 y.scope) := (cell_of_row _ _ 5 _ _ (0, 0) (HK.out _ hb2).2.1).trans rfl
      have p6 : w2.cell? ⟨w.heap.size + 1, 6, none⟩ = some (.bool y.ind) := (cell_of_row _ _ 6 _ _ (0, 0) (HK.out _ hb2).2.1).trans rfl
      have p7 : w2.cell? ⟨w.heap.size + 1, 7, none⟩ = some (.slice b2 m2 d2) := (cell_of_row _ _ 7 _ _ (0, 0) (HK.out _ hb2).2.1).trans rfl
      have p8 : w2.cell? ⟨w.heap.size + 1, 8, none⟩ = some (.slice b3 m3 d3) := (cell_of_row _ _ 8 _ _ (0, 0) (HK.out _ hb2).2.1).trans rfl
      go_wp2_with fail
      clear p0 p1 p2 p3 p4 p5 p6 p7 p8
      refine Calls.mono (HOY.out w2 hb2) ?_
      rintro e w3 ⟨e2, rfl, hp2, hb3⟩
      have hb3r := hb2.trans (hb3.mono hb2.size)
      cases e2 with
      | false =>
        go_wp2_with fail
        go_meet
        exact ⟨true, rfl, ⟨⟨fun e => (by cases e), fun e => absurd (hp2.out.2 e.2.1) (by decide)⟩, hb3r⟩⟩
      | true =>
        have p0 : w3.cell? ⟨w.heap.size, 0, none⟩ = some (.slice a1 n1 c1) := (cell_of_row _ _ 0 _ _ (0, 0) (HK.out _ hb3r).1).trans rfl
        have p1 : w3.cell? ⟨w.heap.size, 1, none⟩ = some (.int .i64 x.num) := (cell_of_row _ _ 1 _ _ (0, 0) (HK.out _ hb3r).1).trans rfl
        have p2 : w3.cell? ⟨w.heap.size, 2, none⟩ = some (.int .i64 x.base) := (cell_of_row _ _ 2 _ _ (0, 0) (HK.out _ hb3r).1).trans rfl
        have p3 : w3.cell? ⟨w.heap.size, 3, none⟩ = some (.int .i64 x.tm) := (cell_of_row _ _ 3 _ _ (0, 0) (HK.out _ hb3r).1).trans rfl
        have p4 : w3.cell? ⟨w.heap.size, 4, none⟩ = some (.int .i64 x.next) := (cell_of_row _ _ 4 _ _ (0, 0) (HK.out _ hb3r).1).trans rfl
        have p5 : w3.cell? ⟨w.heap.size, 5, none⟩ = some (.int .i64 x.scope) := (cell_of_row _ _ 5 _ _ (0, 0) (HK.out _ hb3r).1).trans rfl
        have p6 : w3.cell? ⟨w.heap.size, 6, none⟩ = some (.bool x.ind) := (cell_of_row _ _ 6 _ _ (0, 0) (HK.out _ hb3r).1).trans rfl
        have p7 : w3.cell? ⟨w.heap.size, 7, none⟩ = some (.slice a2 n2 c2) := (cell_of_row _ _ 7 _ _ (0, 0) (HK.out _ hb3r).1).trans rfl
        have p8 : w3.cell? ⟨w.heap.size, 8, none⟩ = some (.slice a3 n3 c3) := (cell_of_row _ _ 8 _ _ (0, 0) (HK.out _ hb3r).1).trans rfl
        go_wp2_with fail
        clear p0 p1 p2 p3 p4 p5 p6 p7 p8
        refine Calls.mono (HFX.out w3) ?_
        rintro e w4 ⟨rfl, hb4⟩
        have hb4r := hb3r.trans (hb4.mono hb3r.size)
        obtain ⟨f1, hf1⟩ : ∃ f1, f1 = (x.base == -1) := ⟨_, rfl⟩
        rw [← hf1]
        have HF1 : Hid (_ = _) := hf1
        clear hf1
        cases f1 with
        | false =>
          go_wp2_with fail
          go_meet
          exact ⟨true, rfl, ⟨⟨fun e => (by cases e), fun e => (by have q := HF1.out; rw [e.2.2.1] at q; exact absurd q (by decide))⟩, hb4r⟩⟩
        | true =>
          have p0 : w4.cell? ⟨w.heap.size + 1, 0, none⟩ = some (.slice b1 m1 d1) := (cell_of_row _ _ 0 _ _ (0, 0) (HK.out _ hb4r).2.1).trans rfl
          have p1 : w4.cell? ⟨w.heap.size + 1, 1, none⟩ = some (.int .i64 y.num) := (cell_of_row _ _ 1 _ _ (0, 0) (HK.out _ hb4r).2.1).trans rfl
          have p2 : w4.cell? ⟨w.heap.size + 1, 2, none⟩ = some (.int .i64 y.base) := (cell_of_row _ _ 2 _ _ (0, 0) (HK.out _ hb4r).2.1).trans rfl
          have p3 : w4.cell? ⟨w.heap.size + 1, 3, none⟩ = some (.int .i64 y.tm) := (cell_of_row _ _ 3 _ _ (0, 0) (HK.out _ hb4r).2.1).trans rfl
          have p4 : w4.cell? ⟨w.heap.size + 1, 4, none⟩ = some (.int .i64 y.next) := (cell_of_row _ _ 4 _ _ (0, 0) (HK.out _ hb4r).2.1).trans rfl
          have p5 : w4.cell? ⟨w.heap.size + 1, 5, none⟩ = some (.int .i64 y.scope) := (cell_of_row _ _ 5 _ _ (0, 0) (HK.out _ hb4r).2.1).trans rfl
          have p6 : w4.cell? ⟨w.heap.size + 1, 6, none⟩ = some (.bool y.ind) := (cell_of_row _ _ 6 _ _ (0, 0) (HK.out _ hb4r).2.1).trans rfl
          have p7 : w4.cell? ⟨w.heap.size + 1, 7, none⟩ = some (.slice b2 m2 d2) := (cell_of_row _ _ 7 _ _ (0, 0) (HK.out _ hb4r).2.1).trans rfl
          have p8 : w4.cell? ⟨w.heap.size + 1, 8, none⟩ = some (.slice b3 m3 d3) := (cell_of_row _ _ 8 _ _ (0, 0) (HK.out _ hb4r).2.1).trans rfl
          go_wp2_with fail
          clear p0 p1 p2 p3 p4 p5 p6 p7 p8
          refine Calls.mono (HFY.out w4) ?_
          rintro e w5 ⟨rfl, hb5⟩
          have hb5r := hb4r.trans (hb5.mono hb4r.size)
          obtain ⟨f2, hf2⟩ : ∃ f2, f2 = (y.base == -1) := ⟨_, rfl⟩
          rw [← hf2]
          have HF2 : Hid (_ = _) := hf2
          clear hf2
          cases f2 with
          | false =>
            go_wp2_with fail
            go_meet
            exact ⟨true, rfl, ⟨⟨fun e => (by cases e), fun e => (by have q := HF2.out; rw [e.2.2.2] at q; exact absurd q (by decide))⟩, hb5r⟩⟩
          | true =>
            go_wp2_with fail
            go_meet
            exact ⟨false, rfl, ⟨⟨fun _ => ⟨hp1.out.1 (by first | exact trivial | rfl), hp2.out.1 (by first | exact trivial | rfl), by simpa using HF1.out.symm, by simpa using HF2.out.symm⟩, fun _ => rfl⟩, hb5r⟩⟩
  case rest =>
  obtain ⟨bq, rfl, hbq⟩ := hcut
  cases bq with
  | true =>
    have HNO : Hid (¬ OkP x y) := fun e => absurd (hbq.out.1.2 e) (by decide)
    have HBX : Hid (Below w1.heap.size w1 wc) := hbq.out.2
    clear hbq
    go_wp2_with (refine wpList_store_rowTo rfl 36 _ _ rfl rfl (w.heap.size + 2) #[.slice none 0 0, .int .i64 0, .int .i64 0, .int .i64 0, .int .i64 0, .int .i64 0, .bool false, .slice none 0 0, .slice none 0 0] rfl rfl 36 #[.slice none 0 0, .int .i64 0, .int .i64 0, .int .i64 0, .int .i64 0, .int .i64 0, .bool false, .slice none 0 0, .slice none 0 0] (HK.out _ HBX.out).2.2 infoSizeCrl rfl (by simp [Value.oneCell']) ?_)
    have q6 := setRow_heap wc (w.heap.size + 2) _ #[.slice none 0 0, .int .i64 0, .int .i64 0, .int .i64 0, .int .i64 0, .int .i64 0, .bool false, .slice none 0 0, .slice none 0 0] 36 (0, 0) (HK.out _ HBX.out).2.2
    have tt := setRow_touch wc (w.heap.size + 2) #[.slice none 0 0, .int .i64 0, .int .i64 0, .int .i64 0, .int .i64 0, .int .i64 0, .bool false, .slice none 0 0, .slice none 0 0]
    try simp only [Exit.inBlock, Exit.then]
    have B3 := HBW.out.trans (HBX.out.mono HBW.out.size)
    exact bodyPost_ret (results_crl2 (by rfl) _ (w.heap.size + 2) rfl _ _ rfl q6) rfl (.inl ⟨HNO.out, rfl, B3.trans (tt.below (by omega) B3.size)⟩)
  | false =>
    have HOK : Hid (OkP x y) := hbq.out.1.1 rfl
    have HBX : Hid (Below w1.heap.size w1 wc) := hbq.out.2
    clear hbq
    go_wp2_with (first | (refine wpList_load_row rfl 36 _ rfl (w.heap.size) rfl 36 #[.slice a1 n1 c1, .int .i64 x.num, .int .i64 x.base, .int .i64 x.tm, .int .i64 x.next, .int .i64 x.scope, .bool x.ind, .slice a2 n2 c2, .slice a3 n3 c3] (0, 0) _ (HK.out _ HBX.out).1 Tryd.underlying36 rfl infoSizeCrl ?_) | (refine wpList_load_row rfl 36 _ rfl (w.heap.size + 1) rfl 36 #[.slice b1 m1 d1, .int .i64 y.num, .int .i64 y.base, .int .i64 y.tm, .int .i64 y.next, .int .i64 y.scope, .bool y.ind, .slice b2 m2 d2, .slice b3 m3 d3] (0, 0) _ (HK.out _ HBX.out).2.1 Tryd.underlying36 rfl infoSizeCrl ?_))
    refine Calls.mono (HFL.out wc HBX.out) ?_
    rintro e w6 ⟨rfl, hb6⟩
    have HB6 : Hid (Below w1.heap.size w1 w6) := HBX.out.trans (hb6.mono HBX.out.size)
    clear hb6
    by_cases hf : fitV x y = 0
    · have HF0 : Hid (fitV x y = 0) := hf
      have HCH : Hid (_) := HCG.out HOK.out
      rw [hf]
      clear hf
      obtain ⟨wb, hwb⟩ : ∃ wb, wb = w6.alloc (.cells #[.slice b1 m1 d1, .int .i64 y.num, .int .i64 y.base, .int .i64 y.tm, .int .i64 y.next, .int .i64 y.scope, .bool y.ind, .slice b2 m2 d2, .slice b3 m3 d3] 36) := ⟨_, rfl⟩
      have hsb : wb.heap.size = w6.heap.size + 1 := by rw [hwb]; simp
      have HGB : Hid (wb.heap[w6.heap.size]? = some (.cells #[.slice b1 m1 d1, .int .i64 y.num, .int .i64 y.base, .int .i64 y.tm, .int .i64 y.next, .int .i64 y.scope, .bool y.ind, .slice b2 m2 d2, .slice b3 m3 d3] 36 (0, 0))) := by show _ = _; rw [hwb]; exact heap_alloc_new w6 _
      have hbb6 : Below w6.heap.size w6 wb := by rw [hwb]; exact (Below.refl _ _).alloc (Nat.le_refl _) _
      have HBB6 : Hid (_) := hbb6
      have HS6 : Hid (w.heap.size + 3 ≤ w6.heap.size) := by have := HB6.out.size; have := HS1.out; show _ ≤ _; omega
      have HKG : Hid (∀ W, Below w6.heap.size wb W → Below w1.heap.size w1 W) := fun W hb => HB6.out.trans ((hbb6.trans hb).mono HB6.out.size)
      have HWB : Hid (_ = _) := hwb
      clear hwb hbb6
      go_upto_region 7 with (refine wpList_load_row rfl 36 _ rfl (w.heap.size + 1) rfl 36 #[.slice b1 m1 d1, .int .i64 y.num, .int .i64 y.base, .int .i64 y.tm, .int .i64 y.next, .int .i64 y.scope, .bool y.ind, .slice b2 m2 d2, .slice b3 m3 d3] (0, 0) _ (HK.out _ HB6.out).2.1 Tryd.underlying36 rfl infoSizeCrl ?_)
      rw [← HWB.out]
      clear HWB
      have HBB : w6.heap.size ≤ wb.heap.size := by omega
      have hGR : w6.heap.size < wb.heap.size := by omega
      refine wp_region_gj (fun a0 l a w2 => RI (mdS a1 n1 c1 a2 n2 c2 a3 n3 c3 x b1 m1 d1 b2 m2 d2 b3 m3 d3 y w w6.heap.size wb.heap.size) [35, 36, 37, 38, 39, 40, 41] w6.heap.size wb a0 l a w2 ∧ MdJ a1 n1 c1 a2 n2 c2 a3 n3 c3 x b1 m1 d1 b2 m2 d2 b3 m3 d3 y w w6.heap.size wb.heap.size l a w2 ∧ wb.heap.size ≤ w2.heap.size) (fun a0 => a0.tmps.size = 46 ∧ aT a0 2 = .pointer (some ⟨w.heap.size, 0, none⟩) ∧ aT a0 3 = .pointer (some ⟨w.heap.size + 1, 0, none⟩) ∧ aT a0 7 = .pointer (some ⟨w6.heap.size, 0, none⟩)) (by kernel_rfl) (by kernel_rfl) ⟨rfl, rfl, rfl, rfl⟩ ?_ ?_ ?_
      · intro a0 _ l hl0 hl1
        have h6 := hl0 6 (by decide)
        have h8 := hl0 8 (by decide)
        refine ⟨ri_start (Below.refl _ _).drew (fun k hl => ?_) hl1 rfl (fun k h1 h2 => absurd h1 (Nat.not_le.2 h2)), ⟨⟨_, _, HGB.out, (fun e => by rw [h6] at e; cases e), (fun e => by rw [h8] at e; cases e)⟩, (fun e => by rw [h8] at e; cases e)⟩, Nat.le_refl _⟩
        by_cases hk : k < 9
        · rw [hl0 k hk] at hl; cases hl
        · exact Nat.not_lt.1 hk
      · rintro a0 ⟨hz, g1, g2, g3⟩
        refine StepsG.cons ?_ (StepsG.cons ?_ (StepsG.cons ?_ (StepsG.cons ?_ (StepsG.cons ?_ (StepsG.cons ?_ (StepsG.cons ?_ (StepsG.cons ?_ (StepsG.cons ?_ StepsG.nil))))))))
        · rintro lQ b W ⟨hI, hJ, hS⟩ hUN hED KQ hKQ
          exact opw_field 36 2 1 rfl _ ((hI.fr.same 2 (by decide)).trans g1) _ (by kernel_rfl) (hKQ.out _ _ ⟨hI.put 0 35 rfl rfl (by rw [hz]; decide) rfl hUN rfl HBB (mdS_stb a1 n1 c1 a2 n2 c2 a3 n3 c3 x b1 m1 d1 b2 m2 d2 b3 m3 d3 y w w6.heap.size wb.heap.size) (Below.refl _ _) rfl, hJ.put 0 35 _ (by decide) (by decide) (Below.refl _ _), hS⟩)
        · rintro lQ b W ⟨hI, hJ, hS⟩ hUN hED KQ hKQ
          have f : aT b 35 = .pointer (some ⟨w.heap.size, 1, none⟩) := hI.got 0 (of_decide_eq_true rfl) (edge hED 0 (by kernel_rfl)) rfl
          have hc : W.cell? ⟨w.heap.size, 1, none⟩ = some (.int .i64 x.num) := (cell_of_row _ _ 1 _ _ (0, 0) (HK.out _ (HKG.out W hI.bel)).1).trans rfl
          exact opw_load1C 2 35 rfl _ f _ (by simp [Instr.loadAt, go_sem, hc]) (hKQ.out _ _ ⟨hI.put 1 36 rfl rfl (by rw [hz]; decide) rfl hUN rfl HBB (mdS_stb a1 n1 c1 a2 n2 c2 a3 n3 c3 x b1 m1 d1 b2 m2 d2 b3 m3 d3 y w w6.heap.size wb.heap.size) (Below.refl _ _) rfl, hJ.put 1 36 _ (by decide) (by decide) (Below.refl _ _), hS⟩)
        · rintro lQ b W ⟨hI, hJ, hS⟩ hUN hED KQ hKQ
          have hx := (HK.out _ (HKG.out W hI.bel)).1
          have hc : (Instr.loadAt 36 (.pointer (some ⟨w.heap.size, 0, none⟩))).run Tryd.prog W = .ok (.agg #[.slice a1 n1 c1, .int .i64 x.num, .int .i64 x.base, .int .i64 x.tm, .int .i64 x.next, .int .i64 x.scope, .bool x.ind, .slice a2 n2 c2, .slice a3 n3 c3]) W := run_loadVar_row (P := Tryd.prog) W (w.heap.size) 36 36 #[.slice a1 n1 c1, .int .i64 x.num, .int .i64 x.base, .int .i64 x.tm, .int .i64 x.next, .int .i64 x.scope, .bool x.ind, .slice a2 n2 c2, .slice a3 n3 c3] (0, 0) _ hx Tryd.underlying36 rfl infoSizeCrl
          exact opw_load1C 36 2 rfl _ ((hI.fr.same 2 (by decide)).trans g1) _ hc (hKQ.out _ _ ⟨hI.put 2 37 rfl rfl (by rw [hz]; decide) rfl hUN rfl HBB (mdS_stb a1 n1 c1 a2 n2 c2 a3 n3 c3 x b1 m1 d1 b2 m2 d2 b3 m3 d3 y w w6.heap.size wb.heap.size) (Below.refl _ _) rfl, hJ.put 2 37 _ (by decide) (by decide) (Below.refl _ _), hS⟩)
        · rintro lQ b W ⟨hI, hJ, hS⟩ hUN hED KQ hKQ
          have hx := (HK.out _ (HKG.out W hI.bel)).2.1
          have hc : (Instr.loadAt 36 (.pointer (some ⟨w.heap.size + 1, 0, none⟩))).run Tryd.prog W = .ok (.agg #[.slice b1 m1 d1, .int .i64 y.num, .int .i64 y.base, .int .i64 y.tm, .int .i64 y.next, .int .i64 y.scope, .bool y.ind, .slice b2 m2 d2, .slice b3 m3 d3]) W := run_loadVar_row (P := Tryd.prog) W (w.heap.size + 1) 36 36 #[.slice b1 m1 d1, .int .i64 y.num, .int .i64 y.base, .int .i64 y.tm, .int .i64 y.next, .int .i64 y.scope, .bool y.ind, .slice b2 m2 d2, .slice b3 m3 d3] (0, 0) _ hx Tryd.underlying36 rfl infoSizeCrl
          exact opw_load1C 36 3 rfl _ ((hI.fr.same 3 (by decide)).trans g2) _ hc (hKQ.out _ _ ⟨hI.put 3 38 rfl rfl (by rw [hz]; decide) rfl hUN rfl HBB (mdS_stb a1 n1 c1 a2 n2 c2 a3 n3 c3 x b1 m1 d1 b2 m2 d2 b3 m3 d3 y w w6.heap.size wb.heap.size) (Below.refl _ _) rfl, hJ.put 3 38 _ (by decide) (by decide) (Below.refl _ _), hS⟩)
        · rintro lQ b W ⟨hI, hJ, hS⟩ hUN hED KQ hKQ
          have f0 : aT b 37 = .agg #[.slice a1 n1 c1, .int .i64 x.num, .int .i64 x.base, .int .i64 x.tm, .int .i64 x.next, .int .i64 x.scope, .bool x.ind, .slice a2 n2 c2, .slice a3 n3 c3] := hI.got 2 (of_decide_eq_true rfl) (edge hED 2 (by kernel_rfl)) rfl
          have f1 : aT b 38 = .agg #[.slice b1 m1 d1, .int .i64 y.num, .int .i64 y.base, .int .i64 y.tm, .int .i64 y.next, .int .i64 y.scope, .bool y.ind, .slice b2 m2 d2, .slice b3 m3 d3] := hI.got 3 (of_decide_eq_true rfl) (edge hED 3 (by kernel_rfl)) rfl
          refine opw_call 48 #[.tmp 37, .tmp 38] _ _ _ rfl Tryd.func48 (by kernel_rfl) rfl #[.agg #[.slice a1 n1 c1, .int .i64 x.num, .int .i64 x.base, .int .i64 x.tm, .int .i64 x.next, .int .i64 x.scope, .bool x.ind, .slice a2 n2 c2, .slice a3 n3 c3], .agg #[.slice b1 m1 d1, .int .i64 y.num, .int .i64 y.base, .int .i64 y.tm, .int .i64 y.next, .int .i64 y.scope, .bool y.ind, .slice b2 m2 d2, .slice b3 m3 d3]] (by simp [ev, f0, f1]) ?_
          refine (HCH.out W (HKG.out W hI.bel)).mono ?_
          rintro e W2 ⟨p, k, dd, sl, rfl, hgs, hb⟩
          obtain rfl : (chgs x.ents y.ents y.tm).length = k := hgs.len
          have hbr : ChF w wb.heap.size (chgs x.ents y.ents y.tm) (.slice p (chgs x.ents y.ents y.tm).length dd) W2 := ⟨p, dd, sl, rfl, hgs.lower hS⟩
          exact ⟨_, rfl, hKQ.out _ _ ⟨hI.putq 4 39 (fun j hj => by rcases List.mem_cons.1 hj with rfl | hj; exact edge hED 2 (by kernel_rfl); rcases List.mem_singleton.1 hj with rfl; exact edge hED 3 (by kernel_rfl)) rfl (by rw [hz]; decide) rfl hUN rfl HBB (mdS_stb a1 n1 c1 a2 n2 c2 a3 n3 c3 x b1 m1 d1 b2 m2 d2 b3 m3 d3 y w w6.heap.size wb.heap.size) hb hbr, hJ.call4 _ hUN hb, Nat.le_trans hS hb.size⟩⟩
        · rintro lQ b W ⟨hI, hJ, hS⟩ hUN hED KQ hKQ
          exact opw_field 36 7 2 rfl _ ((hI.fr.same 7 (by decide)).trans g3) _ (by kernel_rfl) (hKQ.out _ _ ⟨hI.put 5 40 rfl rfl (by rw [hz]; decide) rfl hUN rfl HBB (mdS_stb a1 n1 c1 a2 n2 c2 a3 n3 c3 x b1 m1 d1 b2 m2 d2 b3 m3 d3 y w w6.heap.size wb.heap.size) (Below.refl _ _) rfl, hJ.put 5 40 _ (by decide) (by decide) (Below.refl _ _), hS⟩)
        · rintro lQ b W ⟨hI, hJ, hS⟩ hUN hED KQ hKQ
          have fp : aT b 40 = .pointer (some ⟨w6.heap.size, 2, none⟩) := hI.got 5 (of_decide_eq_true rfl) (edge hED 5 (by kernel_rfl)) rfl
          have f : aT b 36 = .int .i64 x.num := hI.got 1 (of_decide_eq_true rfl) (edge hED 1 (by kernel_rfl)) rfl
          obtain ⟨u2, u7, hgb, i1, i2⟩ := hJ.box
          have hcc : W.cell? ⟨w6.heap.size, 2, none⟩ = some u2 := (cell_of_row _ _ 2 _ _ (0, 0) hgb).trans rfl
          have hfz := frozen_of_row W _ 2 _ _ hgb
          refine opw_storeC 2 40 36 rfl ⟨w6.heap.size, 2, none⟩ _ fp f (W.setCell ⟨w6.heap.size, 2, none⟩ (.int .i64 x.num)) (by simp [Instr.storeAt, go_sem, hcc, hfz]) ?_
          have ht : Touch w6.heap.size (w6.heap.size + 1) W (W.setCell ⟨w6.heap.size, 2, none⟩ (.int .i64 x.num)) := touch_setC _ _ _ _ (Nat.le_refl _) (Nat.lt_succ_self _)
          exact hKQ.out _ _ ⟨hI.store 6 (fun j hj => by cases hj) (hI.bel.trans (ht.below (Nat.le_refl _) (Nat.le_trans HBB hI.bel.size))) (fun k hk _ _ v hf => mdS_st a1 n1 c1 a2 n2 c2 a3 n3 c3 x b1 m1 d1 b2 m2 d2 b3 m3 d3 y w w6.heap.size wb.heap.size hGR ht k hk v hf) trivial, hJ.store6 (fun u2 u7 hx => (heap_setCell_same W _ 2 _ _ _ hx).trans rfl), Nat.le_trans hS ht.size⟩
        · rintro lQ b W ⟨hI, hJ, hS⟩ hUN hED KQ hKQ
          exact opw_field 36 7 7 rfl _ ((hI.fr.same 7 (by decide)).trans g3) _ (by kernel_rfl) (hKQ.out _ _ ⟨hI.put 7 41 rfl rfl (by rw [hz]; decide) rfl hUN rfl HBB (mdS_stb a1 n1 c1 a2 n2 c2 a3 n3 c3 x b1 m1 d1 b2 m2 d2 b3 m3 d3 y w w6.heap.size wb.heap.size) (Below.refl _ _) rfl, hJ.put 7 41 _ (by decide) (by decide) (Below.refl _ _), hS⟩)
        · rintro lQ b W ⟨hI, hJ, hS⟩ hUN hED KQ hKQ
          have fp : aT b 41 = .pointer (some ⟨w6.heap.size, 7, none⟩) := hI.got 7 (of_decide_eq_true rfl) (edge hED 7 (by kernel_rfl)) rfl
          have fu := hI.got 4 (of_decide_eq_true rfl) (edge hED 4 (by kernel_rfl)) rfl
          obtain ⟨p, q, f⟩ : ∃ p q, aT b 39 = .slice p (chgs x.ents y.ents y.tm).length q := by
            obtain ⟨p, q, _, e, _⟩ := fu
            exact ⟨p, q, e⟩
          obtain ⟨u2, u7, hgb, i1, i2⟩ := hJ.box
          have hcc : W.cell? ⟨w6.heap.size, 7, none⟩ = some u7 := (cell_of_row _ _ 7 _ _ (0, 0) hgb).trans rfl
          have hfz := frozen_of_row W _ 7 _ _ hgb
          refine opw_storeC 34 41 39 rfl ⟨w6.heap.size, 7, none⟩ _ fp f (W.setCell ⟨w6.heap.size, 7, none⟩ (.slice p (chgs x.ents y.ents y.tm).length q)) (by simp [Instr.storeAt, go_sem, hcc, hfz]) ?_
          have ht : Touch w6.heap.size (w6.heap.size + 1) W (W.setCell ⟨w6.heap.size, 7, none⟩ (.slice p (chgs x.ents y.ents y.tm).length q)) := touch_setC _ _ _ _ (Nat.le_refl _) (Nat.lt_succ_self _)
          exact hKQ.out _ _ ⟨hI.store 8 (fun j hj => by cases hj) (hI.bel.trans (ht.below (Nat.le_refl _) (Nat.le_trans HBB hI.bel.size))) (fun k hk _ _ v hf => mdS_st a1 n1 c1 a2 n2 c2 a3 n3 c3 x b1 m1 d1 b2 m2 d2 b3 m3 d3 y w w6.heap.size wb.heap.size hGR ht k hk v hf) trivial, hJ.store8 (.slice p (chgs x.ents y.ents y.tm).length q) f (edge hED 4 (by kernel_rfl)) (fun u2 u7 hx => (heap_setCell_same W _ 7 _ _ _ hx).trans rfl), Nat.le_trans hS ht.size⟩
      · rintro l b W ⟨hI, hJ, hS⟩ hall
        obtain ⟨u2, u7, hbx, i1, i2⟩ := hJ.box
        obtain rfl := i1 (hall 6)
        obtain ⟨p, dd, sl, e1, hgs⟩ := hI.got 4 (of_decide_eq_true rfl) (hall 4) rfl
        have e2 := i2 (hall 8)
        have e1' : aT b 39 = .slice p (chgs x.ents y.ents y.tm).length dd := e1
        rw [e1'] at e2
        obtain rfl := e2
        have hbW := hI.bel
        have HBL : Hid (Below w1.heap.size w1 W) := HKG.out W hI.bel
        rw [hI.fr.eq]
        simp only [puts, Act.put, List.setIfInBounds_toArray, List.set_cons_zero, List.set_cons_succ]
        generalize aT b = AT
        have HX : Hid (W.heap[w6.heap.size]? = some (.cells #[.slice b1 m1 d1, .int .i64 y.num, .int .i64 x.num, .int .i64 y.tm, .int .i64 y.next, .int .i64 y.scope, .bool y.ind, .slice p (chgs x.ents y.ents y.tm).length dd, .slice b3 m3 d3] 36 (0, 0))) := hbx
        have HGS : Hid (GsO w wb.heap.size W p (chgs x.ents y.ents y.tm).length dd (chgs x.ents y.ents y.tm) sl) := hgs
        clear hI hJ hall hbx hgs i1 i2 e1 e1' hbW
        have HBW2 : Hid (Below w.heap.size w W) := HBW.out.trans (HBL.out.mono HBW.out.size)
        have HLE : Hid ((chgs x.ents y.ents y.tm).length ≤ 120) := by
          have q1 := chgs_len x.ents y.ents y.tm
          have q2 := HOK.out.1.1.2.2.2.2.2.2.2.1
          have q3 := HOK.out.2.1.1.2.2.2.2.2.2.2.1
          show _ ≤ _
          omega
        have UNS := unsigned_any b1 m1 d1 p (chgs x.ents y.ents y.tm).length dd b3 m3 d3 (dlV x y) W ⟨HB.out.1.nm.kept HBW2.out, HGS.out.gns HBW2.out (by have := HLE.out; omega), HB.out.1.sg.kept HBW2.out, HB.out.1.mx⟩ ⟨HB.out.2.1, HB.out.2.2.1, by have := HLE.out; omega, fun k hk => chgs_ok (fun k hk => HA.out.2.2.2.2.1 k (by rw [HA.out.1.en.len] at hk; exact hk)) (fun k hk => HB.out.2.2.2.2.1 k (by rw [HB.out.1.en.len] at hk; exact hk)) k hk, HB.out.2.2.2.2.2⟩ HN1.out HGS.out.caps
        unfold crv at UNS
        have HUN : Hid (_) := UNS
        have HBS : Hid (w.heap.size + 3 ≤ W.heap.size) := by have := HBL.out.size; have := HS1.out; show _ ≤ _; omega
        clear UNS HGS
        go_wp2_with (refine wpList_load_row rfl 36 _ rfl (w6.heap.size) rfl 36 #[.slice b1 m1 d1, .int .i64 y.num, .int .i64 x.num, .int .i64 y.tm, .int .i64 y.next, .int .i64 y.scope, .bool y.ind, .slice p (chgs x.ents y.ents y.tm).length dd, .slice b3 m3 d3] (0, 0) _ HX.out Tryd.underlying36 rfl infoSizeCrl ?_)
        refine Calls.mono HUN.out ?_
        rintro e w9 ⟨hb9, ⟨h60, rfl⟩ | ⟨h60, p1, d1', p2, d2', p3, d3', sl, rfl, hct, hoc⟩⟩
        · have HB9 : Hid (Below w1.heap.size w1 w9) := HBL.out.trans (hb9.mono HBL.out.size)
          have H60 : Hid (_) := h60
          clear hb9 h60
          simp only [crv, zeroC]
          go_wp2_with (refine wpList_store_rowTo rfl 36 _ _ rfl rfl (w.heap.size + 2) #[.slice none 0 0, .int .i64 0, .int .i64 0, .int .i64 0, .int .i64 0, .int .i64 0, .bool false, .slice none 0 0, .slice none 0 0] rfl rfl 36 #[.slice none 0 0, .int .i64 0, .int .i64 0, .int .i64 0, .int .i64 0, .int .i64 0, .bool false, .slice none 0 0, .slice none 0 0] (HK.out _ HB9.out).2.2 infoSizeCrl rfl (by simp [Value.oneCell']) ?_)
          have q6 := setRow_heap w9 (w.heap.size + 2) _ #[.slice none 0 0, .int .i64 0, .int .i64 0, .int .i64 0, .int .i64 0, .int .i64 0, .bool false, .slice none 0 0, .slice none 0 0] 36 (0, 0) (HK.out _ HB9.out).2.2
          have tt := setRow_touch w9 (w.heap.size + 2) #[.slice none 0 0, .int .i64 0, .int .i64 0, .int .i64 0, .int .i64 0, .int .i64 0, .bool false, .slice none 0 0, .slice none 0 0]
          try simp only [Exit.inBlock, Exit.then]
          have B3 := HBW.out.trans (HB9.out.mono HBW.out.size)
          exact bodyPost_ret (results_crl2 (by rfl) _ (w.heap.size + 2) rfl _ _ rfl q6) rfl (.inr (.inr ⟨HOK.out, HF0.out, B3.trans (tt.below (by omega) B3.size), .inl ⟨H60.out, rfl⟩⟩))
        · have HB9 : Hid (Below w1.heap.size w1 w9) := HBL.out.trans (hb9.mono HBL.out.size)
          have H60 : Hid (_) := h60
          have HCT : Hid (_) := hct
          have HOC : Hid (_) := hoc
          clear hb9 h60 hct hoc
          simp only [crv, noSig, dlV]
          go_wp2_with (refine wpList_store_rowTo rfl 36 _ _ rfl rfl (w.heap.size + 2) #[.slice p1 m1 d1', .int .i64 y.num, .int .i64 x.num, .int .i64 y.tm, .int .i64 y.next, .int .i64 y.scope, .bool y.ind, .slice p2 (chgs x.ents y.ents y.tm).length d2', .slice p3 0 d3'] rfl rfl 36 #[.slice none 0 0, .int .i64 0, .int .i64 0, .int .i64 0, .int .i64 0, .int .i64 0, .bool false, .slice none 0 0, .slice none 0 0] (HK.out _ HB9.out).2.2 infoSizeCrl rfl (by simp [Value.oneCell']) ?_)
          have q6 := setRow_heap w9 (w.heap.size + 2) _ #[.slice p1 m1 d1', .int .i64 y.num, .int .i64 x.num, .int .i64 y.tm, .int .i64 y.next, .int .i64 y.scope, .bool y.ind, .slice p2 (chgs x.ents y.ents y.tm).length d2', .slice p3 0 d3'] 36 (0, 0) (HK.out _ HB9.out).2.2
          have tt := setRow_touch w9 (w.heap.size + 2) #[.slice p1 m1 d1', .int .i64 y.num, .int .i64 x.num, .int .i64 y.tm, .int .i64 y.next, .int .i64 y.scope, .bool y.ind, .slice p2 (chgs x.ents y.ents y.tm).length d2', .slice p3 0 d3']
          try simp only [Exit.inBlock, Exit.then]
          have B3 := HBW.out.trans (HB9.out.mono HBW.out.size)
          have hss := HBS.out
          have hlow := HOC.out.low (S := fun i => i = w.heap.size + 2) ⟨tt.os, tt.tape, tt.output, tt.size, fun l hl hne => tt.block l hl (by omega)⟩ (fun i hi => by omega)
          exact bodyPost_ret (results_crl2 (by rfl) _ (w.heap.size + 2) rfl _ _ rfl q6) rfl (.inr (.inr ⟨HOK.out, HF0.out, B3.trans (tt.below (by omega) B3.size), .inr ⟨H60.out, p1, d1', p2, d2', p3, d3', sl, rfl, CrsT.on HCT.out tt (by omega) (by omega), hlow.lowerC (by omega)⟩⟩))
    · have HF : Hid (fitV x y ≠ 0) := hf
      obtain ⟨fv, hfv⟩ : ∃ fv, fv = fitV x y := ⟨_, rfl⟩
      rw [← hfv] at hf ⊢
      have HFV : Hid (_ = _) := hfv
      clear hfv
      go_wp2_with (refine wpList_store_rowTo rfl 36 _ _ rfl rfl (w.heap.size + 2) #[.slice none 0 0, .int .i64 0, .int .i64 0, .int .i64 0, .int .i64 0, .int .i64 0, .bool false, .slice none 0 0, .slice none 0 0] rfl rfl 36 #[.slice none 0 0, .int .i64 0, .int .i64 0, .int .i64 0, .int .i64 0, .int .i64 0, .bool false, .slice none 0 0, .slice none 0 0] (HK.out _ HB6.out).2.2 infoSizeCrl rfl (by simp [Value.oneCell']) ?_)
      have q6 := setRow_heap w6 (w.heap.size + 2) _ #[.slice none 0 0, .int .i64 0, .int .i64 0, .int .i64 0, .int .i64 0, .int .i64 0, .bool false, .slice none 0 0, .slice none 0 0] 36 (0, 0) (HK.out _ HB6.out).2.2
      have tt := setRow_touch w6 (w.heap.size + 2) #[.slice none 0 0, .int .i64 0, .int .i64 0, .int .i64 0, .int .i64 0, .int .i64 0, .bool false, .slice none 0 0, .slice none 0 0]
      try simp only [Exit.inBlock, Exit.then]
      have B3 := HBW.out.trans (HB6.out.mono HBW.out.size)
      refine bodyPost_ret (results_crl2 (by rfl) _ (w.heap.size + 2) rfl _ _ rfl q6) rfl (.inr (.inl ⟨HOK.out, HF.out, ?_, B3.trans (tt.below (by omega) B3.size)⟩))
      rw [← HFV.out]
      rfl

end Go.Proofs.YtbfjkmlmnhphoaaDoor
