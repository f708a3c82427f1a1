import Derived.Test.YtbfjkmlmnhphoaaDoorGMDHMDI
import Derived.Test.YtbfjkmlmnhphoaaDoorGRGEMc
import Derived.Great.BuildSlice
set_option linter.unusedVariables false
namespace Go.Proofs.YtbfjkmlmnhphoaaDoor
open Go.RowKit Go.Sort

/-- A list that reads so, whatever turns below B. -/
def CrsT (B : Nat) (w : World) (a1 : Option Addr) (n1 : Nat) (a2 : Option Addr) (n2 : Nat) (a3 : Option Addr) (n3 : Nat) (x : CP) : Prop := ∀ W' lo hi, Touch lo hi w W' → hi ≤ B → Crs W' a1 n1 a2 n2 a3 n3 x
theorem CrsT.now {B : Nat} {w : World} {a1 : Option Addr} {n1 : Nat} {a2 : Option Addr} {n2 : Nat} {a3 : Option Addr} {n3 : Nat} {x : CP} (h : CrsT B w a1 n1 a2 n2 a3 n3 x) : Crs w a1 n1 a2 n2 a3 n3 x := h w 0 0 ⟨rfl, rfl, rfl, Nat.le_refl _, fun _ _ _ => rfl⟩ (Nat.zero_le _)
theorem CrsT.on {B B' lo hi : Nat} {w w' : World} {a1 : Option Addr} {n1 : Nat} {a2 : Option Addr} {n2 : Nat} {a3 : Option Addr} {n3 : Nat} {x : CP} (h : CrsT B w a1 n1 a2 n2 a3 n3 x) (t : Touch lo hi w w') (h1 : hi ≤ B) (h2 : B' ≤ B) : CrsT B' w' a1 n1 a2 n2 a3 n3 x :=
  fun W' lo2 hi2 t2 h3 => h W' 0 B ((t.mono (Nat.zero_le _) h1).trans (t2.mono (Nat.zero_le _) (by omega))) (Nat.le_refl _)
theorem opw_load1C {P : Program} {Q : Exit → Act → World → Prop} {o : Oper} {a : Act} {w : World} {K : Act → World → Prop} (t : TypeId) (x : Nat) (ho : o.op = .load t (.tmp x)) (p : Value) (hx : aT a x = p) (v : Value) (hr : (Instr.loadAt t p).run P w = .ok v w) (h : K (a.put o.dst v) w) : o.wp P a w K Q := by
  refine opw_value v ?_ h
  have hx' : a.eval (.tmp x) = p := hx
  unfold execOp
  simp [ho, hx', hr]
theorem opw_storeC {P : Program} {Q : Exit → Act → World → Prop} {o : Oper} {a : Act} {w : World} {K : Act → World → Prop} (ty : TypeId) (x y : Nat) (ho : o.op = .store ty (.tmp x) (.tmp y)) (ad : Addr) (v : Value) (hx : aT a x = .pointer (some ad)) (hy : aT a y = v) (w' : World)
    (hr : (Instr.storeAt ty (.pointer (some ad)) v).run P w = .ok () w') (h : K (a.put o.dst undef) w') : o.wp P a w K Q := by
  have hx' : a.eval (.tmp x) = .pointer (some ad) := hx
  have hy' : a.eval (.tmp y) = v := hy
  unfold Oper.wp execOp
  simp only [ho, hx', hy', Sem.run_bind, hr, Result.andThen_ok, Sem.run_pure]
  exact h
theorem unC {b : Bool} (h : b = true → False) : b = false := by
  cases b with
  | false => rfl
  | true => exact (h rfl).elim
theorem touch_setC {p q : Nat} (w : World) (g j : Nat) (u : Value) (h1 : p ≤ g) (h2 : g < q) : Touch p q w (w.setCell ⟨g, j, none⟩ u) :=
  ⟨rfl, rfl, rfl, by simp, fun k _ hk => by simp only [World.setCell]; rw [Array.getElem?_modify]; simp [show ¬ g = k by omega]⟩
theorem owns_touchC {w w' : World} {B e s n lo hi : Nat} {v : Value} {xs : List Value} (h : w.ownsRow B e s v n xs) (ht : Touch lo hi w w') (hd : hi ≤ B) : w'.ownsRow B e s v n xs := by
  refine ⟨h.1, ?_⟩
  rcases h.2 with h0 | ⟨g, cap, cur, hv, hb, hg, r⟩
  · exact .inl h0
  · exact .inr ⟨g, cap, cur, hv, hb, (ht.block g (Array.getElem?_eq_some_iff.1 hg).1 (.inr (by omega))).trans hg, r⟩
theorem owns_monoC {w : World} {B B' e s n : Nat} {v : Value} {xs : List Value} (h : w.ownsRow B e s v n xs) (hB : B' ≤ B) : w.ownsRow B' e s v n xs := by
  refine ⟨h.1, ?_⟩
  rcases h.2 with h0 | ⟨g, cap, cur, hv, hb, r⟩
  · exact .inl h0
  · exact .inr ⟨g, cap, cur, hv, by omega, r⟩
theorem EachQ.touchC {B : Nat} {w w' : World} {a : Option Addr} {k c : Nat} {xs : List GP} {sl : Nat → Sl} (h : EachQ B w a k c xs sl) {lo hi : Nat} (ht : Touch lo hi w w') (hd : hi ≤ B) : EachQ B w' a k c xs sl := ⟨owns_touchC h.row ht hd, fun j hj => owns_touchC (h.each j hj) ht hd, h.apart⟩
theorem EachQ.monoC {B B' : Nat} {w : World} {a : Option Addr} {k c : Nat} {xs : List GP} {sl : Nat → Sl} (h : EachQ B w a k c xs sl) (hB : B' ≤ B) : EachQ B' w a k c xs sl := ⟨owns_monoC h.row hB, fun j hj => owns_monoC (h.each j hj) hB, h.apart⟩
/-- What the three calls made. -/
def NmF (R n : Nat) (ps : List PT) (v : Value) (w : World) : Prop := ∃ p d, v = .agg #[.slice p n d] ∧ w.ownsRow R 107 2 (.slice p n d) n (flPt ps)
def EnF (R n : Nat) (xs : List GP) (v : Value) (w : World) : Prop := ∃ p d sl, v = .slice p n d ∧ EachQ R w p n d xs sl ∧ ∀ j, j < n → (sl j).2.1 = (xs.getD j default).parts.length
def SgF (R n : Nat) (bs : List Int) (v : Value) (w : World) : Prop := ∃ p d, v = .slice p n d ∧ Own R w p n d bs
def TwF (R n1 n2 : Nat) (ps : List PT) (xs : List GP) (v1 v2 : Value) (w : World) : Prop := ∃ p1 d1 p2 d2 sl, v1 = .agg #[.slice p1 n1 d1] ∧ w.ownsRow R 107 2 (.slice p1 n1 d1) n1 (flPt ps) ∧ v2 = .slice p2 n2 d2 ∧ EachQ R w p2 n2 d2 xs sl ∧ (∀ j, j < n2 → (sl j).2.1 = (xs.getD j default).parts.length) ∧ ∀ j, j < n2 → ∀ g, (sl j).1 = some ⟨g, 0, none⟩ → p1 ≠ some ⟨g, 0, none⟩
theorem NmF.kept {R n : Nat} {ps : List PT} {v : Value} {w w' : World} (h : NmF R n ps v w) (hb : Below w.heap.size w w') : NmF R n ps v w' := by
  obtain ⟨p, d, e, h1⟩ := h
  exact ⟨p, d, e, ownsRow_below h1 hb⟩
theorem EnF.kept {R n : Nat} {xs : List GP} {v : Value} {w w' : World} (h : EnF R n xs v w) (hb : Below w.heap.size w w') : EnF R n xs v w' := by
  obtain ⟨p, d, sl, e, h1, h2⟩ := h
  exact ⟨p, d, sl, e, h1.below hb, h2⟩
theorem SgF.kept {R n : Nat} {bs : List Int} {v : Value} {w w' : World} (h : SgF R n bs v w) (hb : Below w.heap.size w w') : SgF R n bs v w' := by
  obtain ⟨p, d, e, h1⟩ := h
  exact ⟨p, d, e, h1.kept hb⟩
theorem TwF.kept {R n1 n2 : Nat} {ps : List PT} {xs : List GP} {v1 v2 : Value} {w w' : World} (h : TwF R n1 n2 ps xs v1 v2 w) (hb : Below w.heap.size w w') : TwF R n1 n2 ps xs v1 v2 w' := by
  obtain ⟨p1, d1, p2, d2, sl, e1, h1, e2, h2, h3, h4⟩ := h
  exact ⟨p1, d1, p2, d2, sl, e1, ownsRow_below h1 hb, e2, h2.below hb, h3, h4⟩
theorem NmF.touch {R n G : Nat} {ps : List PT} {v : Value} {w w' : World} (h : NmF R n ps v w) (hG : G < R) (ht : Touch G (G + 1) w w') : NmF R n ps v w' := by
  obtain ⟨p, d, e, h1⟩ := h
  exact ⟨p, d, e, owns_touchC h1 ht (by omega)⟩
theorem EnF.touch {R n G : Nat} {xs : List GP} {v : Value} {w w' : World} (h : EnF R n xs v w) (hG : G < R) (ht : Touch G (G + 1) w w') : EnF R n xs v w' := by
  obtain ⟨p, d, sl, e, h1, h2⟩ := h
  exact ⟨p, d, sl, e, h1.touchC ht (by omega), h2⟩
theorem SgF.touch {R n G : Nat} {bs : List Int} {v : Value} {w w' : World} (h : SgF R n bs v w) (hG : G < R) (ht : Touch G (G + 1) w w') : SgF R n bs v w' := by
  obtain ⟨p, d, e, h1⟩ := h
  exact ⟨p, d, e, owns_touchC h1.row ht (by omega), h1.byte⟩
theorem TwF.touch {R n1 n2 G : Nat} {ps : List PT} {xs : List GP} {v1 v2 : Value} {w w' : World} (h : TwF R n1 n2 ps xs v1 v2 w) (hG : G < R) (ht : Touch G (G + 1) w w') : TwF R n1 n2 ps xs v1 v2 w' := by
  obtain ⟨p1, d1, p2, d2, sl, e1, h1, e2, h2, h3, h4⟩ := h
  exact ⟨p1, d1, p2, d2, sl, e1, owns_touchC h1 ht (by omega), e2, h2.touchC ht (by omega), h3, h4⟩

/-- What is known of the region's slots. -/
def ccS (x : CP) (a1 : Option Addr) (n1 c1 : Nat) (a2 : Option Addr) (n2 c2 : Nat) (a3 : Option Addr) (n3 c3 : Nat) (G R : Nat) : RSpec where
  m := 15
  n := 15
  slots := [3, 4, 5, 6, 7, 8, 9, 10, 11, 12, 100010, 13, 100012, 14, 100014]
  kills := [[], [], [], [], [], [], [], [], [], [], [], [], [], [], []]
  pres := [[], [], [1], [], [], [4], [], [], [7], [], [], [], [], [], []]
  fact := fun k v w => match k with
    | 0 => v = .pointer (some ⟨G, 0, none⟩)
    | 1 => v = .agg #[.slice a1 n1 c1]
    | 2 => NmF R n1 x.parts v w
    | 3 => v = .pointer (some ⟨G, 7, none⟩)
    | 4 => v = .slice a2 n2 c2
    | 5 => EnF R n2 x.ents v w
    | 6 => v = .pointer (some ⟨G, 8, none⟩)
    | 7 => v = .slice a3 n3 c3
    | 8 => SgF R n3 x.sig v w
    | 9 => v = .pointer (some ⟨G, 0, none⟩)
    | 10 => True
    | 11 => v = .pointer (some ⟨G, 7, none⟩)
    | 12 => True
    | 13 => v = .pointer (some ⟨G, 8, none⟩)
    | _ => True
theorem ccS_stb (x : CP) (a1 : Option Addr) (n1 c1 : Nat) (a2 : Option Addr) (n2 c2 : Nat) (a3 : Option Addr) (n3 c3 : Nat) (G R : Nat) (k : Nat) (hk : k < 15) : StB ((ccS x a1 n1 c1 a2 n2 c2 a3 n3 c3 G R).fact k) := by
  match k, hk with
  | 0, _ => exact fun _ _ _ h _ => h
  | 1, _ => exact fun _ _ _ h _ => h
  | 2, _ => exact fun _ _ _ h hb => h.kept hb
  | 3, _ => exact fun _ _ _ h _ => h
  | 4, _ => exact fun _ _ _ h _ => h
  | 5, _ => exact fun _ _ _ h hb => h.kept hb
  | 6, _ => exact fun _ _ _ h _ => h
  | 7, _ => exact fun _ _ _ h _ => h
  | 8, _ => exact fun _ _ _ h hb => h.kept hb
  | 9, _ => exact fun _ _ _ h _ => h
  | 10, _ => exact fun _ _ _ h _ => h
  | 11, _ => exact fun _ _ _ h _ => h
  | 12, _ => exact fun _ _ _ h _ => h
  | 13, _ => exact fun _ _ _ h _ => h
  | 14, _ => exact fun _ _ _ h _ => h
  | k + 15, hk => omega
theorem ccS_st (x : CP) (a1 : Option Addr) (n1 c1 : Nat) (a2 : Option Addr) (n2 c2 : Nat) (a3 : Option Addr) (n3 c3 : Nat) (G R : Nat) (hG : G < R) {W W2 : World} (ht : Touch G (G + 1) W W2) (k : Nat) (hk : k < 15) (v : Value) (hf : (ccS x a1 n1 c1 a2 n2 c2 a3 n3 c3 G R).fact k v W) : (ccS x a1 n1 c1 a2 n2 c2 a3 n3 c3 G R).fact k v W2 := by
  match k, hk, hf with
  | 0, _, h => exact h
  | 1, _, h => exact h
  | 2, _, h => exact h.touch hG ht
  | 3, _, h => exact h
  | 4, _, h => exact h
  | 5, _, h => exact h.touch hG ht
  | 6, _, h => exact h
  | 7, _, h => exact h
  | 8, _, h => exact h.touch hG ht
  | 9, _, h => exact h
  | 10, _, h => exact h
  | 11, _, h => exact h
  | 12, _, h => exact h
  | 13, _, h => exact h
  | 14, _, h => exact h
  | k + 15, hk, _ => omega
/-- The two apart from one another, and the boxes. -/
structure CcJ (x : CP) (a1 : Option Addr) (n1 c1 : Nat) (a2 : Option Addr) (n2 c2 : Nat) (a3 : Option Addr) (n3 c3 : Nat) (G R : Nat) (l : Nat → Bool) (a : Act) (w : World) : Prop where
  two : l 2 = true → l 5 = true → TwF R n1 n2 x.parts x.ents (aT a 5) (aT a 8) w
  box : ∃ u0 u7 u8, w.heap[G]? = some (.cells #[u0, .int .i64 x.num, .int .i64 x.base, .int .i64 x.tm, .int .i64 x.next, .int .i64 x.scope, .bool x.ind, u7, u8] 36 (0, 0)) ∧ (l 10 = false → u0 = .slice a1 n1 c1) ∧ (l 10 = true → aT a 5 = .agg #[u0]) ∧ (l 12 = false → u7 = .slice a2 n2 c2) ∧ (l 12 = true → aT a 8 = u7) ∧ (l 14 = false → u8 = .slice a3 n3 c3) ∧ (l 14 = true → aT a 11 = u8)
  res : w.heap[G + 1]? = some (.cells #[.slice none 0 0, .int .i64 0, .int .i64 0, .int .i64 0, .int .i64 0, .int .i64 0, .bool false, .slice none 0 0, .slice none 0 0] 36 (0, 0))
  e10 : l 10 = true → l 2 = true
  e12 : l 12 = true → l 5 = true
  e14 : l 14 = true → l 8 = true
theorem CcJ.put {x : CP} {a1 : Option Addr} {n1 c1 : Nat} {a2 : Option Addr} {n2 c2 : Nat} {a3 : Option Addr} {n3 c3 : Nat} {G R : Nat} {l : Nat → Bool} {a : Act} {w w' : World} (h : CcJ x a1 n1 c1 a2 n2 c2 a3 n3 c3 G R l a w) (k t : Nat) (v : Value) (hk : k ≠ 2 ∧ k ≠ 5 ∧ k ≠ 8 ∧ k ≠ 10 ∧ k ≠ 12 ∧ k ≠ 14) (ht : t ≠ 5 ∧ t ≠ 8 ∧ t ≠ 11) (hb : Below w.heap.size w w') : CcJ x a1 n1 c1 a2 n2 c2 a3 n3 c3 G R (upd l k) (a.put (some t) v) w' := by
  obtain ⟨k2, k5, k8, k10, k12, k14⟩ := hk
  obtain ⟨t5, t8, t11⟩ := ht
  refine ⟨fun h2 h5 => ?_, ?_, below_kept h.res hb, fun e => ?_, fun e => ?_, fun e => ?_⟩
  · rw [upd_ne k2.symm] at h2
    rw [upd_ne k5.symm] at h5
    rw [aT_put_ne t5, aT_put_ne t8]
    exact (h.two h2 h5).kept hb
  · obtain ⟨u0, u7, u8, hx, i1, i2, i3, i4, i5, i6⟩ := h.box
    refine ⟨u0, u7, u8, below_kept hx hb, ?_, ?_, ?_, ?_, ?_, ?_⟩
    all_goals rw [upd_ne (by first | exact k10.symm | exact k12.symm | exact k14.symm)]
    · exact i1
    · rw [aT_put_ne t5]; exact i2
    · exact i3
    · rw [aT_put_ne t8]; exact i4
    · exact i5
    · rw [aT_put_ne t11]; exact i6
  · rw [upd_ne k10.symm] at e
    exact upd_mono (h.e10 e)
  · rw [upd_ne k12.symm] at e
    exact upd_mono (h.e12 e)
  · rw [upd_ne k14.symm] at e
    exact upd_mono (h.e14 e)
theorem CcJ.call2 {x : CP} {a1 : Option Addr} {n1 c1 : Nat} {a2 : Option Addr} {n2 c2 : Nat} {a3 : Option Addr} {n3 c3 : Nat} {G R : Nat} {l : Nat → Bool} {a : Act} {w w' : World} (h : CcJ x a1 n1 c1 a2 n2 c2 a3 n3 c3 G R l a w) (v : Value) (hun : l 2 = false) (hb : Below w.heap.size w w') (h2 : upd l 2 2 = true → upd l 2 5 = true → TwF R n1 n2 x.parts x.ents (aT (a.put (some 5) v) 5) (aT (a.put (some 5) v) 8) w') : CcJ x a1 n1 c1 a2 n2 c2 a3 n3 c3 G R (upd l 2) (a.put (some 5) v) w' := by
  have hs : l 10 = false := unC (fun e => by have h1 := h.e10 e; rw [hun] at h1; cases h1)
  refine ⟨h2, ?_, below_kept h.res hb, fun e => ?_, fun e => ?_, fun e => ?_⟩
  · obtain ⟨u0, u7, u8, hx, i1, i2, i3, i4, i5, i6⟩ := h.box
    refine ⟨u0, u7, u8, below_kept hx hb, ?_, ?_, ?_, ?_, ?_, ?_⟩
    all_goals rw [upd_ne (by decide)]
    · exact i1
    · intro e; rw [hs] at e; cases e
    · exact i3
    · rw [aT_put_ne (by decide)]; exact i4
    · exact i5
    · rw [aT_put_ne (by decide)]; exact i6
  · exact upd_same _ _
  · rw [upd_ne (by decide)] at e
    exact upd_mono (h.e12 e)
  · rw [upd_ne (by decide)] at e
    exact upd_mono (h.e14 e)
theorem CcJ.call5 {x : CP} {a1 : Option Addr} {n1 c1 : Nat} {a2 : Option Addr} {n2 c2 : Nat} {a3 : Option Addr} {n3 c3 : Nat} {G R : Nat} {l : Nat → Bool} {a : Act} {w w' : World} (h : CcJ x a1 n1 c1 a2 n2 c2 a3 n3 c3 G R l a w) (v : Value) (hun : l 5 = false) (hb : Below w.heap.size w w') (h2 : upd l 5 2 = true → upd l 5 5 = true → TwF R n1 n2 x.parts x.ents (aT (a.put (some 8) v) 5) (aT (a.put (some 8) v) 8) w') : CcJ x a1 n1 c1 a2 n2 c2 a3 n3 c3 G R (upd l 5) (a.put (some 8) v) w' := by
  have hs : l 12 = false := unC (fun e => by have h1 := h.e12 e; rw [hun] at h1; cases h1)
  refine ⟨h2, ?_, below_kept h.res hb, fun e => ?_, fun e => ?_, fun e => ?_⟩
  · obtain ⟨u0, u7, u8, hx, i1, i2, i3, i4, i5, i6⟩ := h.box
    refine ⟨u0, u7, u8, below_kept hx hb, ?_, ?_, ?_, ?_, ?_, ?_⟩
    all_goals rw [upd_ne (by decide)]
    · exact i1
    · rw [aT_put_ne (by decide)]; exact i2
    · exact i3
    · intro e; rw [hs] at e; cases e
    · exact i5
    · rw [aT_put_ne (by decide)]; exact i6
  · rw [upd_ne (by decide)] at e
    exact upd_mono (h.e10 e)
  · exact upd_same _ _
  · rw [upd_ne (by decide)] at e
    exact upd_mono (h.e14 e)
theorem CcJ.call8 {x : CP} {a1 : Option Addr} {n1 c1 : Nat} {a2 : Option Addr} {n2 c2 : Nat} {a3 : Option Addr} {n3 c3 : Nat} {G R : Nat} {l : Nat → Bool} {a : Act} {w w' : World} (h : CcJ x a1 n1 c1 a2 n2 c2 a3 n3 c3 G R l a w) (v : Value) (hun : l 8 = false) (hb : Below w.heap.size w w') : CcJ x a1 n1 c1 a2 n2 c2 a3 n3 c3 G R (upd l 8) (a.put (some 11) v) w' := by
  have hs : l 14 = false := unC (fun e => by have h1 := h.e14 e; rw [hun] at h1; cases h1)
  refine ⟨fun h2 h5 => ?_, ?_, below_kept h.res hb, fun e => ?_, fun e => ?_, fun e => ?_⟩
  · rw [upd_ne (by decide)] at h2 h5
    rw [aT_put_ne (by decide), aT_put_ne (by decide)]
    exact (h.two h2 h5).kept hb
  · obtain ⟨u0, u7, u8, hx, i1, i2, i3, i4, i5, i6⟩ := h.box
    refine ⟨u0, u7, u8, below_kept hx hb, ?_, ?_, ?_, ?_, ?_, ?_⟩
    all_goals rw [upd_ne (by decide)]
    · exact i1
    · rw [aT_put_ne (by decide)]; exact i2
    · exact i3
    · rw [aT_put_ne (by decide)]; exact i4
    · exact i5
    · intro e; rw [hs] at e; cases e
  · rw [upd_ne (by decide)] at e
    exact upd_mono (h.e10 e)
  · rw [upd_ne (by decide)] at e
    exact upd_mono (h.e12 e)
  · exact upd_same _ _
theorem CcJ.store10 {x : CP} {a1 : Option Addr} {n1 c1 : Nat} {a2 : Option Addr} {n2 c2 : Nat} {a3 : Option Addr} {n3 c3 : Nat} {G R : Nat} {l : Nat → Bool} {a : Act} {w w' : World} (h : CcJ x a1 n1 c1 a2 n2 c2 a3 n3 c3 G R l a w) (hG : G < R) (p : Value) (hv : aT a 5 = .agg #[p]) (hl : l 2 = true) (ht : Touch G (G + 1) w w')
    (hw : ∀ u0 u7 u8, w.heap[G]? = some (.cells #[u0, .int .i64 x.num, .int .i64 x.base, .int .i64 x.tm, .int .i64 x.next, .int .i64 x.scope, .bool x.ind, u7, u8] 36 (0, 0)) → w'.heap[G]? = some (.cells #[p, .int .i64 x.num, .int .i64 x.base, .int .i64 x.tm, .int .i64 x.next, .int .i64 x.scope, .bool x.ind, u7, u8] 36 (0, 0))) : CcJ x a1 n1 c1 a2 n2 c2 a3 n3 c3 G R (upd l 10) (a.put none undef) w' := by
  obtain ⟨u0, u7, u8, hx, i1, i2, i3, i4, i5, i6⟩ := h.box
  refine ⟨fun h2 h5 => ?_, ⟨p, u7, u8, hw u0 u7 u8 hx, ?_, ?_, ?_, ?_, ?_, ?_⟩, (ht.block _ (Array.getElem?_eq_some_iff.1 h.res).1 (by omega)).trans h.res, fun e => ?_, fun e => ?_, fun e => ?_⟩
  · rw [upd_ne (by decide)] at h2 h5
    exact (h.two h2 h5).touch hG ht
  · intro e; rw [upd_same] at e; cases e
  · intro _; exact hv
  · rw [upd_ne (by decide)]; exact i3
  · rw [upd_ne (by decide)]; exact i4
  · rw [upd_ne (by decide)]; exact i5
  · rw [upd_ne (by decide)]; exact i6
  · exact upd_mono hl
  · rw [upd_ne (by decide)] at e
    exact upd_mono (h.e12 e)
  · rw [upd_ne (by decide)] at e
    exact upd_mono (h.e14 e)
theorem CcJ.store12 {x : CP} {a1 : Option Addr} {n1 c1 : Nat} {a2 : Option Addr} {n2 c2 : Nat} {a3 : Option Addr} {n3 c3 : Nat} {G R : Nat} {l : Nat → Bool} {a : Act} {w w' : World} (h : CcJ x a1 n1 c1 a2 n2 c2 a3 n3 c3 G R l a w) (hG : G < R) (p : Value) (hv : aT a 8 = p) (hl : l 5 = true) (ht : Touch G (G + 1) w w')
    (hw : ∀ u0 u7 u8, w.heap[G]? = some (.cells #[u0, .int .i64 x.num, .int .i64 x.base, .int .i64 x.tm, .int .i64 x.next, .int .i64 x.scope, .bool x.ind, u7, u8] 36 (0, 0)) → w'.heap[G]? = some (.cells #[u0, .int .i64 x.num, .int .i64 x.base, .int .i64 x.tm, .int .i64 x.next, .int .i64 x.scope, .bool x.ind, p, u8] 36 (0, 0))) : CcJ x a1 n1 c1 a2 n2 c2 a3 n3 c3 G R (upd l 12) (a.put none undef) w' := by
  obtain ⟨u0, u7, u8, hx, i1, i2, i3, i4, i5, i6⟩ := h.box
  refine ⟨fun h2 h5 => ?_, ⟨u0, p, u8, hw u0 u7 u8 hx, ?_, ?_, ?_, ?_, ?_, ?_⟩, (ht.block _ (Array.getElem?_eq_some_iff.1 h.res).1 (by omega)).trans h.res, fun e => ?_, fun e => ?_, fun e => ?_⟩
  · rw [upd_ne (by decide)] at h2 h5
    exact (h.two h2 h5).touch hG ht
  · rw [upd_ne (by decide)]; exact i1
  · rw [upd_ne (by decide)]; exact i2
  · intro e; rw [upd_same] at e; cases e
  · intro _; exact hv
  · rw [upd_ne (by decide)]; exact i5
  · rw [upd_ne (by decide)]; exact i6
  · rw [upd_ne (by decide)] at e
    exact upd_mono (h.e10 e)
  · exact upd_mono hl
  · rw [upd_ne (by decide)] at e
    exact upd_mono (h.e14 e)
theorem CcJ.store14 {x : CP} {a1 : Option Addr} {n1 c1 : Nat} {a2 : Option Addr} {n2 c2 : Nat} {a3 : Option Addr} {n3 c3 : Nat} {G R : Nat} {l : Nat → Bool} {a : Act} {w w' : World} (h : CcJ x a1 n1 c1 a2 n2 c2 a3 n3 c3 G R l a w) (hG : G < R) (p : Value) (hv : aT a 11 = p) (hl : l 8 = true) (ht : Touch G (G + 1) w w')
    (hw : ∀ u0 u7 u8, w.heap[G]? = some (.cells #[u0, .int .i64 x.num, .int .i64 x.base, .int .i64 x.tm, .int .i64 x.next, .int .i64 x.scope, .bool x.ind, u7, u8] 36 (0, 0)) → w'.heap[G]? = some (.cells #[u0, .int .i64 x.num, .int .i64 x.base, .int .i64 x.tm, .int .i64 x.next, .int .i64 x.scope, .bool x.ind, u7, p] 36 (0, 0))) : CcJ x a1 n1 c1 a2 n2 c2 a3 n3 c3 G R (upd l 14) (a.put none undef) w' := by
  obtain ⟨u0, u7, u8, hx, i1, i2, i3, i4, i5, i6⟩ := h.box
  refine ⟨fun h2 h5 => ?_, ⟨u0, u7, p, hw u0 u7 u8 hx, ?_, ?_, ?_, ?_, ?_, ?_⟩, (ht.block _ (Array.getElem?_eq_some_iff.1 h.res).1 (by omega)).trans h.res, fun e => ?_, fun e => ?_, fun e => ?_⟩
  · rw [upd_ne (by decide)] at h2 h5
    exact (h.two h2 h5).touch hG ht
  · rw [upd_ne (by decide)]; exact i1
  · rw [upd_ne (by decide)]; exact i2
  · rw [upd_ne (by decide)]; exact i3
  · rw [upd_ne (by decide)]; exact i4
  · intro e; rw [upd_same] at e; cases e
  · intro _; exact hv
  · rw [upd_ne (by decide)] at e
    exact upd_mono (h.e10 e)
  · rw [upd_ne (by decide)] at e
    exact upd_mono (h.e12 e)
  · exact upd_mono hl

/-- Behind the region. -/
theorem CcJ.done {x : CP} {a1 : Option Addr} {n1 c1 : Nat} {a2 : Option Addr} {n2 c2 : Nat} {a3 : Option Addr} {n3 c3 : Nat} {G R : Nat} {l : Nat → Bool} {a : Act} {w : World} (h : CcJ x a1 n1 c1 a2 n2 c2 a3 n3 c3 G R l a w) (h8 : SgF R n3 x.sig (aT a 11) w) (hl : ∀ k, l k = true) : ∃ p1 d1 p2 d2 p3 d3 sl, w.heap[G]? = some (.cells #[.slice p1 n1 d1, .int .i64 x.num, .int .i64 x.base, .int .i64 x.tm, .int .i64 x.next, .int .i64 x.scope, .bool x.ind, .slice p2 n2 d2, .slice p3 n3 d3] 36 (0, 0)) ∧ w.ownsRow R 107 2 (.slice p1 n1 d1) n1 (flPt x.parts) ∧ EachQ R w p2 n2 d2 x.ents sl ∧ (∀ j, j < n2 → (sl j).2.1 = (x.ents.getD j default).parts.length) ∧ (∀ j, j < n2 → ∀ g, (sl j).1 = some ⟨g, 0, none⟩ → p1 ≠ some ⟨g, 0, none⟩) ∧ Own R w p3 n3 d3 x.sig := by
  obtain ⟨p1, d1, p2, d2, sl, e1, q1, e2, q2, q3, q4⟩ := h.two (hl 2) (hl 5)
  obtain ⟨p3, d3, e3, q5⟩ := h8
  obtain ⟨u0, u7, u8, hx, i1, i2, i3, i4, i5, i6⟩ := h.box
  have z0 := i2 (hl 10)
  have z7 := i4 (hl 12)
  have z8 := i6 (hl 14)
  rw [e1] at z0
  rw [e2] at z7
  rw [e3] at z8
  subst z7
  subst z8
  have z0' : u0 = .slice p1 n1 d1 := by
    simp only [Value.agg.injEq] at z0
    have := congrArg (fun (v : Array Value) => v.getD 0 undef) z0
    simpa using this.symm
  subst z0'
  exact ⟨p1, d1, p2, d2, p3, d3, sl, hx, q1, q2, q3, q4, q5⟩

set_option maxRecDepth 10000 in
set_option maxHeartbeats 4000000 in
theorem cloneCrl_any (a1 : Option Addr) (n1 c1 : Nat) (a2 : Option Addr) (n2 c2 : Nat) (a3 : Option Addr) (n3 c3 : Nat) (x : CP) (w : World) (h : Crs w a1 n1 a2 n2 a3 n3 x) (hz : CpOk n1 n2 n3 x) (hn1 : a1 = none → c1 = 0) (hn3 : a3 = none → c3 = 0)
    (hc0 : ∀ k, k < n2 → ∀ b off an nn cn, a2 = some ⟨b, off, none⟩ → w.cell? ⟨b, off + k * 4, none⟩ = some (.slice an nn cn) → (an = none → cn = 0) ∧ nn ≤ 1048576) :
    Calls Tryd.prog 77 #[crv a1 n1 c1 a2 n2 c2 a3 n3 c3 x] w fun e w' => ∃ p1 d1 p2 d2 p3 d3 sl, e = .returned (crv p1 n1 d1 p2 n2 d2 p3 n3 d3 x) ∧ CrsT w.heap.size w' p1 n1 p2 n2 p3 n3 x ∧ OwnC w.heap.size w' p1 n1 d1 p2 n2 d2 p3 n3 d3 (flPt x.parts) sl (fun j => flPt (x.ents.getD j default).parts) (flG x.ents sl n2) x.sig ∧ Below w.heap.size w w' := by
  obtain ⟨w1, hw1⟩ : ∃ w1, w1 = (w.alloc (.cells #[.slice a1 n1 c1, .int .i64 x.num, .int .i64 x.base, .int .i64 x.tm, .int .i64 x.next, .int .i64 x.scope, .bool x.ind, .slice a2 n2 c2, .slice a3 n3 c3] 36)).alloc (.cells #[.slice none 0 0, .int .i64 0, .int .i64 0, .int .i64 0, .int .i64 0, .int .i64 0, .bool false, .slice none 0 0, .slice none 0 0] 36) := ⟨_, rfl⟩
  have hbb : Below w.heap.size w w1 := by rw [hw1]; exact ((Below.refl _ _).alloc (Nat.le_refl _) _).alloc (by simp) _
  have HB1 : Hid (w1.heap[w.heap.size]? = some (.cells #[.slice a1 n1 c1, .int .i64 x.num, .int .i64 x.base, .int .i64 x.tm, .int .i64 x.next, .int .i64 x.scope, .bool x.ind, .slice a2 n2 c2, .slice a3 n3 c3] 36 (0, 0)) ∧ w1.heap[w.heap.size + 1]? = some (.cells #[.slice none 0 0, .int .i64 0, .int .i64 0, .int .i64 0, .int .i64 0, .int .i64 0, .bool false, .slice none 0 0, .slice none 0 0] 36 (0, 0))) := by show _ ∧ _; rw [hw1]; exact two_blocks w _ _
  have hs1 : w1.heap.size = w.heap.size + 2 := by rw [hw1]; simp
  have HZ : Hid (CpOk n1 n2 n3 x) := hz
  have HRK : Hid (∀ W, Below w.heap.size w1 W → Crs W a1 n1 a2 n2 a3 n3 x ∧ ∀ k, k < n2 → ∀ b off an nn cn, a2 = some ⟨b, off, none⟩ → W.cell? ⟨b, off + k * 4, none⟩ = some (.slice an nn cn) → (an = none → cn = 0) ∧ nn ≤ 1048576) := fun W hW => by
    have hb2 := hbb.trans hW
    refine ⟨h.kept hb2, fun k hk b off an nn cn e hc => hc0 k hk b off an nn cn e ?_⟩
    obtain ⟨b', off', _, _, _, e', hlt, _⟩ := h.en.get k hk
    rw [e] at e'
    simp only [Option.some.injEq, Addr.mk.injEq] at e'
    obtain ⟨rfl, _, _⟩ := e'
    rw [← hb2.cell (p := ⟨b, off + k * 4, none⟩) hlt]
    exact hc
  have HL : Hid (x.parts.length = n1 ∧ x.ents.length = n2) := ⟨h.nm.len, h.en.len⟩
  have HW : Hid (_ = _) := hw1
  clear hw1 h hc0 hz
  have HBB : w.heap.size ≤ w1.heap.size := by omega
  have hGR : w.heap.size < w1.heap.size := by omega
  unfold crv
  go_enter Tryd.func77, Tryd.ntmps77
  go_upto_region 1 with fail
  rw [← HW.out]
  clear HW
  refine wp_region_gj (fun a0 l a w2 => RI (ccS x a1 n1 c1 a2 n2 c2 a3 n3 c3 w.heap.size w1.heap.size) [3, 4, 5, 6, 7, 8, 9, 10, 11, 12, 13, 14] w.heap.size w1 a0 l a w2 ∧ CcJ x a1 n1 c1 a2 n2 c2 a3 n3 c3 w.heap.size w1.heap.size l a w2 ∧ w1.heap.size ≤ w2.heap.size) (fun a0 => a0.tmps.size = 16 ∧ aT a0 1 = .pointer (some ⟨w.heap.size, 0, none⟩)) (by kernel_rfl) (by kernel_rfl) ⟨rfl, rfl⟩ ?_ ?_ ?_
  · intro a0 _ l hl0 hl1
    have h2 := hl0 2 (by decide)
    have h10 := hl0 10 (by decide)
    have h12 := hl0 12 (by decide)
    have h14 := hl0 14 (by decide)
    refine ⟨ri_start (Below.refl _ _).drew (fun k hl => ?_) hl1 rfl (fun k h1 h2 => absurd h1 (Nat.not_le.2 h2)), ⟨(fun e => by rw [h2] at e; cases e), ⟨_, _, _, HB1.out.1, fun _ => rfl, (fun e => by rw [h10] at e; cases e), fun _ => rfl, (fun e => by rw [h12] at e; cases e), fun _ => rfl, (fun e => by rw [h14] at e; cases e)⟩, HB1.out.2, (fun e => by rw [h10] at e; cases e), (fun e => by rw [h12] at e; cases e), (fun e => by rw [h14] at e; cases e)⟩, Nat.le_refl _⟩
    by_cases hk : k < 15
    · rw [hl0 k hk] at hl; cases hl
    · exact Nat.not_lt.1 hk
  · rintro a0 ⟨hz, g1⟩
    refine StepsG.cons ?_ (StepsG.cons ?_ (StepsG.cons ?_ (StepsG.cons ?_ (StepsG.cons ?_ (StepsG.cons ?_ (StepsG.cons ?_ (StepsG.cons ?_ (StepsG.cons ?_ (StepsG.cons ?_ (StepsG.cons ?_ (StepsG.cons ?_ (StepsG.cons ?_ (StepsG.cons ?_ (StepsG.cons ?_ StepsG.nil))))))))))))))
    · rintro lQ b W ⟨hI, hJ, hS⟩ hUN hED KQ hKQ
      exact opw_field 36 1 0 rfl _ ((hI.fr.same 1 (by decide)).trans g1) _ (by kernel_rfl) (hKQ.out _ _ ⟨hI.put 0 3 rfl rfl (by rw [hz]; decide) rfl hUN rfl HBB (ccS_stb x a1 n1 c1 a2 n2 c2 a3 n3 c3 w.heap.size w1.heap.size) (Below.refl _ _) rfl, hJ.put 0 3 _ (by decide) (by decide) (Below.refl _ _), hS⟩)
    · rintro lQ b W ⟨hI, hJ, hS⟩ hUN hED KQ hKQ
      have f : aT b 3 = .pointer (some ⟨w.heap.size, 0, none⟩) := hI.got 0 (of_decide_eq_true rfl) (edge hED 0 (by kernel_rfl)) rfl
      have h7 : lQ 10 = false := unC (fun h => by
        have h1 := hI.cl 2 (of_decide_eq_true rfl) (hJ.e10 h) 1 (List.Mem.head _)
        rw [show lQ 1 = false from hUN] at h1
        cases h1)
      obtain ⟨u0, u7, u8, hg, i1, i2, i3, i4, i5, i6⟩ := hJ.box
      obtain rfl := i1 h7
      have hc : W.cell? ⟨w.heap.size, 0, none⟩ = some (.slice a1 n1 c1) := (cell_of_row _ _ 0 _ _ (0, 0) hg).trans rfl
      exact opw_load1C 33 3 rfl _ f _ (by simp [Instr.loadAt, go_sem, hc]) (hKQ.out _ _ ⟨hI.put 1 4 rfl rfl (by rw [hz]; decide) rfl hUN rfl HBB (ccS_stb x a1 n1 c1 a2 n2 c2 a3 n3 c3 w.heap.size w1.heap.size) (Below.refl _ _) rfl, hJ.put 1 4 _ (by decide) (by decide) (Below.refl _ _), hS⟩)
    · rintro lQ b W ⟨hI, hJ, hS⟩ hUN hED KQ hKQ
      have f0 : aT b 4 = .agg #[.slice a1 n1 c1] := hI.got 1 (of_decide_eq_true rfl) (edge hED 1 (by kernel_rfl)) rfl
      refine opw_call 94 #[.tmp 4] _ _ _ rfl Tryd.func94 (by kernel_rfl) rfl #[.agg #[.slice a1 n1 c1]] (by simp [ev, f0]) ?_
      refine (cloneName_any a1 n1 c1 x.parts W (HRK.out W hI.bel).1.nm hn1 HZ.out.1).mono ?_
      rintro e W2 ⟨p1, d1, rfl, ho, _, hb⟩
      have hbr : NmF w1.heap.size n1 x.parts (.agg #[.slice p1 n1 d1]) W2 := ⟨p1, d1, rfl, owns_monoC ho (by omega)⟩
      refine ⟨_, rfl, hKQ.out _ _ ⟨hI.putq 2 5 (fun j hj => by rcases List.mem_singleton.1 hj with rfl; exact edge hED 1 (by kernel_rfl)) rfl (by rw [hz]; decide) rfl hUN rfl HBB (ccS_stb x a1 n1 c1 a2 n2 c2 a3 n3 c3 w.heap.size w1.heap.size) hb hbr, hJ.call2 _ hUN hb (fun _ h5 => ?_), Nat.le_trans hS hb.size⟩⟩
      rw [upd_ne (by decide)] at h5
      obtain ⟨p2, d2, sl, e2, hE, hE2⟩ := hI.got 5 (of_decide_eq_true rfl) h5 rfl
      rw [aT_put_eq (by rw [hI.fr.size, hz]; decide), aT_put_ne (by decide)]
      refine ⟨p1, d1, p2, d2, sl, rfl, owns_monoC ho (by omega), e2, hE.below hb, hE2, fun j hj g hg e => ?_⟩
      have q1 := ownsRow_in ho g e
      have q2 := ownsRow_in (hE.each j hj) g hg
      omega
    · rintro lQ b W ⟨hI, hJ, hS⟩ hUN hED KQ hKQ
      exact opw_field 36 1 7 rfl _ ((hI.fr.same 1 (by decide)).trans g1) _ (by kernel_rfl) (hKQ.out _ _ ⟨hI.put 3 6 rfl rfl (by rw [hz]; decide) rfl hUN rfl HBB (ccS_stb x a1 n1 c1 a2 n2 c2 a3 n3 c3 w.heap.size w1.heap.size) (Below.refl _ _) rfl, hJ.put 3 6 _ (by decide) (by decide) (Below.refl _ _), hS⟩)
    · rintro lQ b W ⟨hI, hJ, hS⟩ hUN hED KQ hKQ
      have f : aT b 6 = .pointer (some ⟨w.heap.size, 7, none⟩) := hI.got 3 (of_decide_eq_true rfl) (edge hED 3 (by kernel_rfl)) rfl
      have h7 : lQ 12 = false := unC (fun h => by
        have h1 := hI.cl 5 (of_decide_eq_true rfl) (hJ.e12 h) 4 (List.Mem.head _)
        rw [show lQ 4 = false from hUN] at h1
        cases h1)
      obtain ⟨u0, u7, u8, hg, i1, i2, i3, i4, i5, i6⟩ := hJ.box
      obtain rfl := i3 h7
      have hc : W.cell? ⟨w.heap.size, 7, none⟩ = some (.slice a2 n2 c2) := (cell_of_row _ _ 7 _ _ (0, 0) hg).trans rfl
      exact opw_load1C 34 6 rfl _ f _ (by simp [Instr.loadAt, go_sem, hc]) (hKQ.out _ _ ⟨hI.put 4 7 rfl rfl (by rw [hz]; decide) rfl hUN rfl HBB (ccS_stb x a1 n1 c1 a2 n2 c2 a3 n3 c3 w.heap.size w1.heap.size) (Below.refl _ _) rfl, hJ.put 4 7 _ (by decide) (by decide) (Below.refl _ _), hS⟩)
    · rintro lQ b W ⟨hI, hJ, hS⟩ hUN hED KQ hKQ
      have f0 : aT b 7 = .slice a2 n2 c2 := hI.got 4 (of_decide_eq_true rfl) (edge hED 4 (by kernel_rfl)) rfl
      refine opw_call 95 #[.tmp 7, .func 96] _ _ _ rfl Tryd.func95 (by kernel_rfl) rfl #[.slice a2 n2 c2, .func (Fn.func 96) #[] #[]] (by simp [ev, f0]; rfl) ?_
      refine (eachGone_any a2 n2 c2 x.ents W (HRK.out W hI.bel).1.en HZ.out.2.2.1 (HRK.out W hI.bel).2).mono ?_
      rintro e W2 ⟨p2, d2, sl, rfl, ho, hlen, hb⟩
      have hbr : EnF w1.heap.size n2 x.ents (.slice p2 n2 d2) W2 := ⟨p2, d2, sl, rfl, ho.monoC hS, hlen⟩
      refine ⟨_, rfl, hKQ.out _ _ ⟨hI.putq 5 8 (fun j hj => by rcases List.mem_singleton.1 hj with rfl; exact edge hED 4 (by kernel_rfl)) rfl (by rw [hz]; decide) rfl hUN rfl HBB (ccS_stb x a1 n1 c1 a2 n2 c2 a3 n3 c3 w.heap.size w1.heap.size) hb hbr, hJ.call5 _ hUN hb (fun h2 _ => ?_), Nat.le_trans hS hb.size⟩⟩
      rw [upd_ne (by decide)] at h2
      obtain ⟨p1, d1, e1, hN⟩ := hI.got 2 (of_decide_eq_true rfl) h2 rfl
      rw [aT_put_eq (by rw [hI.fr.size, hz]; decide), aT_put_ne (by decide)]
      refine ⟨p1, d1, p2, d2, sl, e1, ownsRow_below hN hb, rfl, ho.monoC hS, hlen, fun j hj g hg e => ?_⟩
      have q1 := ownsRow_in hN g e
      have q2 := ownsRow_in (ho.each j hj) g hg
      omega
    · rintro lQ b W ⟨hI, hJ, hS⟩ hUN hED KQ hKQ
      exact opw_field 36 1 8 rfl _ ((hI.fr.same 1 (by decide)).trans g1) _ (by kernel_rfl) (hKQ.out _ _ ⟨hI.put 6 9 rfl rfl (by rw [hz]; decide) rfl hUN rfl HBB (ccS_stb x a1 n1 c1 a2 n2 c2 a3 n3 c3 w.heap.size w1.heap.size) (Below.refl _ _) rfl, hJ.put 6 9 _ (by decide) (by decide) (Below.refl _ _), hS⟩)
    · rintro lQ b W ⟨hI, hJ, hS⟩ hUN hED KQ hKQ
      have f : aT b 9 = .pointer (some ⟨w.heap.size, 8, none⟩) := hI.got 6 (of_decide_eq_true rfl) (edge hED 6 (by kernel_rfl)) rfl
      have h7 : lQ 14 = false := unC (fun h => by
        have h1 := hI.cl 8 (of_decide_eq_true rfl) (hJ.e14 h) 7 (List.Mem.head _)
        rw [show lQ 7 = false from hUN] at h1
        cases h1)
      obtain ⟨u0, u7, u8, hg, i1, i2, i3, i4, i5, i6⟩ := hJ.box
      obtain rfl := i5 h7
      have hc : W.cell? ⟨w.heap.size, 8, none⟩ = some (.slice a3 n3 c3) := (cell_of_row _ _ 8 _ _ (0, 0) hg).trans rfl
      exact opw_load1C 26 9 rfl _ f _ (by simp [Instr.loadAt, go_sem, hc]) (hKQ.out _ _ ⟨hI.put 7 10 rfl rfl (by rw [hz]; decide) rfl hUN rfl HBB (ccS_stb x a1 n1 c1 a2 n2 c2 a3 n3 c3 w.heap.size w1.heap.size) (Below.refl _ _) rfl, hJ.put 7 10 _ (by decide) (by decide) (Below.refl _ _), hS⟩)
    · rintro lQ b W ⟨hI, hJ, hS⟩ hUN hED KQ hKQ
      have f0 : aT b 10 = .slice a3 n3 c3 := hI.got 7 (of_decide_eq_true rfl) (edge hED 7 (by kernel_rfl)) rfl
      refine opw_call 97 #[.tmp 10] _ _ _ rfl Tryd.func97 (by kernel_rfl) rfl #[.slice a3 n3 c3] (by simp [ev, f0]) ?_
      refine (clone_any a3 n3 c3 x.sig W (HRK.out W hI.bel).1.sg hn3 HZ.out.2.2.2.2).mono ?_
      rintro e W2 ⟨p3, d3, rfl, ho, hb⟩
      have hbr : SgF w1.heap.size n3 x.sig (.slice p3 n3 d3) W2 := ⟨p3, d3, rfl, ho.mono hS⟩
      exact ⟨_, rfl, hKQ.out _ _ ⟨hI.putq 8 11 (fun j hj => by rcases List.mem_singleton.1 hj with rfl; exact edge hED 7 (by kernel_rfl)) rfl (by rw [hz]; decide) rfl hUN rfl HBB (ccS_stb x a1 n1 c1 a2 n2 c2 a3 n3 c3 w.heap.size w1.heap.size) hb hbr, hJ.call8 _ hUN hb, Nat.le_trans hS hb.size⟩⟩
    · rintro lQ b W ⟨hI, hJ, hS⟩ hUN hED KQ hKQ
      exact opw_field 36 1 0 rfl _ ((hI.fr.same 1 (by decide)).trans g1) _ (by kernel_rfl) (hKQ.out _ _ ⟨hI.put 9 12 rfl rfl (by rw [hz]; decide) rfl hUN rfl HBB (ccS_stb x a1 n1 c1 a2 n2 c2 a3 n3 c3 w.heap.size w1.heap.size) (Below.refl _ _) rfl, hJ.put 9 12 _ (by decide) (by decide) (Below.refl _ _), hS⟩)
    · rintro lQ b W ⟨hI, hJ, hS⟩ hUN hED KQ hKQ
      have fp : aT b 12 = .pointer (some ⟨w.heap.size, 0, none⟩) := hI.got 9 (of_decide_eq_true rfl) (edge hED 9 (by kernel_rfl)) rfl
      have fu := hI.got 2 (of_decide_eq_true rfl) (edge hED 2 (by kernel_rfl)) rfl
      obtain ⟨p, q, f⟩ : ∃ p q, aT b 5 = .agg #[.slice p n1 q] := by
        obtain ⟨p, q, e, _⟩ := fu
        exact ⟨p, q, e⟩
      obtain ⟨u0, u7, u8, hgb, i1, i2, i3, i4, i5, i6⟩ := hJ.box
      obtain rfl := i1 hUN
      have hcc : W.cell? ⟨w.heap.size, 0, none⟩ = some (.slice a1 n1 c1) := (cell_of_row _ _ 0 _ _ (0, 0) hgb).trans rfl
      have hfz := frozen_of_row W _ 0 _ _ hgb
      refine opw_storeC 33 12 5 rfl ⟨w.heap.size, 0, none⟩ _ fp f (W.setCell ⟨w.heap.size, 0, none⟩ (.slice p n1 q)) (by simp [Instr.storeAt, go_sem, hcc, hfz]) ?_
      have ht : Touch w.heap.size (w.heap.size + 1) W (W.setCell ⟨w.heap.size, 0, none⟩ (.slice p n1 q)) := touch_setC _ _ _ _ (Nat.le_refl _) (Nat.lt_succ_self _)
      exact hKQ.out _ _ ⟨hI.store 10 (fun j hj => by cases hj) (hI.bel.trans (ht.below (Nat.le_refl _) (Nat.le_trans HBB hI.bel.size))) (fun k hk _ _ v hf => ccS_st x a1 n1 c1 a2 n2 c2 a3 n3 c3 w.heap.size w1.heap.size hGR ht k hk v hf) trivial, hJ.store10 hGR (.slice p n1 q) f (edge hED 2 (by kernel_rfl)) ht (fun u0 u7 u8 hx => (heap_setCell_same W _ 0 _ _ _ hx).trans rfl), Nat.le_trans hS ht.size⟩
    · rintro lQ b W ⟨hI, hJ, hS⟩ hUN hED KQ hKQ
      exact opw_field 36 1 7 rfl _ ((hI.fr.same 1 (by decide)).trans g1) _ (by kernel_rfl) (hKQ.out _ _ ⟨hI.put 11 13 rfl rfl (by rw [hz]; decide) rfl hUN rfl HBB (ccS_stb x a1 n1 c1 a2 n2 c2 a3 n3 c3 w.heap.size w1.heap.size) (Below.refl _ _) rfl, hJ.put 11 13 _ (by decide) (by decide) (Below.refl _ _), hS⟩)
    · rintro lQ b W ⟨hI, hJ, hS⟩ hUN hED KQ hKQ
      have fp : aT b 13 = .pointer (some ⟨w.heap.size, 7, none⟩) := hI.got 11 (of_decide_eq_true rfl) (edge hED 11 (by kernel_rfl)) rfl
      have fu := hI.got 5 (of_decide_eq_true rfl) (edge hED 5 (by kernel_rfl)) rfl
      obtain ⟨p, q, f⟩ : ∃ p q, aT b 8 = .slice p n2 q := by
        obtain ⟨p, q, _, e, _⟩ := fu
        exact ⟨p, q, e⟩
      obtain ⟨u0, u7, u8, hgb, i1, i2, i3, i4, i5, i6⟩ := hJ.box
      obtain rfl := i3 hUN
      have hcc : W.cell? ⟨w.heap.size, 7, none⟩ = some (.slice a2 n2 c2) := (cell_of_row _ _ 7 _ _ (0, 0) hgb).trans rfl
      have hfz := frozen_of_row W _ 7 _ _ hgb
      refine opw_storeC 34 13 8 rfl ⟨w.heap.size, 7, none⟩ _ fp f (W.setCell ⟨w.heap.size, 7, none⟩ (.slice p n2 q)) (by simp [Instr.storeAt, go_sem, hcc, hfz]) ?_
      have ht : Touch w.heap.size (w.heap.size + 1) W (W.setCell ⟨w.heap.size, 7, none⟩ (.slice p n2 q)) := touch_setC _ _ _ _ (Nat.le_refl _) (Nat.lt_succ_self _)
      exact hKQ.out _ _ ⟨hI.store 12 (fun j hj => by cases hj) (hI.bel.trans (ht.below (Nat.le_refl _) (Nat.le_trans HBB hI.bel.size))) (fun k hk _ _ v hf => ccS_st x a1 n1 c1 a2 n2 c2 a3 n3 c3 w.heap.size w1.heap.size hGR ht k hk v hf) trivial, hJ.store12 hGR (.slice p n2 q) f (edge hED 5 (by kernel_rfl)) ht (fun u0 u7 u8 hx => (heap_setCell_same W _ 7 _ _ _ hx).trans rfl), Nat.le_trans hS ht.size⟩
    · rintro lQ b W ⟨hI, hJ, hS⟩ hUN hED KQ hKQ
      exact opw_field 36 1 8 rfl _ ((hI.fr.same 1 (by decide)).trans g1) _ (by kernel_rfl) (hKQ.out _ _ ⟨hI.put 13 14 rfl rfl (by rw [hz]; decide) rfl hUN rfl HBB (ccS_stb x a1 n1 c1 a2 n2 c2 a3 n3 c3 w.heap.size w1.heap.size) (Below.refl _ _) rfl, hJ.put 13 14 _ (by decide) (by decide) (Below.refl _ _), hS⟩)
    · rintro lQ b W ⟨hI, hJ, hS⟩ hUN hED KQ hKQ
      have fp : aT b 14 = .pointer (some ⟨w.heap.size, 8, none⟩) := hI.got 13 (of_decide_eq_true rfl) (edge hED 13 (by kernel_rfl)) rfl
      have fu := hI.got 8 (of_decide_eq_true rfl) (edge hED 8 (by kernel_rfl)) rfl
      obtain ⟨p, q, f⟩ : ∃ p q, aT b 11 = .slice p n3 q := by
        obtain ⟨p, q, e, _⟩ := fu
        exact ⟨p, q, e⟩
      obtain ⟨u0, u7, u8, hgb, i1, i2, i3, i4, i5, i6⟩ := hJ.box
      obtain rfl := i5 hUN
      have hcc : W.cell? ⟨w.heap.size, 8, none⟩ = some (.slice a3 n3 c3) := (cell_of_row _ _ 8 _ _ (0, 0) hgb).trans rfl
      have hfz := frozen_of_row W _ 8 _ _ hgb
      refine opw_storeC 26 14 11 rfl ⟨w.heap.size, 8, none⟩ _ fp f (W.setCell ⟨w.heap.size, 8, none⟩ (.slice p n3 q)) (by simp [Instr.storeAt, go_sem, hcc, hfz]) ?_
      have ht : Touch w.heap.size (w.heap.size + 1) W (W.setCell ⟨w.heap.size, 8, none⟩ (.slice p n3 q)) := touch_setC _ _ _ _ (Nat.le_refl _) (Nat.lt_succ_self _)
      exact hKQ.out _ _ ⟨hI.store 14 (fun j hj => by cases hj) (hI.bel.trans (ht.below (Nat.le_refl _) (Nat.le_trans HBB hI.bel.size))) (fun k hk _ _ v hf => ccS_st x a1 n1 c1 a2 n2 c2 a3 n3 c3 w.heap.size w1.heap.size hGR ht k hk v hf) trivial, hJ.store14 hGR (.slice p n3 q) f (edge hED 8 (by kernel_rfl)) ht (fun u0 u7 u8 hx => (heap_setCell_same W _ 8 _ _ _ hx).trans rfl), Nat.le_trans hS ht.size⟩
  · rintro l b W ⟨hI, hJ, hS⟩ hall
    obtain ⟨p1, d1, p2, d2, p3, d3, sl, hbx, q1, q2, q3, q4, q5⟩ := hJ.done (hI.got 8 (of_decide_eq_true rfl) (hall 8) rfl) hall
    have hrs := hJ.res
    have hbW := hI.bel
    rw [hI.fr.eq]
    simp only [puts, Act.put, List.setIfInBounds_toArray, List.set_cons_zero, List.set_cons_succ]
    generalize aT b = AT
    have HX : Hid (_ ∧ _ ∧ _ ∧ _ ∧ _) := ⟨q1, q2, q3, q4, q5⟩
    have HBX : Hid (W.heap[w.heap.size]? = some (.cells #[.slice p1 n1 d1, .int .i64 x.num, .int .i64 x.base, .int .i64 x.tm, .int .i64 x.next, .int .i64 x.scope, .bool x.ind, .slice p2 n2 d2, .slice p3 n3 d3] 36 (0, 0)) ∧ W.heap[w.heap.size + 1]? = some (.cells #[.slice none 0 0, .int .i64 0, .int .i64 0, .int .i64 0, .int .i64 0, .int .i64 0, .bool false, .slice none 0 0, .slice none 0 0] 36 (0, 0))) := ⟨hbx, hrs⟩
    clear hI hJ hall HB1 q1 q2 q3 q4 q5 hbx hrs
    go_wp2_with (first | (refine wpList_load_row rfl 36 _ rfl w.heap.size rfl 36 #[.slice p1 n1 d1, .int .i64 x.num, .int .i64 x.base, .int .i64 x.tm, .int .i64 x.next, .int .i64 x.scope, .bool x.ind, .slice p2 n2 d2, .slice p3 n3 d3] (0, 0) _ HBX.out.1 Tryd.underlying36 rfl infoSizeCrl ?_) | (refine wpList_store_rowTo rfl 36 _ _ rfl rfl (w.heap.size + 1) #[.slice p1 n1 d1, .int .i64 x.num, .int .i64 x.base, .int .i64 x.tm, .int .i64 x.next, .int .i64 x.scope, .bool x.ind, .slice p2 n2 d2, .slice p3 n3 d3] rfl rfl 36 #[.slice none 0 0, .int .i64 0, .int .i64 0, .int .i64 0, .int .i64 0, .int .i64 0, .bool false, .slice none 0 0, .slice none 0 0] HBX.out.2 infoSizeCrl rfl (by simp [Value.oneCell']) ?_))
    have q6 := setRow_heap W (w.heap.size + 1) _ #[.slice p1 n1 d1, .int .i64 x.num, .int .i64 x.base, .int .i64 x.tm, .int .i64 x.next, .int .i64 x.scope, .bool x.ind, .slice p2 n2 d2, .slice p3 n3 d3] 36 (0, 0) HBX.out.2
    have tt := setRow_touch W (w.heap.size + 1) #[.slice p1 n1 d1, .int .i64 x.num, .int .i64 x.base, .int .i64 x.tm, .int .i64 x.next, .int .i64 x.scope, .bool x.ind, .slice p2 n2 d2, .slice p3 n3 d3]
    try simp only [Exit.inBlock, Exit.then]
    have hrow := owns_touchC HX.out.1 tt (by omega)
    have hEQ := HX.out.2.1.touchC tt (by omega)
    have hown : Own w1.heap.size (W.setRow (w.heap.size + 1) #[.slice p1 n1 d1, .int .i64 x.num, .int .i64 x.base, .int .i64 x.tm, .int .i64 x.next, .int .i64 x.scope, .bool x.ind, .slice p2 n2 d2, .slice p3 n3 d3]) p3 n3 d3 x.sig := ⟨owns_touchC HX.out.2.2.2.2.row tt (by omega), HX.out.2.2.2.2.byte⟩
    have hcl := cloned_of (owns_monoC hrow HBB) (hEQ.monoC HBB) (hown.mono HBB) HX.out.2.2.1 HL.out.1 HL.out.2 hown.toRow HZ.out HX.out.2.2.2.1
    have hct : CrsT w.heap.size (W.setRow (w.heap.size + 1) #[.slice p1 n1 d1, .int .i64 x.num, .int .i64 x.base, .int .i64 x.tm, .int .i64 x.next, .int .i64 x.scope, .bool x.ind, .slice p2 n2 d2, .slice p3 n3 d3]) p1 n1 p2 n2 p3 n3 x := fun W' lo hi t2 h3 => by
      have ho2 : Own w1.heap.size W' p3 n3 d3 x.sig := ⟨owns_touchC hown.row t2 (by omega), hown.byte⟩
      exact (cloned_of (owns_monoC (owns_touchC hrow t2 (by omega)) HBB) ((hEQ.touchC t2 (by omega)).monoC HBB) (ho2.mono HBB) HX.out.2.2.1 HL.out.1 HL.out.2 ho2.toRow HZ.out HX.out.2.2.2.1).1
    exact bodyPost_ret (results_cell_row (by rfl) _ _ (w.heap.size + 1) _ _ (0, 0) _ rfl q6 Tryd.underlying36 rfl infoSizeCrl) rfl ⟨p1, d1, p2, d2, p3, d3, sl, rfl, hct, hcl.2, (hbb.trans hbW).trans (tt.below (by omega) (hbb.trans hbW).size)⟩

end Go.Proofs.YtbfjkmlmnhphoaaDoor
