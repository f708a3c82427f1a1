import Derived.Test.YtbfjkmlmnhphoaaDoorAQ1
import Derived.Deep.MidRow
namespace Go.Proofs.YtbfjkmlmnhphoaaDoor
open Go.RowKit

instance : Inhabited CP := ⟨⟨[], 0, 0, 0, 0, 0, false, [], []⟩⟩
/-- The nine cells of a list from o on. -/
structure Cells9 (w : World) (b o : Nat) (a1 : Option Addr) (n1 d1 : Nat) (a2 : Option Addr) (n2 d2 : Nat) (a3 : Option Addr) (n3 d3 : Nat) (x : CP) : Prop where
  c0 : w.cell? ⟨b, o, none⟩ = some (.slice a1 n1 d1)
  c1 : w.cell? ⟨b, o + 1, none⟩ = some (.int .i64 x.num)
  c2 : w.cell? ⟨b, o + 2, none⟩ = some (.int .i64 x.base)
  c3 : w.cell? ⟨b, o + 3, none⟩ = some (.int .i64 x.tm)
  c4 : w.cell? ⟨b, o + 4, none⟩ = some (.int .i64 x.next)
  c5 : w.cell? ⟨b, o + 5, none⟩ = some (.int .i64 x.scope)
  c6 : w.cell? ⟨b, o + 6, none⟩ = some (.bool x.ind)
  c7 : w.cell? ⟨b, o + 7, none⟩ = some (.slice a2 n2 d2)
  c8 : w.cell? ⟨b, o + 8, none⟩ = some (.slice a3 n3 d3)
theorem Cells9.of {w w' : World} {b o : Nat} {a1 : Option Addr} {n1 d1 : Nat} {a2 : Option Addr} {n2 d2 : Nat} {a3 : Option Addr} {n3 d3 : Nat} {x : CP} (h : Cells9 w b o a1 n1 d1 a2 n2 d2 a3 n3 d3 x) (hc : ∀ i, w'.cell? ⟨b, i, none⟩ = w.cell? ⟨b, i, none⟩) : Cells9 w' b o a1 n1 d1 a2 n2 d2 a3 n3 d3 x :=
  ⟨(hc _).trans h.c0, (hc _).trans h.c1, (hc _).trans h.c2, (hc _).trans h.c3, (hc _).trans h.c4, (hc _).trans h.c5, (hc _).trans h.c6, (hc _).trans h.c7, (hc _).trans h.c8⟩
/-- The slice at a reads as these lists. -/
structure Cls (w : World) (a : Option Addr) (n : Nat) (xs : List CP) : Prop where
  len : xs.length = n
  max : n ≤ 9223372036854775807
  get : ∀ k, k < n → ∃ b off a1 n1 d1 a2 n2 d2 a3 n3 d3, a = some ⟨b, off, none⟩ ∧ b < w.heap.size ∧ Cells9 w b (off + k * 9) a1 n1 d1 a2 n2 d2 a3 n3 d3 (xs.getD k default) ∧ Crs w a1 n1 a2 n2 a3 n3 (xs.getD k default)
theorem Cls.kept {w w' : World} {a : Option Addr} {n : Nat} {xs : List CP} (h : Cls w a n xs) (hb : Below w.heap.size w w') : Cls w' a n xs := by
  refine ⟨h.len, h.max, fun k hk => ?_⟩
  obtain ⟨b, off, a1, n1, d1, a2, n2, d2, a3, n3, d3, ha, hlt, hc, hp⟩ := h.get k hk
  exact ⟨b, off, a1, n1, d1, a2, n2, d2, a3, n3, d3, ha, Nat.lt_of_lt_of_le hlt hb.size, hc.of (fun i => hb.cell (p := ⟨b, i, none⟩) hlt), hp.kept hb⟩
/-- It is small. -/
def ClOk (x : CP) : Prop := CpOk x.parts.length x.ents.length x.sig.length x
theorem Crs.lens {w : World} {a1 : Option Addr} {n1 : Nat} {a2 : Option Addr} {n2 : Nat} {a3 : Option Addr} {n3 : Nat} {x : CP} (h : Crs w a1 n1 a2 n2 a3 n3 x) : ClOk x ↔ CpOk n1 n2 n3 x := by
  unfold ClOk
  rw [h.nm.len, h.en.len, h.sg.len]

set_option maxRecDepth 10000 in
set_option maxHeartbeats 2000000 in
theorem szCrlS_any (a : Option Addr) (n cap : Nat) (xs : List CP) (lf : Int) (w : World) (h : Cls w a n xs) (hl0 : 0 ≤ lf) (hl1 : lf ≤ 1048576) :
    Calls Tryd.prog 18 #[.slice a n cap, .int .i64 lf] w fun e w' => ∃ r, e = .returned (.int .i64 r) ∧ (r < 0 ∨ (0 ≤ r ∧ r ≤ 1048576 ∧ n ≤ 1048576 ∧ ∀ k, k < n → ClOk (xs.getD k default))) ∧ Below w.heap.size w w' := by
  have H0 : Hid (Cls w a n xs) := h
  have hn := h.max
  clear h
  by_cases hlt : (n : Int) ≤ lf
  · go_enter Tryd.func18, Tryd.ntmps18
    go_wp2
    go_loopw [1, 5] (fun l i wr => ∃ (k : Nat) (left : Int), k ≤ n ∧ i = .int .i64 k ∧ l = .int .i64 left ∧ 0 ≤ left ∧ left ≤ 1048576 ∧ Hid (∀ j, j < k → ClOk (xs.getD j default)) ∧ Below w.heap.size w wr) (fun _ i _ => n - (intOf i).toNat)
    case atStart => exact ⟨0, lf - n, Nat.zero_le _, rfl, rfl, by omega, by omega, fun j hj => absurd hj (Nat.not_lt_zero _), Below.refl _ _⟩
    case round =>
      obtain ⟨k, left, hk, rfl, rfl, h0, h1, HA, hbr⟩ := hrel
      by_cases hkn : k < n
      · obtain ⟨b, off, a1, n1, d1, a2, n2, d2, a3, n3, d3, rfl, hlb, hc, hp⟩ := H0.out.get k hkn
        obtain ⟨y, hy⟩ : ∃ y, y = xs.getD k default := ⟨_, rfl⟩
        rw [← hy] at hc hp
        have HY : Hid (y = xs.getD k default) := hy
        obtain ⟨c0, c1, c2, c3, c4, c5, c6, c7, c8⟩ := hc.of (w' := wr) (fun i => hbr.cell (p := ⟨b, i, none⟩) hlb)
        have HP : Hid (Crs wr a1 n1 a2 n2 a3 n3 y) := hp.kept hbr
        have hkni : (k : Int) < (n : Int) := by omega
        clear hc hy hp
        go_wp2_with fail
        refine (szCrl_any a1 n1 d1 a2 n2 d2 a3 n3 d3 y left _ HP.out h0 h1).mono ?_
        rintro e w2 ⟨r, rfl, hr, hb2⟩
        have hb2' : Below w.heap.size w w2 := hbr.trans (hb2.mono hbr.size)
        by_cases hneg : r < 0
        · clear hr
          go_wp2
          go_ret
          exact ⟨_, rfl, .inl (by decide), hb2'⟩
        · have hr1 : 0 ≤ r := by omega
          have hr2 : r ≤ 1048576 := by omega
          have HR : Hid (ClOk y) := HP.out.lens.2 (by rcases hr with h | h; exact absurd h hneg; exact h.2.2)
          clear hr
          go_wp2
          go_roundw
          case rel =>
            refine ⟨k + 1, r, by omega, by go_num, rfl, hr1, hr2, fun j hj => ?_, hb2'⟩
            by_cases hjk : j = k
            · subst hjk; rw [← HY.out]; exact HR.out
            · exact HA.out j (by omega)
          case measure => simp [intOf]; omega
      · obtain rfl : n = k := by omega
        go_wp2
        go_ret
        exact ⟨_, rfl, .inr ⟨h0, h1, by omega, HA.out⟩, hbr⟩
  · go_enter Tryd.func18, Tryd.ntmps18
    go_wp2
    go_ret
    exact ⟨_, rfl, .inl (by decide), Below.refl _ _⟩

set_option maxRecDepth 10000 in
set_option maxHeartbeats 4000000 in
theorem eqCrlS_same (a b : Option Addr) (n ca cb : Nat) (xs : List CP) (w : World) (h : Cls w a n xs) (h2 : Cls w b n xs) (hz : ∀ k, k < n → ClOk (xs.getD k default)) :
    Calls Tryd.prog 25 #[.slice a n ca, .slice b n cb] w fun e w' => e = .returned (.bool true) ∧ Below w.heap.size w w' := by
  have HK : Hid (Cls w a n xs) := h
  have HK2 : Hid (Cls w b n xs) := h2
  have HZ : Hid (∀ k, k < n → ClOk (xs.getD k default)) := hz
  have hn := h.max
  clear h h2 hz
  go_enter Tryd.func25, Tryd.ntmps25
  go_wp2
  go_loopw [5] (fun i wr => ∃ k : Nat, k ≤ n ∧ i = .int .i64 k ∧ Below w.heap.size w wr) (fun i _ => n - (intOf i).toNat)
  case atStart => exact ⟨0, Nat.zero_le _, rfl, Below.refl _ _⟩
  case round =>
    obtain ⟨k, hk, rfl, hbr⟩ := hrel
    by_cases hkn : k < n
    · obtain ⟨b1, off1, p1, n1, d1, p2, n2, d2, p3, n3, d3, rfl, hl1, hc1, hp1⟩ := HK.out.get k hkn
      obtain ⟨b2, off2, q1, m1, e1, q2, m2, e2, q3, m3, e3, rfl, hl2, hc2, hp2⟩ := HK2.out.get k hkn
      have hgp := HZ.out k hkn
      obtain ⟨y, hy⟩ : ∃ y, y = xs.getD k default := ⟨_, rfl⟩
      rw [← hy] at hc1 hc2 hp1 hp2 hgp
      clear hy
      obtain rfl : m1 = n1 := by rw [← hp2.nm.len, ← hp1.nm.len]
      obtain rfl : m2 = n2 := by rw [← hp2.en.len, ← hp1.en.len]
      obtain rfl : m3 = n3 := by rw [← hp2.sg.len, ← hp1.sg.len]
      have h3 : m3 ≤ 1048576 := (hp1.lens.1 hgp).2.2.2.2
      obtain ⟨c0, c1, c2, c3, c4, c5, c6, c7, c8⟩ := hc1.of (w' := wr) (fun i => hbr.cell (p := ⟨b1, i, none⟩) hl1)
      obtain ⟨u0, u1, u2, u3, u4, u5, u6, u7, u8⟩ := hc2.of (w' := wr) (fun i => hbr.cell (p := ⟨b2, i, none⟩) hl2)
      have HP1 : Hid (Crs wr.drew p1 m1 p2 m2 p3 m3 y) := hp1.kept hbr.drew
      have HP2 : Hid (Crs wr.drew q1 m1 q2 m2 q3 m3 y) := hp2.kept hbr.drew
      have hkni : (k : Int) < (n : Int) := by omega
      have hs := hbr.size
      clear hc1 hc2 hp1 hp2 hgp
      go_wp2_with fail
      go_region_with (go_at_call 11; refine (eqCrl_same p1 m1 d1 p2 m2 d2 p3 m3 d3 q1 e1 q2 e2 q3 e3 y _ HP1.out HP2.out h3).mono ?_; rintro e w2 ⟨rfl, hb2⟩)
      all_goals
        have b5 : Below w.heap.size w w2 := hbr.drew.trans (hb2.mono hs)
        go_wp2
        go_roundw
        case rel => exact ⟨k + 1, by omega, by go_num, b5⟩
        case measure => simp [intOf]; omega
    · go_wp2
      go_ret
      exact ⟨rfl, hbr⟩

theorem Tryd.infoCr : (Tryd.prog.info? 36).map (fun i => (i.zero, i.size, i.bytes)) = some (some (.agg #[.slice none 0 0, .int .i64 0, .int .i64 0, .int .i64 0, .int .i64 0, .int .i64 0, .bool false, .slice none 0 0, .slice none 0 0]), 9, 120) := by kernel_rfl

/-- Nine cells of the row g are written, from o on. -/
def put9 (w : World) (g o : Nat) (v0 v1 v2 v3 v4 v5 v6 v7 v8 : Value) : World := (((((((((w.setCell ⟨g, o, none⟩ v0).setCell ⟨g, o + 1, none⟩ v1).setCell ⟨g, o + 2, none⟩ v2).setCell ⟨g, o + 3, none⟩ v3).setCell ⟨g, o + 4, none⟩ v4).setCell ⟨g, o + 5, none⟩ v5).setCell ⟨g, o + 6, none⟩ v6).setCell ⟨g, o + 7, none⟩ v7).setCell ⟨g, o + 8, none⟩ v8)
theorem put9_other (w : World) (g o l : Nat) (h : l ≠ g) (v0 v1 v2 v3 v4 v5 v6 v7 v8 : Value) : (put9 w g o v0 v1 v2 v3 v4 v5 v6 v7 v8).heap[l]? = w.heap[l]? :=
  (Below.heap_setCell _ _ _ _ (by show l ≠ g; exact h)).trans ((Below.heap_setCell _ _ _ _ (by show l ≠ g; exact h)).trans ((Below.heap_setCell _ _ _ _ (by show l ≠ g; exact h)).trans ((Below.heap_setCell _ _ _ _ (by show l ≠ g; exact h)).trans ((Below.heap_setCell _ _ _ _ (by show l ≠ g; exact h)).trans ((Below.heap_setCell _ _ _ _ (by show l ≠ g; exact h)).trans ((Below.heap_setCell _ _ _ _ (by show l ≠ g; exact h)).trans ((Below.heap_setCell _ _ _ _ (by show l ≠ g; exact h)).trans (Below.heap_setCell _ _ _ _ (by show l ≠ g; exact h)))))))))
theorem put9_size (w : World) (g o : Nat) (v0 v1 v2 v3 v4 v5 v6 v7 v8 : Value) : (put9 w g o v0 v1 v2 v3 v4 v5 v6 v7 v8).heap.size = w.heap.size := by simp [put9]

theorem put9_below {B : Nat} {w0 w : World} (h : Below B w0 w) (g o : Nat) (hg : B ≤ g) (v0 v1 v2 v3 v4 v5 v6 v7 v8 : Value) : Below B w0 (put9 w g o v0 v1 v2 v3 v4 v5 v6 v7 v8) :=
  (((((((((h.setCell hg _).setCell hg _).setCell hg _).setCell hg _).setCell hg _).setCell hg _).setCell hg _).setCell hg _).setCell hg _)

/-- The first k lists lie in the row g, what they have behind it. -/
def CrPre (w : World) (g k : Nat) (xs : List CP) : Prop := ∀ j, j < k → ∃ p1 n1 p2 n2 p3 n3, Cells9 w g (j * 9) p1 n1 n1 p2 n2 n2 p3 n3 n3 (xs.getD j default) ∧ Keeps (g + 1) w (fun W => Crs W p1 n1 p2 n2 p3 n3 (xs.getD j default))
theorem CrPre.kept {w w' : World} {g k : Nat} {xs : List CP} (h : CrPre w g k xs) (hg : g < w.heap.size) (hb : Below w.heap.size w w') : CrPre w' g k xs := fun j hj => by
  obtain ⟨p1, n1, p2, n2, p3, n3, h3, h4⟩ := h j hj
  exact ⟨p1, n1, p2, n2, p3, n3, h3.of (fun i => hb.cell (p := ⟨g, i, none⟩) hg), stab_keeps _ _ w w' (fun l _ hl => hb.block l hl) hb.size h4⟩

structure Put9 (B : Nat) (w w' : World) (g n cap i : Nat) (a1 : Option Addr) (n1 d1 : Nat) (a2 : Option Addr) (n2 d2 : Nat) (a3 : Option Addr) (n3 d3 : Nat) (x : CP) : Prop where
  own : ∃ vs, w'.ownsRow B 36 9 (.slice (some ⟨g, 0, none⟩) n cap) n vs
  other : ∀ l, l ≠ g → w'.heap[l]? = w.heap[l]?
  size : w'.heap.size = w.heap.size
  old : ∀ j, j < n * 9 → j < i * 9 ∨ i * 9 + 9 ≤ j → w'.cell? ⟨g, j, none⟩ = w.cell? ⟨g, j, none⟩
  cells : Cells9 w' g (i * 9) a1 n1 d1 a2 n2 d2 a3 n3 d3 x

set_option maxRecDepth 10000 in
set_option maxHeartbeats 1000000 in
theorem put9_is {B : Nat} {w : World} {g n cap : Nat} {vs : List Value} (h : w.ownsRow B 36 9 (.slice (some ⟨g, 0, none⟩) n cap) n vs) (i : Nat) (hi : i < n) (a1 : Option Addr) (n1 d1 : Nat) (a2 : Option Addr) (n2 d2 : Nat) (a3 : Option Addr) (n3 d3 : Nat) (x : CP) : Put9 B w (put9 w g (i * 9) (.slice a1 n1 d1) (.int .i64 x.num) (.int .i64 x.base) (.int .i64 x.tm) (.int .i64 x.next) (.int .i64 x.scope) (.bool x.ind) (.slice a2 n2 d2) (.slice a3 n3 d3)) g n cap i a1 n1 d1 a2 n2 d2 a3 n3 d3 x := by
  have h1 := (((((((((h.stored (i * 9) (.slice a1 n1 d1)).1.stored (i * 9 + 1) (.int .i64 x.num)).1.stored (i * 9 + 2) (.int .i64 x.base)).1.stored (i * 9 + 3) (.int .i64 x.tm)).1.stored (i * 9 + 4) (.int .i64 x.next)).1.stored (i * 9 + 5) (.int .i64 x.scope)).1.stored (i * 9 + 6) (.bool x.ind)).1.stored (i * 9 + 7) (.slice a2 n2 d2)).1.stored (i * 9 + 8) (.slice a3 n3 d3)).1
  have hl : vs.length = n * 9 := h.1
  have cc := fun j (hj : j < n * 9) => h1.cellAt j hj
  refine ⟨⟨_, h1⟩, fun l hl => put9_other _ _ _ _ hl _ _ _ _ _ _ _ _ _, put9_size _ _ _ _ _ _ _ _ _ _ _ _, fun j hj ho => ?_, ⟨?_, ?_, ?_, ?_, ?_, ?_, ?_, ?_, ?_⟩⟩
  · refine (cc j hj).trans ?_
    rw [h.cellAt j hj]
    rw [List.getElem?_set_ne (by omega), List.getElem?_set_ne (by omega), List.getElem?_set_ne (by omega), List.getElem?_set_ne (by omega), List.getElem?_set_ne (by omega), List.getElem?_set_ne (by omega), List.getElem?_set_ne (by omega), List.getElem?_set_ne (by omega), List.getElem?_set_ne (by omega)]
  · refine (cc _ (by omega)).trans ?_
    rw [List.getElem?_set_ne (by omega), List.getElem?_set_ne (by omega), List.getElem?_set_ne (by omega), List.getElem?_set_ne (by omega), List.getElem?_set_ne (by omega), List.getElem?_set_ne (by omega), List.getElem?_set_ne (by omega), List.getElem?_set_ne (by omega), List.getElem?_set_self (by omega)]
  · refine (cc _ (by omega)).trans ?_
    rw [List.getElem?_set_ne (by omega), List.getElem?_set_ne (by omega), List.getElem?_set_ne (by omega), List.getElem?_set_ne (by omega), List.getElem?_set_ne (by omega), List.getElem?_set_ne (by omega), List.getElem?_set_ne (by omega), List.getElem?_set_self (by simp; omega)]
  · refine (cc _ (by omega)).trans ?_
    rw [List.getElem?_set_ne (by omega), List.getElem?_set_ne (by omega), List.getElem?_set_ne (by omega), List.getElem?_set_ne (by omega), List.getElem?_set_ne (by omega), List.getElem?_set_ne (by omega), List.getElem?_set_self (by simp; omega)]
  · refine (cc _ (by omega)).trans ?_
    rw [List.getElem?_set_ne (by omega), List.getElem?_set_ne (by omega), List.getElem?_set_ne (by omega), List.getElem?_set_ne (by omega), List.getElem?_set_ne (by omega), List.getElem?_set_self (by simp; omega)]
  · refine (cc _ (by omega)).trans ?_
    rw [List.getElem?_set_ne (by omega), List.getElem?_set_ne (by omega), List.getElem?_set_ne (by omega), List.getElem?_set_ne (by omega), List.getElem?_set_self (by simp; omega)]
  · refine (cc _ (by omega)).trans ?_
    rw [List.getElem?_set_ne (by omega), List.getElem?_set_ne (by omega), List.getElem?_set_ne (by omega), List.getElem?_set_self (by simp; omega)]
  · refine (cc _ (by omega)).trans ?_
    rw [List.getElem?_set_ne (by omega), List.getElem?_set_ne (by omega), List.getElem?_set_self (by simp; omega)]
  · refine (cc _ (by omega)).trans ?_
    rw [List.getElem?_set_ne (by omega), List.getElem?_set_self (by simp; omega)]
  · refine (cc _ (by omega)).trans ?_
    rw [List.getElem?_set_self (by simp; omega)]

set_option maxRecDepth 10000 in
set_option maxHeartbeats 4000000 in
theorem toCrlS_k (a : Option Addr) (n cap : Nat) (xs : List CP) (w : World) (h : Cls w a n xs) (hn : n ≤ 1048576) (hz : ∀ k, k < n → ClOk (xs.getD k default)) :
    Calls Tryd.prog 21 #[.slice a n cap] w fun e w' => ∃ a', e = .returned (.slice a' n n) ∧ Keeps w.heap.size w' (fun W => Cls W a' n xs) ∧ Below w.heap.size w w' := by
  obtain ⟨i0, hi, hz0, hz1, hz2⟩ := info_parts Tryd.infoCr
  have HK : Hid (Cls w a n xs) := h
  have HZ : Hid (∀ k, k < n → ClOk (xs.getD k default)) := hz
  have hlen : Hid (xs.length = n) := h.len
  clear h hz
  go_enter Tryd.func21, Tryd.ntmps21
  go_wp2_with (first | (at_make; refine wpList_make_full _ rfl _ _ 50 rfl w.heap.size 36 i0 _ 9 Tryd.underlying50 hi hz0 hz1 _ _ _ _ n rfl rfl rfl rfl (by rw [hz2]; omega) (by unfold maxLen; omega) (by exact Nat.le_refl _) ?_; intro w1 hown hgrow))
  have hbl : Below w.heap.size w w1 := (Below.refl _ _).grown hgrow (Nat.le_refl _) (by simp)
  clear hgrow hi hz0 hz1 hz2
  go_loopw [4] (fun i wr => ∃ k : Nat, k ≤ n ∧ i = .int .i64 k ∧ Hid (∃ vs, wr.ownsRow w.heap.size 36 9 (.slice (some ⟨w.heap.size, 0, none⟩) n n) n vs) ∧ Hid (CrPre wr w.heap.size k xs) ∧ Below w.heap.size w wr) (fun i _ => n - (intOf i).toNat)
  case atStart => exact ⟨0, Nat.zero_le _, rfl, ⟨_, hown⟩, fun j hj => absurd hj (Nat.not_lt_zero _), hbl⟩
  case round =>
    obtain ⟨k, hk, rfl, HOR, HPRE, hbr⟩ := hrel
    obtain ⟨vs, hor⟩ := HOR.out
    have hgl := (hor.lt _ rfl).2
    have HOV : Hid (_) := hor
    clear HOR hor hown hbl
    by_cases hkn : k < n
    · obtain ⟨b, off, a1, n1, d1, a2, n2, d2, a3, n3, d3, rfl, hlb, hc, hp⟩ := HK.out.get k hkn
      have hgp := HZ.out k hkn
      obtain ⟨y, hy⟩ : ∃ y, y = xs.getD k default := ⟨_, rfl⟩
      rw [← hy] at hc hp hgp
      have HY : Hid (y = xs.getD k default) := hy
      have HG : Hid (CpOk n1 n2 n3 y) := hp.lens.1 hgp
      obtain ⟨c0, c1, c2, c3, c4, c5, c6, c7, c8⟩ := hc.of (w' := wr) (fun i => hbr.cell (p := ⟨b, i, none⟩) hlb)
      have HP : Hid (Crs wr a1 n1 a2 n2 a3 n3 y) := hp.kept hbr
      have hkni : (k : Int) < (n : Int) := by omega
      have hs := hbr.size
      clear hc hy hp hgp
      go_wp2_with fail
      refine (toCrl_k a1 n1 d1 a2 n2 d2 a3 n3 d3 y _ HP.out HG.out).mono ?_
      rintro e w2 ⟨p1, p2, p3, rfl, hp2, hb2⟩
      have hor2 : w2.ownsRow w.heap.size 36 9 (.slice (some ⟨w.heap.size, 0, none⟩) n n) n vs := ownsRow_below HOV.out hb2
      have hs2 := hb2.size
      have fr : ∀ j, w2.frozen? ⟨w.heap.size, j, none⟩ = false := fun j => hor2.frozenAt j
      have hvl : vs.length = n * 9 := hor2.1
      have cx : ∀ j, j < n * 9 → ∃ z, w2.cell? ⟨w.heap.size, j, none⟩ = some z := fun j hj => ⟨_, (hor2.cellAt j hj).trans (List.getElem?_eq_getElem (by omega))⟩
      obtain ⟨z0, x0⟩ := cx (k * 9) (by omega)
      obtain ⟨z1, x1⟩ := cx (k * 9 + 1) (by omega)
      obtain ⟨z2, x2⟩ := cx (k * 9 + 2) (by omega)
      obtain ⟨z3, x3⟩ := cx (k * 9 + 3) (by omega)
      obtain ⟨z4, x4⟩ := cx (k * 9 + 4) (by omega)
      obtain ⟨z5, x5⟩ := cx (k * 9 + 5) (by omega)
      obtain ⟨z6, x6⟩ := cx (k * 9 + 6) (by omega)
      obtain ⟨z7, x7⟩ := cx (k * 9 + 7) (by omega)
      obtain ⟨z8, x8⟩ := cx (k * 9 + 8) (by omega)
      have f0 := fr (k * 9)
      have f1 := fr (k * 9 + 1)
      have f2 := fr (k * 9 + 2)
      have f3 := fr (k * 9 + 3)
      have f4 := fr (k * 9 + 4)
      have f5 := fr (k * 9 + 5)
      have f6 := fr (k * 9 + 6)
      have f7 := fr (k * 9 + 7)
      have f8 := fr (k * 9 + 8)
      have hS := put9_is hor2 k hkn p1 n1 n1 p2 n2 n2 p3 n3 n3 y
      have hP : CrPre (put9 w2 w.heap.size (k * 9) (.slice p1 n1 n1) (.int .i64 y.num) (.int .i64 y.base) (.int .i64 y.tm) (.int .i64 y.next) (.int .i64 y.scope) (.bool y.ind) (.slice p2 n2 n2) (.slice p3 n3 n3)) w.heap.size (k + 1) xs := by
        intro j hj
        by_cases hjk : j = k
        · subst hjk
          rw [← HY.out]
          exact ⟨p1, n1, p2, n2, p3, n3, hS.cells, stab_keeps _ _ w2 _ (fun l hl _ => hS.other l (by omega)) (Nat.le_of_eq hS.size.symm) (hp2.mono (by omega))⟩
        · obtain ⟨r1, m1, r2, m2, r3, m3, q2, q3⟩ := (HPRE.out.kept hgl hb2) j (by omega)
          have hx := hS.old
          exact ⟨r1, m1, r2, m2, r3, m3, ⟨(hx _ (by omega) (by omega)).trans q2.c0, (hx _ (by omega) (by omega)).trans q2.c1, (hx _ (by omega) (by omega)).trans q2.c2, (hx _ (by omega) (by omega)).trans q2.c3, (hx _ (by omega) (by omega)).trans q2.c4, (hx _ (by omega) (by omega)).trans q2.c5, (hx _ (by omega) (by omega)).trans q2.c6, (hx _ (by omega) (by omega)).trans q2.c7, (hx _ (by omega) (by omega)).trans q2.c8⟩, stab_keeps _ _ w2 _ (fun l hl _ => hS.other l (by omega)) (Nat.le_of_eq hS.size.symm) q3⟩
      have hB2 := hbr.trans (hb2.mono hs)
      have hB4 : Below w.heap.size w (put9 w2 w.heap.size (k * 9) (.slice p1 n1 n1) (.int .i64 y.num) (.int .i64 y.base) (.int .i64 y.tm) (.int .i64 y.next) (.int .i64 y.scope) (.bool y.ind) (.slice p2 n2 n2) (.slice p3 n3 n3)) := put9_below hB2 _ _ (Nat.le_refl _) _ _ _ _ _ _ _ _ _
      have FIN : Hid (_ ∧ _ ∧ _) := ⟨hS.own, hP, hB4⟩
      have hgl2 : w.heap.size < w2.heap.size := by omega
      clear fr cx hS hP hB4 hB2 hor2 hp2 hb2 hvl HPRE HOV HP HK
      unfold crv
      go_wp2
      go_roundw
      case rel => exact ⟨k + 1, by omega, by go_num, FIN.out.1, FIN.out.2.1, FIN.out.2.2⟩
      case measure => simp [intOf]; omega
    · obtain rfl : n = k := by omega
      have HX : Hid (n ≤ 9223372036854775807) := HK.out.max
      clear HOV HK
      go_wp2
      go_ret
      refine ⟨_, rfl, ⟨fun W => CrPre W w.heap.size n xs ∧ w.heap.size < W.heap.size, ?_, ⟨HPRE.out, hgl⟩, ?_⟩, hbr⟩
      · intro W W' e s r
        refine ⟨fun j hj => ?_, Nat.lt_of_lt_of_le r.2 s⟩
        obtain ⟨p1, m1, p2, m2, p3, m3, h3, h4⟩ := r.1 j hj
        exact ⟨p1, m1, p2, m2, p3, m3, h3.of (fun i => by simp [World.cell?, e w.heap.size (Nat.le_refl _) r.2]), stab_keeps _ _ W W' (fun l hl => e l (by omega)) s h4⟩
      · intro W r
        refine ⟨hlen.out, HX.out, fun j hj => ?_⟩
        obtain ⟨p1, m1, p2, m2, p3, m3, h3, h4⟩ := r.1 j hj
        exact ⟨w.heap.size, 0, _, _, _, _, _, _, _, _, _, rfl, r.2, by rw [Nat.zero_add]; exact h3, h4.now⟩

end Go.Proofs.YtbfjkmlmnhphoaaDoor
