import Derived.Test.YtifdcfchliaipaaQLM
import Derived.Deep.MidRow
namespace Go.Proofs.Ytifdcfchliaipaa
open Go.RowKit Go.Sort

/-- A tile. -/
structure TP where
  lv : Int
  ix : Int
  hs : List Int
  deriving Inhabited
def tlv (lv ix : Int) (a : Option Addr) (n c : Nat) : Value := .agg #[.int .i64 lv, .int .i64 ix, .slice a n c]
/-- The three cells of a tile from o on. -/
structure Cells3 (w : World) (b o : Nat) (a : Option Addr) (n c : Nat) (x : TP) : Prop where
  c0 : w.cell? ⟨b, o, none⟩ = some (.int .i64 x.lv)
  c1 : w.cell? ⟨b, o + 1, none⟩ = some (.int .i64 x.ix)
  c2 : w.cell? ⟨b, o + 2, none⟩ = some (.slice a n c)
theorem Cells3.of {w w' : World} {b o : Nat} {a : Option Addr} {n c : Nat} {x : TP} (h : Cells3 w b o a n c x) (hc : ∀ i, w'.cell? ⟨b, i, none⟩ = w.cell? ⟨b, i, none⟩) : Cells3 w' b o a n c x :=
  ⟨(hc _).trans h.c0, (hc _).trans h.c1, (hc _).trans h.c2⟩
/-- The slice at a reads as these tiles. -/
structure Tls (w : World) (a : Option Addr) (n : Nat) (xs : List TP) : Prop where
  len : xs.length = n
  max : n ≤ 9223372036854775807
  get : ∀ k, k < n → ∃ b off a1 n1 c1, a = some ⟨b, off, none⟩ ∧ b < w.heap.size ∧ Cells3 w b (off + k * 3) a1 n1 c1 (xs.getD k default) ∧ RowU w a1 n1 (xs.getD k default).hs ∧ n1 ≤ 9223372036854775807
theorem Tls.kept {w w' : World} {a : Option Addr} {n : Nat} {xs : List TP} (h : Tls w a n xs) (hb : Below w.heap.size w w') : Tls w' a n xs := by
  refine ⟨h.len, h.max, fun k hk => ?_⟩
  obtain ⟨b, off, a1, n1, c1, ha, hlt, hc, hp, hm⟩ := h.get k hk
  exact ⟨b, off, a1, n1, c1, ha, Nat.lt_of_lt_of_le hlt hb.size, hc.of (fun i => hb.cell (p := ⟨b, i, none⟩) hlt), hp.kept hb, hm⟩

set_option maxHeartbeats 1000000 in
theorem szTileOf_any (lv ix : Int) (a : Option Addr) (n c : Nat) (l : Int) (w : World) (hl : 0 ≤ l) (hl2 : l ≤ 1048576) (hn : n ≤ 9223372036854775807) :
    Calls Try.prog 51 #[tlv lv ix a n c, .int .i64 l] w fun e w' => ∃ r, e = .returned (.int .i64 r) ∧ (r < 0 ∨ (0 ≤ r ∧ r ≤ 1048576 ∧ n ≤ 1048576)) ∧ Below w.heap.size w w' := by
  have hbb : Below w.heap.size w (w.alloc (.cells #[.int .i64 lv, .int .i64 ix, .slice a n c] 73)) := (Below.refl _ _).alloc (Nat.le_refl _) _
  rw [tlv]
  by_cases h1 : (n : Int) ≤ l
  · have hr : ¬ l - (n : Int) < 0 := by omega
    go_enter Try.func51, Try.ntmps51
    go_wp2_with fail
    refine (szUint64S_any a n c l _ hl hl2 hn).mono ?_
    rintro e w2 ⟨rfl, hw⟩
    have hw2 := hw.symm
    subst hw2
    rw [if_pos h1]
    obtain ⟨r, hrr⟩ : ∃ r, r = l - (n : Int) := ⟨_, rfl⟩
    have HR : Hid (r = l - (n : Int)) := hrr
    rw [← hrr] at hr ⊢
    clear hrr
    go_wp2
    go_ret
    exact ⟨_, rfl, .inr (by have := HR.out; omega), hbb⟩
  · go_enter Try.func51, Try.ntmps51
    go_wp2_with fail
    refine (szUint64S_any a n c l _ hl hl2 hn).mono ?_
    rintro e w2 ⟨rfl, hw⟩
    have hw2 := hw.symm
    subst hw2
    rw [if_neg (show ¬ (n : Int) ≤ l by omega)]
    go_wp2
    go_ret
    exact ⟨_, rfl, .inl (by decide), hbb⟩

set_option maxRecDepth 10000 in
set_option maxHeartbeats 2000000 in
theorem szTileOfS_any (a : Option Addr) (n cap : Nat) (xs : List TP) (lf : Int) (w : World) (h : Tls w a n xs) (hl0 : 0 ≤ lf) (hl1 : lf ≤ 1048576) :
    Calls Try.prog 31 #[.slice a n cap, .int .i64 lf] w fun e w' => ∃ r, e = .returned (.int .i64 r) ∧ (r < 0 ∨ (0 ≤ r ∧ r ≤ 1048576 ∧ n ≤ 1048576 ∧ ∀ k, k < n → (xs.getD k default).hs.length ≤ 1048576)) ∧ Below w.heap.size w w' := by
  have H0 : Hid (Tls w a n xs) := h
  have hn := h.max
  clear h
  by_cases hlt : (n : Int) ≤ lf
  · go_enter Try.func31, Try.ntmps31
    go_wp2
    go_loopw [1, 5] (fun l i wr => ∃ (k : Nat) (left : Int), k ≤ n ∧ i = .int .i64 k ∧ l = .int .i64 left ∧ 0 ≤ left ∧ left ≤ 1048576 ∧ Hid (∀ j, j < k → (xs.getD j default).hs.length ≤ 1048576) ∧ Below w.heap.size w wr) (fun _ i _ => n - (intOf i).toNat)
    case atStart => exact ⟨0, lf - n, Nat.zero_le _, rfl, rfl, by omega, by omega, fun j hj => absurd hj (Nat.not_lt_zero _), Below.refl _ _⟩
    case round =>
      obtain ⟨k, left, hk, rfl, rfl, h0, h1, HA, hbr⟩ := hrel
      by_cases hkn : k < n
      · obtain ⟨b, off, a1, n1, d1, rfl, hlb, hc, hp, hm⟩ := H0.out.get k hkn
        obtain ⟨y, hy⟩ : ∃ y, y = xs.getD k default := ⟨_, rfl⟩
        rw [← hy] at hc hp
        have HY : Hid (y = xs.getD k default) := hy
        obtain ⟨c0, c1, c2⟩ := hc.of (w' := wr) (fun i => hbr.cell (p := ⟨b, i, none⟩) hlb)
        have HLN : Hid (y.hs.length = n1) := hp.len
        have hkni : (k : Int) < (n : Int) := by omega
        clear hc hy hp
        go_wp2_with fail
        refine (szTileOf_any y.lv y.ix a1 n1 d1 left _ h0 h1 hm).mono ?_
        rintro e w2 ⟨r, rfl, hr, hb2⟩
        have hb2' : Below w.heap.size w w2 := hbr.trans (hb2.mono hbr.size)
        by_cases hneg : r < 0
        · clear hr
          go_wp2
          go_ret
          exact ⟨_, rfl, .inl (by decide), hb2'⟩
        · have hr1 : 0 ≤ r := by omega
          have hr2 : r ≤ 1048576 := by omega
          have HR : Hid (y.hs.length ≤ 1048576) := by show _ ≤ _; rw [HLN.out]; omega
          clear hr
          go_wp2
          go_roundw
          case rel =>
            refine ⟨k + 1, r, by omega, by go_num, rfl, hr1, hr2, fun j hj => ?_, hb2'⟩
            by_cases hjk : j = k
            · subst hjk; rw [← HY.out]; exact HR.out
            · exact HA.out j (by omega)
          case measure => simp [intOf]; omega
      · obtain rfl : n = k := by omega
        go_wp2
        go_ret
        exact ⟨_, rfl, .inr ⟨h0, h1, by omega, HA.out⟩, hbr⟩
  · go_enter Try.func31, Try.ntmps31
    go_wp2
    go_ret
    exact ⟨_, rfl, .inl (by decide), Below.refl _ _⟩

set_option maxRecDepth 10000 in
set_option maxHeartbeats 2000000 in
theorem eqTileOf_same (lv ix : Int) (a b : Option Addr) (n ca cb : Nat) (hs : List Int) (w : World) (h : RowU w a n hs) (h2 : RowU w b n hs) (hn : n ≤ 9223372036854775807) :
    Calls Try.prog 57 #[tlv lv ix a n ca, tlv lv ix b n cb] w fun e w' => e = .returned (.bool true) ∧ Below w.heap.size w w' := by
  obtain ⟨w1, hw1⟩ : ∃ w1, w1 = (w.alloc (.cells #[.int .i64 lv, .int .i64 ix, .slice a n ca] 74)).alloc (.cells #[.int .i64 lv, .int .i64 ix, .slice b n cb] 74) := ⟨_, rfl⟩
  have hbb : Below w.heap.size w w1 := by rw [hw1]; exact ((Below.refl _ _).alloc (Nat.le_refl _) _).alloc (by simp) _
  have HA : Hid (RowU w1 a n hs) := h.kept hbb
  have HB : Hid (RowU w1 b n hs) := h2.kept hbb
  have s1 : (w.alloc (.cells #[.int .i64 lv, .int .i64 ix, .slice a n ca] 74)).heap.size = w.heap.size + 1 := by simp
  have B0 : w1.heap[w.heap.size]? = some (.cells #[.int .i64 lv, .int .i64 ix, .slice a n ca] 74) := by
    rw [hw1]; exact (heap_alloc_old _ _ (by simp)).trans (heap_alloc_new w _)
  have B1 : w1.heap[w.heap.size + 1]? = some (.cells #[.int .i64 lv, .int .i64 ix, .slice b n cb] 74) := by
    rw [hw1, ← s1]; exact heap_alloc_new _ _
  have x0 : w1.cell? ⟨w.heap.size, 0, none⟩ = some (.int .i64 lv) := (cell_of_row _ _ 0 _ 74 (0, 0) B0).trans rfl
  have x1 : w1.cell? ⟨w.heap.size, 1, none⟩ = some (.int .i64 ix) := (cell_of_row _ _ 1 _ 74 (0, 0) B0).trans rfl
  have x2 : w1.cell? ⟨w.heap.size, 2, none⟩ = some (.slice a n ca) := (cell_of_row _ _ 2 _ 74 (0, 0) B0).trans rfl
  have y0 : w1.cell? ⟨w.heap.size + 1, 0, none⟩ = some (.int .i64 lv) := (cell_of_row _ _ 0 _ 74 (0, 0) B1).trans rfl
  have y1 : w1.cell? ⟨w.heap.size + 1, 1, none⟩ = some (.int .i64 ix) := (cell_of_row _ _ 1 _ 74 (0, 0) B1).trans rfl
  have y2 : w1.cell? ⟨w.heap.size + 1, 2, none⟩ = some (.slice b n cb) := (cell_of_row _ _ 2 _ 74 (0, 0) B1).trans rfl
  have z1 : (lv != lv) = false := by simp
  have z2 : (ix != ix) = false := by simp
  have HW : Hid (_ = _) := hw1
  clear hw1 s1 B0 B1 h h2
  rw [tlv, tlv]
  go_enter Try.func57, Try.ntmps57
  go_upto_region 1 with fail
  rw [← HW.out]
  clear HW
  go_wp2_with fail
  refine (eqUint64S_same a b n ca cb hs _ HA.out HB.out hn).mono ?_
  rintro e w2 ⟨rfl, hb2⟩
  go_wp2
  go_ret
  exact ⟨rfl, keepT hbb hb2⟩

set_option maxRecDepth 10000 in
set_option maxHeartbeats 4000000 in
theorem eqTileOfS_same (a b : Option Addr) (n ca cb : Nat) (xs : List TP) (w : World) (h : Tls w a n xs) (h2 : Tls w b n xs) :
    Calls Try.prog 35 #[.slice a n ca, .slice b n cb] w fun e w' => e = .returned (.bool true) ∧ Below w.heap.size w w' := by
  have HK : Hid (Tls w a n xs) := h
  have HK2 : Hid (Tls w b n xs) := h2
  have hn := h.max
  clear h h2
  go_enter Try.func35, Try.ntmps35
  go_wp2
  go_loopw [5] (fun i wr => ∃ k : Nat, k ≤ n ∧ i = .int .i64 k ∧ Below w.heap.size w wr) (fun i _ => n - (intOf i).toNat)
  case atStart => exact ⟨0, Nat.zero_le _, rfl, Below.refl _ _⟩
  case round =>
    obtain ⟨k, hk, rfl, hbr⟩ := hrel
    by_cases hkn : k < n
    · obtain ⟨b1, off1, p1, n1, d1, rfl, hl1, hc1, hp1, hm1⟩ := HK.out.get k hkn
      obtain ⟨b2, off2, q1, m1, e1, rfl, hl2, hc2, hp2, hm2⟩ := HK2.out.get k hkn
      obtain ⟨y, hy⟩ : ∃ y, y = xs.getD k default := ⟨_, rfl⟩
      rw [← hy] at hc1 hc2 hp1 hp2
      clear hy
      obtain rfl : m1 = n1 := by rw [← hp2.len, ← hp1.len]
      obtain ⟨c0, c1, c2⟩ := hc1.of (w' := wr) (fun i => hbr.cell (p := ⟨b1, i, none⟩) hl1)
      obtain ⟨u0, u1, u2⟩ := hc2.of (w' := wr) (fun i => hbr.cell (p := ⟨b2, i, none⟩) hl2)
      have HP1 : Hid (RowU wr.drew p1 m1 y.hs) := hp1.kept hbr.drew
      have HP2 : Hid (RowU wr.drew q1 m1 y.hs) := hp2.kept hbr.drew
      have hkni : (k : Int) < (n : Int) := by omega
      have hsz := hbr.size
      clear hc1 hc2 hp1 hp2
      go_wp2_with fail
      go_region_with (go_at_call 57; refine (eqTileOf_same y.lv y.ix p1 q1 m1 d1 e1 y.hs _ HP1.out HP2.out hm1).mono ?_; rintro e w2 ⟨rfl, hb2⟩)
      all_goals
        have b5 : Below w.heap.size w w2 := hbr.drew.trans (hb2.mono hsz)
        go_wp2
        go_roundw
        case rel => exact ⟨k + 1, by omega, by go_num, b5⟩
        case measure => simp [intOf]; omega
    · go_wp2
      go_ret
      exact ⟨rfl, hbr⟩

end Go.Proofs.Ytifdcfchliaipaa
