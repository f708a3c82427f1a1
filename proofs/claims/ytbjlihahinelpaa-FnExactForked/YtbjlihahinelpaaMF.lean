import Derived.Test.YtbjlihahinelpaaMH
import Derived.Deep.MidRow
import Derived.Deep.Slices
import Derived.ChangeArms
import Derived.ChangeSlices
import Derived.WalkKit
import Derived.ProofKit
import Derived.OpenShut
namespace Go.Proofs.Ytbjlihahinelpaa
open Go.RowKit

/-- A head. -/
structure HP where
  lg : Int
  sz : Int
  rt : Int
  at2 : Int
  sg : List Int
  deriving Inhabited
structure Cells5 (w : World) (b o : Nat) (a : Option Addr) (n c : Nat) (x : HP) : Prop where
  c0 : w.cell? ⟨b, o, none⟩ = some (.int .i64 x.lg)
  c1 : w.cell? ⟨b, o + 1, none⟩ = some (.int .i64 x.sz)
  c2 : w.cell? ⟨b, o + 2, none⟩ = some (.int .u64 x.rt)
  c3 : w.cell? ⟨b, o + 3, none⟩ = some (.int .i64 x.at2)
  c4 : w.cell? ⟨b, o + 4, none⟩ = some (.slice a n c)
theorem Cells5.of {w w' : World} {b o : Nat} {a : Option Addr} {n c : Nat} {x : HP} (h : Cells5 w b o a n c x) (hc : ∀ i, w'.cell? ⟨b, i, none⟩ = w.cell? ⟨b, i, none⟩) : Cells5 w' b o a n c x :=
  ⟨(hc _).trans h.c0, (hc _).trans h.c1, (hc _).trans h.c2, (hc _).trans h.c3, (hc _).trans h.c4⟩
/-- The slice at a reads as these heads. -/
structure Hds (K : Nat → Nat → Prop) (w : World) (a : Option Addr) (n : Nat) (xs : List HP) : Prop where
  len : xs.length = n
  max : n ≤ 9223372036854775807
  get : ∀ k, k < n → ∃ b off a1 n1 c1, a = some ⟨b, off, none⟩ ∧ b < w.heap.size ∧ Cells5 w b (off + k * 5) a1 n1 c1 (xs.getD k default) ∧ Row w a1 n1 (xs.getD k default).sg ∧ n1 ≤ 9223372036854775807 ∧ U64 (xs.getD k default).rt ∧ K n1 c1
theorem Hds.kept {K : Nat → Nat → Prop} {w w' : World} {a : Option Addr} {n : Nat} {xs : List HP} (h : Hds K w a n xs) (hb : Below w.heap.size w w') : Hds K w' a n xs := by
  refine ⟨h.len, h.max, fun k hk => ?_⟩
  obtain ⟨b, off, a1, n1, c1, ha, hlt, hc, hp, hm⟩ := h.get k hk
  exact ⟨b, off, a1, n1, c1, ha, Nat.lt_of_lt_of_le hlt hb.size, hc.of (fun i => hb.cell (p := ⟨b, i, none⟩) hlt), hp.kept hb, hm⟩

set_option maxRecDepth 10000 in
set_option maxHeartbeats 400000 in
theorem szByteS_gen (a : Option Addr) (n cap : Nat) (l : Int) (w : World) (hn : n ≤ 9223372036854775807) (h0 : 0 ≤ l) (h1 : l ≤ 1048576) :
    Calls Try.prog 16 #[.slice a n cap, .int .i64 l] w fun e w' => ∃ r, e = .returned (.int .i64 r) ∧ (r < 0 ∨ (0 ≤ r ∧ r ≤ 1048576 ∧ n ≤ 1048576)) ∧ w = w' := by
  by_cases hlt : (n : Int) ≤ l
  · have h1 : ¬ l - (n : Int) < 0 := by omega
    go_enter Try.func16, Try.ntmps16
    go_wp2
    go_ret
    exact ⟨_, rfl, .inr (by omega), rfl⟩
  · have h1 : l - (n : Int) < 0 := by omega
    go_enter Try.func16, Try.ntmps16
    go_wp2
    go_ret
    exact ⟨_, rfl, .inl (by decide), rfl⟩

set_option maxRecDepth 10000 in
set_option maxHeartbeats 1000000 in
theorem szHead_gen (x : HP) (a : Option Addr) (n cap : Nat) (l : Int) (w : World) (hn : n ≤ 9223372036854775807) (h0 : 0 ≤ l) (h1 : l ≤ 1048576) :
    Calls Try.prog 5 #[.agg #[.int .i64 x.lg, .int .i64 x.sz, .int .u64 x.rt, .int .i64 x.at2, .slice a n cap], .int .i64 l] w fun e w' => ∃ r, e = .returned (.int .i64 r) ∧ (r < 0 ∨ (0 ≤ r ∧ r ≤ 1048576 ∧ n ≤ 1048576)) ∧ Below w.heap.size w w' := by
  have hbb : Below w.heap.size w (w.alloc (.cells #[.int .i64 x.lg, .int .i64 x.sz, .int .u64 x.rt, .int .i64 x.at2, .slice a n cap] 25)) := (Below.refl _ _).alloc (Nat.le_refl _) _
  go_enter Try.func5, Try.ntmps5
  go_wp2_with fail
  refine (szByteS_gen a n cap l _ hn h0 h1).mono ?_
  rintro e w1 ⟨r, rfl, hr, hw⟩
  subst hw
  by_cases hneg : r < 0
  · clear hr
    go_wp2
    go_ret
    exact ⟨_, rfl, .inl (by decide), hbb⟩
  · have HR : Hid (0 ≤ r ∧ r ≤ 1048576 ∧ n ≤ 1048576) := by show _ ∧ _; omega
    clear hr
    go_wp2
    go_ret
    exact ⟨_, rfl, .inr HR.out, hbb⟩

set_option maxRecDepth 10000 in
set_option maxHeartbeats 2000000 in
theorem szHeadS_any (K : Nat → Nat → Prop) (a : Option Addr) (n cap : Nat) (xs : List HP) (lf : Int) (w : World) (h : Hds K w a n xs) (hl0 : 0 ≤ lf) (hl1 : lf ≤ 1048576) :
    Calls Try.prog 11 #[.slice a n cap, .int .i64 lf] w fun e w' => ∃ r, e = .returned (.int .i64 r) ∧ (r < 0 ∨ (0 ≤ r ∧ r ≤ 1048576 ∧ n ≤ 1048576 ∧ ∀ k, k < n → (xs.getD k default).sg.length ≤ 1048576)) ∧ Below w.heap.size w w' := by
  have H0 : Hid (Hds K w a n xs) := h
  have hn := h.max
  clear h
  by_cases hlt : (n : Int) ≤ lf
  · go_enter Try.func11, Try.ntmps11
    go_wp2
    go_loopw [1, 5] (fun l i wr => ∃ (k : Nat) (left : Int), k ≤ n ∧ i = .int .i64 k ∧ l = .int .i64 left ∧ 0 ≤ left ∧ left ≤ 1048576 ∧ Hid (∀ j, j < k → (xs.getD j default).sg.length ≤ 1048576) ∧ Below w.heap.size w wr) (fun _ i _ => n - (intOf i).toNat)
    case atStart => exact ⟨0, lf - n, Nat.zero_le _, rfl, rfl, by omega, by omega, fun j hj => absurd hj (Nat.not_lt_zero _), Below.refl _ _⟩
    case round =>
      obtain ⟨k, left, hk, rfl, rfl, h0, h1, HA, hbr⟩ := hrel
      by_cases hkn : k < n
      · obtain ⟨b, off, a1, n1, d1, rfl, hlb, hc, hp, hm, _⟩ := H0.out.get k hkn
        obtain ⟨y, hy⟩ : ∃ y, y = xs.getD k default := ⟨_, rfl⟩
        rw [← hy] at hc hp
        have HY : Hid (y = xs.getD k default) := hy
        obtain ⟨c0, c1, c2, c3, c4⟩ := hc.of (w' := wr) (fun i => hbr.cell (p := ⟨b, i, none⟩) hlb)
        have HLN : Hid (y.sg.length = n1) := hp.len
        have hkni : (k : Int) < (n : Int) := by omega
        clear hc hy hp
        go_wp2_with fail
        refine (szHead_gen y a1 n1 d1 left _ hm h0 h1).mono ?_
        rintro e w2 ⟨r, rfl, hr, hb2⟩
        have hb2' : Below w.heap.size w w2 := hbr.trans (hb2.mono hbr.size)
        by_cases hneg : r < 0
        · clear hr
          go_wp2
          go_ret
          exact ⟨_, rfl, .inl (by decide), hb2'⟩
        · have hr1 : 0 ≤ r := by omega
          have hr2 : r ≤ 1048576 := by omega
          have HR : Hid (y.sg.length ≤ 1048576) := by show _ ≤ _; rw [HLN.out]; omega
          clear hr
          go_wp2
          go_roundw
          case rel =>
            refine ⟨k + 1, r, by omega, by go_num, rfl, hr1, hr2, fun j hj => ?_, hb2'⟩
            by_cases hjk : j = k
            · subst hjk; rw [← HY.out]; exact HR.out
            · exact HA.out j (by omega)
          case measure => simp [intOf]; omega
      · obtain rfl : n = k := by omega
        go_wp2
        go_ret
        exact ⟨_, rfl, .inr ⟨h0, h1, by omega, HA.out⟩, hbr⟩
  · go_enter Try.func11, Try.ntmps11
    go_wp2
    go_ret
    exact ⟨_, rfl, .inl (by decide), Below.refl _ _⟩

theorem eqHead_hp (x : HP) (a b : Option Addr) (n ca cb : Nat) (w : World) (h : Row w a n x.sg) (h2 : Row w b n x.sg) (hn : n ≤ maxLen) :
    Calls Try.prog 10 #[.agg #[.int .i64 x.lg, .int .i64 x.sz, .int .u64 x.rt, .int .i64 x.at2, .slice a n ca], .agg #[.int .i64 x.lg, .int .i64 x.sz, .int .u64 x.rt, .int .i64 x.at2, .slice b n cb]] w fun e w' => e = .returned (.bool true) ∧ Below w.heap.size w w' := eqHead_same x.lg x.sz x.rt x.at2 a b n ca cb x.sg w h h2 hn

set_option maxRecDepth 10000 in
set_option maxHeartbeats 4000000 in
theorem eqHeadS_same (K L : Nat → Nat → Prop) (a b : Option Addr) (n ca cb : Nat) (xs : List HP) (w : World) (h : Hds K w a n xs) (h2 : Hds L w b n xs) :
    Calls Try.prog 15 #[.slice a n ca, .slice b n cb] w fun e w' => e = .returned (.bool true) ∧ Below w.heap.size w w' := by
  have HK : Hid (Hds K w a n xs) := h
  have HK2 : Hid (Hds L w b n xs) := h2
  have hn := h.max
  clear h h2
  go_enter Try.func15, Try.ntmps15
  go_wp2
  go_loopw [5] (fun i wr => ∃ k : Nat, k ≤ n ∧ i = .int .i64 k ∧ Below w.heap.size w wr) (fun i _ => n - (intOf i).toNat)
  case atStart => exact ⟨0, Nat.zero_le _, rfl, Below.refl _ _⟩
  case round =>
    obtain ⟨k, hk, rfl, hbr⟩ := hrel
    by_cases hkn : k < n
    · obtain ⟨b1, off1, p1, n1, d1, rfl, hl1, hc1, hp1, hm1, _⟩ := HK.out.get k hkn
      obtain ⟨b2, off2, q1, m1, e1, rfl, hl2, hc2, hp2, hm2, _⟩ := HK2.out.get k hkn
      obtain ⟨y, hy⟩ : ∃ y, y = xs.getD k default := ⟨_, rfl⟩
      rw [← hy] at hc1 hc2 hp1 hp2
      clear hy
      obtain rfl : m1 = n1 := by rw [← hp2.len, ← hp1.len]
      obtain ⟨c0, c1, c2, c3, c4⟩ := hc1.of (w' := wr) (fun i => hbr.cell (p := ⟨b1, i, none⟩) hl1)
      obtain ⟨u0, u1, u2, u3, u4⟩ := hc2.of (w' := wr) (fun i => hbr.cell (p := ⟨b2, i, none⟩) hl2)
      have HP1 : Hid (Row wr.drew p1 m1 y.sg) := hp1.kept hbr.drew
      have HP2 : Hid (Row wr.drew q1 m1 y.sg) := hp2.kept hbr.drew
      have hkni : (k : Int) < (n : Int) := by omega
      have hsz := hbr.size
      clear hc1 hc2 hp1 hp2
      go_wp2_with fail
      go_region_with (go_at_call 10; refine (eqHead_hp y p1 q1 m1 d1 e1 _ HP1.out HP2.out (by unfold maxLen; omega)).mono ?_; rintro e w2 ⟨rfl, hb2⟩)
      all_goals
        have b5 : Below w.heap.size w w2 := hbr.drew.trans (hb2.mono hsz)
        go_wp2
        go_roundw
        case rel => exact ⟨k + 1, by omega, by go_num, b5⟩
        case measure => simp [intOf]; omega
    · go_wp2
      go_ret
      exact ⟨rfl, hbr⟩

theorem Try.infoHd : (Try.prog.info? 30).map (fun i => (i.zero, i.size, i.bytes)) = some (some (.agg #[.int .i64 0, .int .i64 0, .int .u64 0, .int .i64 0, .slice none 0 0]), 5, 56) := by kernel_rfl
def put5o (w : World) (g o : Nat) (u0 u1 u2 u3 u4 : Value) : World := ((((w.setCell ⟨g, o, none⟩ u0).setCell ⟨g, o + 1, none⟩ u1).setCell ⟨g, o + 2, none⟩ u2).setCell ⟨g, o + 3, none⟩ u3).setCell ⟨g, o + 4, none⟩ u4
theorem put5o_touch (w : World) (g o : Nat) (u0 u1 u2 u3 u4 : Value) : Touch g (g + 1) w (put5o w g o u0 u1 u2 u3 u4) :=
  ((((touch_set1 w g _ u0).trans (touch_set1 _ g _ u1)).trans (touch_set1 _ g _ u2)).trans (touch_set1 _ g _ u3)).trans (touch_set1 _ g _ u4)
/-- The first k heads lie in the row g, what they have behind it. -/
def HdPre (w : World) (g k : Nat) (xs : List HP) : Prop := ∀ j, j < k → ∃ p n, Cells5 w g (j * 5) p n n (xs.getD j default) ∧ Own (g + 1) w p n n (xs.getD j default).sg ∧ n ≤ 1048576 ∧ U64 (xs.getD j default).rt
theorem HdPre.kept {w w' : World} {g k : Nat} {xs : List HP} (h : HdPre w g k xs) (hg : g < w.heap.size) (hb : Below w.heap.size w w') : HdPre w' g k xs := fun j hj => by
  obtain ⟨p, n, h3, h4, h5⟩ := h j hj
  exact ⟨p, n, h3.of (fun i => hb.cell (p := ⟨g, i, none⟩) hg), h4.kept hb, h5⟩
structure Put5 (B : Nat) (w w' : World) (g n cap i : Nat) (a1 : Option Addr) (n1 d1 : Nat) (x : HP) : Prop where
  own : ∃ vs, w'.ownsRow B 30 5 (.slice (some ⟨g, 0, none⟩) n cap) n vs
  old : ∀ j, j < n * 5 → j < i * 5 ∨ i * 5 + 5 ≤ j → w'.cell? ⟨g, j, none⟩ = w.cell? ⟨g, j, none⟩
  cells : Cells5 w' g (i * 5) a1 n1 d1 x
theorem put5_is {B : Nat} {w : World} {g n cap : Nat} {vs : List Value} (h : w.ownsRow B 30 5 (.slice (some ⟨g, 0, none⟩) n cap) n vs) (i : Nat) (hi : i < n) (a1 : Option Addr) (n1 d1 : Nat) (x : HP) : Put5 B w (put5o w g (i * 5) (.int .i64 x.lg) (.int .i64 x.sz) (.int .u64 x.rt) (.int .i64 x.at2) (.slice a1 n1 d1)) g n cap i a1 n1 d1 x := by
  have h1 := (((((h.stored (i * 5) (.int .i64 x.lg)).1.stored (i * 5 + 1) (.int .i64 x.sz)).1.stored (i * 5 + 2) (.int .u64 x.rt)).1.stored (i * 5 + 3) (.int .i64 x.at2)).1.stored (i * 5 + 4) (.slice a1 n1 d1)).1
  have hl : vs.length = n * 5 := h.1
  have cc := fun j (hj : j < n * 5) => h1.cellAt j hj
  refine ⟨⟨_, h1⟩, fun j hj ho => ?_, ⟨?_, ?_, ?_, ?_, ?_⟩⟩
  · refine (cc j hj).trans ?_
    rw [h.cellAt j hj]
    rw [List.getElem?_set_ne (by omega), List.getElem?_set_ne (by omega), List.getElem?_set_ne (by omega), List.getElem?_set_ne (by omega), List.getElem?_set_ne (by omega)]
  · refine (cc _ (by omega)).trans ?_
    rw [List.getElem?_set_ne (by omega), List.getElem?_set_ne (by omega), List.getElem?_set_ne (by omega), List.getElem?_set_ne (by omega), List.getElem?_set_self (by omega)]
  · refine (cc _ (by omega)).trans ?_
    rw [List.getElem?_set_ne (by omega), List.getElem?_set_ne (by omega), List.getElem?_set_ne (by omega), List.getElem?_set_self (by simp; omega)]
  · refine (cc _ (by omega)).trans ?_
    rw [List.getElem?_set_ne (by omega), List.getElem?_set_ne (by omega), List.getElem?_set_self (by simp; omega)]
  · refine (cc _ (by omega)).trans ?_
    rw [List.getElem?_set_ne (by omega), List.getElem?_set_self (by simp; omega)]
  · refine (cc _ (by omega)).trans ?_
    rw [List.getElem?_set_self (by simp; omega)]
theorem toHead_hp (x : HP) (a : Option Addr) (n c : Nat) (w : World) (h : Row w a n x.sg) (hn : n ≤ 1048576) :
    Calls Try.prog 7 #[.agg #[.int .i64 x.lg, .int .i64 x.sz, .int .u64 x.rt, .int .i64 x.at2, .slice a n c]] w fun e w' => ∃ a1, e = .returned (.agg #[.int .i64 x.lg, .int .i64 x.sz, .int .u64 x.rt, .int .i64 x.at2, .slice a1 n n]) ∧ Own w.heap.size w' a1 n n x.sg ∧ Below w.heap.size w w' := toHead_any x.lg x.sz x.rt x.at2 a n c x.sg w h hn

set_option maxRecDepth 10000 in
set_option maxHeartbeats 4000000 in
theorem toHeadS_any (K : Nat → Nat → Prop) (a : Option Addr) (n cap : Nat) (xs : List HP) (w : World) (h : Hds K w a n xs) (hn : n ≤ 1048576) (hz : ∀ k, k < n → (xs.getD k default).sg.length ≤ 1048576) :
    Calls Try.prog 13 #[.slice a n cap] w fun e w' => ∃ a', e = .returned (.slice a' n n) ∧ Hds (fun n c => n ≤ c ∧ n ≤ 1048576) w' a' n xs ∧ Below w.heap.size w w' := by
  obtain ⟨i0, hi, hz0, hz1, hz2⟩ := info_parts Try.infoHd
  have HK : Hid (Hds K w a n xs) := h
  have HZ : Hid (∀ k, k < n → (xs.getD k default).sg.length ≤ 1048576) := hz
  have hlen : Hid (xs.length = n) := h.len
  clear h hz
  go_enter Try.func13, Try.ntmps13
  go_wp2_with (first | (at_make; refine wpList_make_full _ rfl _ _ 40 rfl w.heap.size 30 i0 _ 5 Try.underlying40 hi hz0 hz1 _ _ _ _ n rfl rfl rfl rfl (by rw [hz2]; omega) (by unfold maxLen; omega) (by exact Nat.le_refl _) ?_; intro w1 hown hgrow))
  have hbl : Below w.heap.size w w1 := (Below.refl _ _).grown hgrow (Nat.le_refl _) (by simp)
  clear hgrow hi hz0 hz1 hz2
  go_loopw [4] (fun i wr => ∃ k : Nat, k ≤ n ∧ i = .int .i64 k ∧ Hid (∃ vs, wr.ownsRow w.heap.size 30 5 (.slice (some ⟨w.heap.size, 0, none⟩) n n) n vs) ∧ Hid (HdPre wr w.heap.size k xs) ∧ Below w.heap.size w wr) (fun i _ => n - (intOf i).toNat)
  case atStart => exact ⟨0, Nat.zero_le _, rfl, ⟨_, hown⟩, fun j hj => absurd hj (Nat.not_lt_zero _), hbl⟩
  case round =>
    obtain ⟨k, hk, rfl, HOR, HPRE, hbr⟩ := hrel
    obtain ⟨vs, hor⟩ := HOR.out
    have hgl := (hor.lt _ rfl).2
    have HOV : Hid (_) := hor
    clear HOR hor hown hbl
    by_cases hkn : k < n
    · obtain ⟨b, off, a1, n1, d1, rfl, hlb, hc, hp, hm, hu, _⟩ := HK.out.get k hkn
      have hgp := HZ.out k hkn
      obtain ⟨y, hy⟩ : ∃ y, y = xs.getD k default := ⟨_, rfl⟩
      rw [← hy] at hc hp hgp hu
      have HY : Hid (y = xs.getD k default) := hy
      have HU : Hid (U64 y.rt) := hu
      have hn1 : n1 ≤ 1048576 := by rw [← hp.len]; exact hgp
      obtain ⟨c0, c1, c2, c3, c4⟩ := hc.of (w' := wr) (fun i => hbr.cell (p := ⟨b, i, none⟩) hlb)
      have HP : Hid (Row wr a1 n1 y.sg) := hp.kept hbr
      have hkni : (k : Int) < (n : Int) := by omega
      have hsz := hbr.size
      clear hc hy hp hgp hu
      go_wp2_with fail
      refine (toHead_hp y a1 n1 d1 _ HP.out hn1).mono ?_
      rintro e w2 ⟨p1, rfl, hp2, hb2⟩
      have hor2 : w2.ownsRow w.heap.size 30 5 (.slice (some ⟨w.heap.size, 0, none⟩) n n) n vs := ownsRow_below HOV.out hb2
      have hs2 := hb2.size
      have fr : ∀ j, w2.frozen? ⟨w.heap.size, j, none⟩ = false := fun j => hor2.frozenAt j
      have hvl : vs.length = n * 5 := hor2.1
      have cx : ∀ j, j < n * 5 → ∃ z, w2.cell? ⟨w.heap.size, j, none⟩ = some z := fun j hj => ⟨_, (hor2.cellAt j hj).trans (List.getElem?_eq_getElem (by omega))⟩
      obtain ⟨z0, x0⟩ := cx (k * 5) (by omega)
      obtain ⟨z1, x1⟩ := cx (k * 5 + 1) (by omega)
      obtain ⟨z2, x2⟩ := cx (k * 5 + 2) (by omega)
      obtain ⟨z3, x3⟩ := cx (k * 5 + 3) (by omega)
      obtain ⟨z4, x4⟩ := cx (k * 5 + 4) (by omega)
      have f0 := fr (k * 5)
      have f1 := fr (k * 5 + 1)
      have f2 := fr (k * 5 + 2)
      have f3 := fr (k * 5 + 3)
      have f4 := fr (k * 5 + 4)
      have hS := put5_is hor2 k hkn p1 n1 n1 y
      have hT := put5o_touch w2 w.heap.size (k * 5) (.int .i64 y.lg) (.int .i64 y.sz) (.int .u64 y.rt) (.int .i64 y.at2) (.slice p1 n1 n1)
      have hP : HdPre (put5o w2 w.heap.size (k * 5) (.int .i64 y.lg) (.int .i64 y.sz) (.int .u64 y.rt) (.int .i64 y.at2) (.slice p1 n1 n1)) w.heap.size (k + 1) xs := by
        intro j hj
        by_cases hjk : j = k
        · subst hjk
          rw [← HY.out]
          exact ⟨p1, n1, hS.cells, (hp2.mono (show w.heap.size + 1 ≤ wr.heap.size by omega)).touch5 hT (Nat.le_refl _), hn1, HU.out⟩
        · obtain ⟨r1, m1, q2, q3, q4⟩ := (HPRE.out.kept hgl hb2) j (by omega)
          have hx := hS.old
          exact ⟨r1, m1, ⟨(hx _ (by omega) (by omega)).trans q2.c0, (hx _ (by omega) (by omega)).trans q2.c1, (hx _ (by omega) (by omega)).trans q2.c2, (hx _ (by omega) (by omega)).trans q2.c3, (hx _ (by omega) (by omega)).trans q2.c4⟩, q3.touch5 hT (Nat.le_refl _), q4⟩
      have hB2 := hbr.trans (hb2.mono hsz)
      have hB4 : Below w.heap.size w (put5o w2 w.heap.size (k * 5) (.int .i64 y.lg) (.int .i64 y.sz) (.int .u64 y.rt) (.int .i64 y.at2) (.slice p1 n1 n1)) := hB2.trans (hT.below (Nat.le_refl _) (by omega))
      have FIN : Hid (_ ∧ _ ∧ _) := ⟨hS.own, hP, hB4⟩
      have hgl2 : w.heap.size < w2.heap.size := by omega
      clear fr cx hS hP hB4 hB2 hor2 hp2 hb2 hvl HPRE HOV HP HK hT
      go_wp2
      go_roundw
      case rel => exact ⟨k + 1, by omega, by go_num, FIN.out.1, FIN.out.2.1, FIN.out.2.2⟩
      case measure => simp [intOf]; omega
    · obtain rfl : n = k := by omega
      have HX : Hid (n ≤ 9223372036854775807) := HK.out.max
      clear HOV HK
      go_wp2
      go_ret
      refine ⟨_, rfl, ⟨hlen.out, HX.out, fun j hj => ?_⟩, hbr⟩
      obtain ⟨p1, m1, h3, h4, h5, h6⟩ := HPRE.out j hj
      exact ⟨w.heap.size, 0, _, _, _, rfl, hgl, by rw [Nat.zero_add]; exact h3, h4.toRow, by omega, h6, Nat.le_refl _, h5⟩

end Go.Proofs.Ytbjlihahinelpaa

namespace Go.Proofs.Ytbjlihahinelpaa
open Go.RowKit

/-- What is signed of a head. -/
def lOf (x : HP) : List Int := (enc 12 (hdI 6 x.lg x.sz x.rt x.at2)).getD []
theorem lOf_enc (x : HP) : enc 12 (hdI 6 x.lg x.sz x.rt x.at2) = some (lOf x) ∧ (lOf x).length ≤ 1000 := by
  obtain ⟨l, h1, h2⟩ := hdI_enc 6 x.lg x.sz x.rt x.at2 (by decide) (by decide)
  unfold lOf
  rw [h1]
  exact ⟨rfl, h2⟩
/-- Whether a head is signed. -/
def sgB (sc y hh : Int) (x : HP) : Bool := hsR x.lg x.sz x.rt x.at2 sc y hh (lOf x) x.sg
/-- Whether two heads tell unlike things. -/
def ctB (x z : HP) : Bool := decide (x.lg = z.lg) && decide (x.sz = z.sz) && !decide (x.rt = z.rt)
def fkB (sc y hh : Int) (xs : List HP) (i k : Nat) : Bool := sgB sc y hh (xs.getD i default) && sgB sc y hh (xs.getD k default) && ctB (xs.getD i default) (xs.getD k default)
/-- The first two that are so. -/
def FkR (f : Nat → Nat → Bool) (n : Nat) (i k : Int) (ok : Bool) : Prop :=
  (n ≤ 20 ∧ ok = true ∧ ∃ p q : Nat, i = p ∧ k = q ∧ p < q ∧ q < n ∧ f p q = true ∧ ∀ a b, a < b → b < n → (a < p ∨ (a = p ∧ b < q)) → f a b = false) ∨ (ok = false ∧ i = 0 ∧ k = 0 ∧ (20 < n ∨ ∀ a b, a < b → b < n → f a b = false))
theorem FkR.eq {f : Nat → Nat → Bool} {n : Nat} {i k i' k' : Int} {ok ok' : Bool} (h : FkR f n i k ok) (h' : FkR f n i' k' ok') : i = i' ∧ k = k' ∧ ok = ok' := by
  rcases h with ⟨hn, rfl, p, q, rfl, rfl, h1, h2, h3, h4⟩ | ⟨rfl, rfl, rfl, h4⟩
  · rcases h' with ⟨_, rfl, p', q', rfl, rfl, g1, g2, g3, g4⟩ | ⟨rfl, rfl, rfl, g4⟩
    · by_cases e : p = p' ∧ q = q'
      · obtain ⟨rfl, rfl⟩ := e; exact ⟨rfl, rfl, rfl⟩
      · by_cases l : p < p' ∨ (p = p' ∧ q < q')
        · have := g4 p q h1 h2 l; rw [h3] at this; cases this
        · have := h4 p' q' g1 g2 (by omega); rw [g3] at this; cases this
    · rcases g4 with g4 | g4
      · omega
      · have := g4 p q h1 h2; rw [h3] at this; cases this
  · rcases h' with ⟨hn, rfl, p', q', rfl, rfl, g1, g2, g3, g4⟩ | ⟨rfl, rfl, rfl, g4⟩
    · rcases h4 with h4 | h4
      · omega
      · have := h4 p' q' g1 g2; rw [g3] at this; cases this
    · exact ⟨rfl, rfl, rfl⟩
/-- A Pub in its box. -/
structure PubB (w : World) (g : Nat) (sc y hh : Int) : Prop where
  lt : g < w.heap.size
  c0 : w.cell? ⟨g, 0, none⟩ = some (.int .i64 sc)
  c1 : w.cell? ⟨g, 1, none⟩ = some (.int .u64 y)
  c2 : w.cell? ⟨g, 2, none⟩ = some (.int .i64 hh)
theorem PubB.kept {w w' : World} {g : Nat} {sc y hh : Int} (h : PubB w g sc y hh) (hb : Below w.heap.size w w') : PubB w' g sc y hh :=
  ⟨Nat.lt_of_lt_of_le h.lt hb.size, (hb.cell (p := ⟨g, 0, none⟩) h.lt).trans h.c0, (hb.cell (p := ⟨g, 1, none⟩) h.lt).trans h.c1, (hb.cell (p := ⟨g, 2, none⟩) h.lt).trans h.c2⟩
theorem implSigned_hp (x : HP) (a : Option Addr) (n c : Nat) (sc y hh : Int) (w : World) (h3 : U64 x.rt) (hy : U64 y) (hg : Row w a n x.sg) (hng : n ≤ 1048576) (hcg : n ≤ c) :
    Calls Try.prog 9 #[.agg #[.int .i64 x.lg, .int .i64 x.sz, .int .u64 x.rt, .int .i64 x.at2, .slice a n c], .agg #[.int .i64 sc, .int .u64 y, .int .i64 hh]] w fun e w' => e = .returned (.bool (sgB sc y hh x)) ∧ Below w.heap.size w w' := implHeadSigned_any x.lg x.sz x.rt x.at2 a n c x.sg sc y hh (lOf x) w h3 hy hg hng hcg (lOf_enc x).1 (lOf_enc x).2
theorem specSigned_hp (x : HP) (a : Option Addr) (n c : Nat) (sc y hh : Int) (w : World) (h3 : U64 x.rt) (hy : U64 y) (hg : Row w a n x.sg) (hng : n ≤ 1048576) (hcg : n ≤ c) :
    Calls Try.prog 6 #[.agg #[.int .i64 x.lg, .int .i64 x.sz, .int .u64 x.rt, .int .i64 x.at2, .slice a n c], .agg #[.int .i64 sc, .int .u64 y, .int .i64 hh]] w fun e w' => e = .returned (.bool (sgB sc y hh x)) ∧ Below w.heap.size w w' := specHeadSigned_any x.lg x.sz x.rt x.at2 a n c x.sg sc y hh (lOf x) w h3 hy hg hng hcg (lOf_enc x).1 (lOf_enc x).2

set_option maxRecDepth 10000 in
set_option maxHeartbeats 1000000 in
theorem forkClosure_any (x : HP) (a : Option Addr) (n c gp : Nat) (sc y hh : Int) (w : World) (h3 : U64 x.rt) (hy : U64 y) (hg : Row w a n x.sg) (hng : n ≤ 1048576) (hcg : n ≤ c) (hp : PubB w gp sc y hh) :
    Calls Try.prog 27 #[.agg #[.int .i64 x.lg, .int .i64 x.sz, .int .u64 x.rt, .int .i64 x.at2, .slice a n c], .pointer (some ⟨gp, 0, none⟩)] w fun e w' => e = .returned (.bool (sgB sc y hh x)) ∧ Below w.heap.size w w' := by
  have hbb : Below w.heap.size w (w.alloc (.cells #[.int .i64 x.lg, .int .i64 x.sz, .int .u64 x.rt, .int .i64 x.at2, .slice a n c] 30)) := (Below.refl _ _).alloc (Nat.le_refl _) _
  have HR : Hid (Row (w.alloc (.cells #[.int .i64 x.lg, .int .i64 x.sz, .int .u64 x.rt, .int .i64 x.at2, .slice a n c] 30)) a n x.sg) := hg.kept hbb
  obtain ⟨hl, p0, p1, p2⟩ := hp.kept hbb
  clear hg hp
  go_enter Try.func27, Try.ntmps27
  go_wp2_with fail
  refine (implSigned_hp x a n c sc y hh _ h3 hy HR.out hng hcg).mono ?_
  rintro e w2 ⟨rfl, hb2⟩
  go_wp2
  go_ret
  exact ⟨rfl, keepT hbb hb2⟩

theorem Try.infoBl : (Try.prog.info? 4).map (fun i => (i.zero, i.size, i.bytes)) = some (some (.bool false), 1, 1) := by kernel_rfl
theorem blOne (bs : List Bool) : ∀ u ∈ bs.map Value.bool, u.oneCell' = true := by
  intro u hu
  obtain ⟨b, _, rfl⟩ := List.mem_map.1 hu
  rfl
theorem blShape {w : World} {B n : Nat} {v : Value} {xs : List Value} (h : w.ownsRow B 4 1 v n xs) : ∃ a c, v = .slice a n c := by
  rcases h.2 with ⟨rfl, rfl⟩ | ⟨g, cap, cur, rfl, _⟩
  · exact ⟨_, _, rfl⟩
  · exact ⟨_, _, rfl⟩
theorem cell_oneBl (w : World) (q : Bool) : ∀ j u, ([q].map Value.bool)[j]? = some u → (w.alloc (.cells #[.bool q] 4)).cell? ((⟨w.heap.size, 0, none⟩ : Addr).add j) = some u := cell_one_new w (.bool q) 4
/-- A row of flags. -/
structure RowB (w : World) (a : Option Addr) (n : Nat) (bs : List Bool) : Prop where
  get : ∀ k, k < n → ∃ b off, a = some ⟨b, off, none⟩ ∧ b < w.heap.size ∧ w.cell? ⟨b, off + k, none⟩ = some (.bool (bs.getD k false))
theorem RowB.kept {w w' : World} {a : Option Addr} {n : Nat} {bs : List Bool} (h : RowB w a n bs) (hb : Below w.heap.size w w') : RowB w' a n bs := by
  refine ⟨fun k hk => ?_⟩
  obtain ⟨b, off, ha, hl, hc⟩ := h.get k hk
  exact ⟨b, off, ha, Nat.lt_of_lt_of_le hl hb.size, (hb.cell (p := ⟨b, off + k, none⟩) hl).trans hc⟩
theorem rowB_of {w : World} {B n c : Nat} {a : Option Addr} {bs : List Bool} (h : w.ownsRow B 4 1 (.slice a n c) n (bs.map Value.bool)) : RowB w a n bs := by
  refine ⟨fun k hk => ?_⟩
  have hl : bs.length = n := by have := h.1; simpa using this
  rcases h.2 with ⟨_, h0⟩ | ⟨g, cap', cur, hv, hb, hg, _⟩
  · omega
  · simp only [Value.slice.injEq] at hv
    obtain ⟨rfl, _, _⟩ := hv
    refine ⟨g, 0, rfl, (Array.getElem?_eq_some_iff.1 hg).1, ?_⟩
    rw [Nat.zero_add, World.ownsRow.cellAt h k (by omega)]
    have hk2 : k < bs.length := by omega
    simp [hk2]

set_option maxRecDepth 10000 in
set_option maxHeartbeats 4000000 in
theorem eachSigned_any (a : Option Addr) (n c gp : Nat) (xs : List HP) (sc y hh : Int) (w : World) (hy : U64 y) (h : Hds (fun n c => n ≤ c ∧ n ≤ 1048576) w a n xs) (hn : n ≤ 20) (hp : PubB w gp sc y hh) :
    Calls Try.prog 26 #[.slice a n c, .func (Fn.func 27) #[] #[.pointer (some ⟨gp, 0, none⟩)]] w fun e w' => ∃ a' c', e = .returned (.slice a' n c') ∧ RowB w' a' n (xs.map (sgB sc y hh)) ∧ Below w.heap.size w w' := by
  obtain ⟨i0, hi, hz0, hz1, hz2⟩ := info_parts Try.infoBl
  have H0 : Hid (Hds (fun n c => n ≤ c ∧ n ≤ 1048576) w a n xs) := h
  have HLN : Hid (xs.length = n) := h.len
  have HPB : Hid (PubB w gp sc y hh) := hp
  clear h hp
  obtain ⟨bs, hbs⟩ : ∃ bs, bs = xs.map (sgB sc y hh) := ⟨_, rfl⟩
  have HBS : Hid (xs.map (sgB sc y hh) = bs) := hbs.symm
  have HBL : Hid (bs.length = n) := by show _ = _; rw [hbs, List.length_map]; exact HLN.out
  have HBG : Hid (∀ j, j < n → bs.getD j false = sgB sc y hh (xs.getD j default)) := fun j hj => by rw [hbs]; simp [HLN.out, hj]
  clear hbs
  go_enter Try.func26, Try.ntmps26
  go_wp2
  go_loopw [5, 10] (fun o i wr => ∃ (j cc : Nat) (ao : Option Addr), j ≤ n ∧ i = .int .i64 j ∧ o = .slice ao j cc ∧ Hid (wr.ownsRow w.heap.size 4 1 (.slice ao j cc) j ((bs.take j).map Value.bool)) ∧ Below w.heap.size w wr) (fun _ i _ => n - (intOf i).toNat)
  case atStart => exact ⟨0, 0, none, Nat.zero_le _, rfl, rfl, World.ownsRow_nil _ _ _ _, Below.refl _ _⟩
  case round =>
    obtain ⟨j, cc, ao, hj, rfl, rfl, HOR, hbr⟩ := hrel
    have hwz := hbr.size
    by_cases hlt : j < n
    · obtain ⟨b, off, a1, n1, c1, rfl, hb, hc, hrow, hm, hu, hK⟩ := (H0.out.kept hbr).get j hlt
      obtain ⟨p, hp⟩ : ∃ p, p = xs.getD j default := ⟨_, rfl⟩
      rw [← hp] at hc hrow hu
      have HQ : Hid (bs.getD j false = sgB sc y hh p) := by show _ = _; rw [HBG.out j hlt, hp]
      obtain ⟨x0, x1, x2, x3, x4⟩ := hc
      clear hp
      have hlti : (j : Int) < (n : Int) := by omega
      have hbz : Below wr.heap.size wr (wr.alloc (.cells #[.int .i64 p.lg, .int .i64 p.sz, .int .u64 p.rt, .int .i64 p.at2, .slice a1 n1 c1] 30)) := (Below.refl _ _).alloc (Nat.le_refl _) _
      have BZ : Below w.heap.size w (wr.alloc (.cells #[.int .i64 p.lg, .int .i64 p.sz, .int .u64 p.rt, .int .i64 p.at2, .slice a1 n1 c1] 30)) := keepT hbr hbz
      have HRW : Hid (Row (wr.alloc (.cells #[.int .i64 p.lg, .int .i64 p.sz, .int .u64 p.rt, .int .i64 p.at2, .slice a1 n1 c1] 30)) a1 n1 p.sg) := hrow.kept hbz
      clear hrow
      go_wp2_with fail
      refine (forkClosure_any p a1 n1 c1 gp sc y hh _ hu hy HRW.out hK.2 hK.1 (HPB.out.kept BZ)).mono ?_
      rintro e w2 ⟨rfl, hb2⟩
      have hor2 := ownsRow_below (ownsRow_below HOR.out hbz) hb2
      have B2 := keepT BZ hb2
      obtain ⟨q, hq⟩ : ∃ q, q = sgB sc y hh p := ⟨_, rfl⟩
      rw [← hq] at HQ ⊢
      clear hq hb2 hbz x0 x1 x2 x3 x4
      have b3 : Below w2.heap.size w2 (w2.alloc (.cells #[.bool q] 4)) := (Below.refl _ _).alloc (Nat.le_refl _) _
      have hor3 := ownsRow_below hor2 b3
      have B3 := keepT B2 b3
      have hcl := cell_oneBl w2 q
      have hs3 := B3.size
      have HT : Hid (bs.take (j + 1) = bs.take j ++ [q]) := by
        show _ = _
        have hl : j < bs.length := by rw [HBL.out]; exact hlt
        have e2 : bs.getD j false = bs[j] := by simp [hl]
        rw [List.take_succ_eq_append_getElem hl, ← e2, HQ.out]
      go_wp2_with (first | (at_builtin; refine wpList_append_own _ rfl (.tmp 14) (.tmp 18) 53 rfl w.heap.size 4 i0 _ 1 1 Try.underlying53 hi hz0 hz1 hz2 rfl (by decide) _ j _ rfl hor3 ⟨w2.heap.size, 0, none⟩ 1 1 ([q].map Value.bool) rfl rfl hcl (blOne _) (by unfold maxLen; omega) (by omega) (by exact hs3) ?_; intro v4 w4 hv4 hg4 _))
      have B5 : Below w.heap.size w w4 := B3.grown hg4 hs3 (fun kx hx => (hor3.lt kx hx).1)
      rw [← List.map_append, ← HT.out] at hv4
      obtain ⟨a5, c5, rfl⟩ := blShape hv4
      go_roundw
      case rel => exact ⟨j + 1, c5, a5, by omega, by go_num, rfl, hv4, B5⟩
      case measure => simp [intOf]; omega
    · obtain rfl : j = n := by omega
      have FIN : Hid (RowB wr ao j bs) := by
        have h := HOR.out
        rw [List.take_of_length_le (by rw [HBL.out]; exact Nat.le_refl _)] at h
        exact rowB_of h
      clear HOR
      go_wp2
      go_ret
      exact ⟨ao, cc, rfl, by rw [HBS.out]; exact FIN.out, hbr⟩

set_option maxRecDepth 10000 in
set_option maxHeartbeats 1000000 in
theorem contradicts_any (x z : HP) (a b : Option Addr) (n ca m cb : Nat) (w : World) :
    Calls Try.prog 28 #[.agg #[.int .i64 x.lg, .int .i64 x.sz, .int .u64 x.rt, .int .i64 x.at2, .slice a n ca], .agg #[.int .i64 z.lg, .int .i64 z.sz, .int .u64 z.rt, .int .i64 z.at2, .slice b m cb]] w fun e w' => e = .returned (.bool (ctB x z)) ∧ Below w.heap.size w w' := by
  have hbb : Below w.heap.size w ((w.alloc (.cells #[.int .i64 x.lg, .int .i64 x.sz, .int .u64 x.rt, .int .i64 x.at2, .slice a n ca] 30)).alloc (.cells #[.int .i64 z.lg, .int .i64 z.sz, .int .u64 z.rt, .int .i64 z.at2, .slice b m cb] 30)) := ((Below.refl _ _).alloc (Nat.le_refl _) _).alloc (by simp) _
  by_cases h1 : x.lg = z.lg
  case neg =>
    have HV : Hid (ctB x z = false) := by show _ = _; unfold ctB; simp [h1]
    have d1 : (x.lg == z.lg) = false := by simp [h1]
    clear h1
    go_enter Try.func28, Try.ntmps28
    go_wp2
    go_ret
    exact ⟨by rw [HV.out]; rfl, hbb⟩
  have d1 : (x.lg == z.lg) = true := by simp [h1]
  by_cases h2 : x.sz = z.sz
  case neg =>
    have HV : Hid (ctB x z = false) := by show _ = _; unfold ctB; simp [h2]
    have d2 : (x.sz == z.sz) = false := by simp [h2]
    clear h1 h2
    go_enter Try.func28, Try.ntmps28
    go_wp2
    go_ret
    exact ⟨by rw [HV.out]; rfl, hbb⟩
  have d2 : (x.sz == z.sz) = true := by simp [h2]
  by_cases h3 : x.rt = z.rt
  · have HV : Hid (ctB x z = false) := by show _ = _; unfold ctB; simp [h3]
    have d3 : (x.rt != z.rt) = false := by simp [h3]
    clear h1 h2 h3
    go_enter Try.func28, Try.ntmps28
    go_wp2
    go_ret
    exact ⟨by rw [HV.out]; rfl, hbb⟩
  · have HV : Hid (ctB x z = true) := by show _ = _; unfold ctB; simp [h1, h2, h3]
    have d3 : (x.rt != z.rt) = true := by simp [h3]
    clear h1 h2 h3
    go_enter Try.func28, Try.ntmps28
    go_wp2
    go_ret
    exact ⟨by rw [HV.out]; rfl, hbb⟩

end Go.Proofs.Ytbjlihahinelpaa

namespace Go.Proofs.Ytbjlihahinelpaa
open Go.RowKit

theorem results_threeF {fn : Func} {t0 t1 t2 : Tmp} (h : fn.results = #[.tmp t0, .tmp t1, .tmp t2]) (tmps : Array Value) (v0 v1 v2 : Value) (h0 : tmps.getD t0 undef = v0) (h1 : tmps.getD t1 undef = v1) (h2 : tmps.getD t2 undef = v2) (w : World) : (results fn tmps).run Try.prog w = .ok (.tuple #[v0, v1, v2]) w := by
  have e0 : tmps[t0]?.getD undef = v0 := by rw [← h0]; simp
  have e1 : tmps[t1]?.getD undef = v1 := by rw [← h1]; simp
  have e2 : tmps[t2]?.getD undef = v2 := by rw [← h2]; simp
  simp [results, h, go_sem, e0, e1, e2]
theorem fk_none {f : Nat → Nat → Bool} {n : Nat} (h : 20 < n ∨ ∀ a b, a < b → b < n → f a b = false) : FkR f n 0 0 false := .inr ⟨rfl, rfl, rfl, h⟩
theorem fk_some {f : Nat → Nat → Bool} {n i k : Nat} (hn : n ≤ 20) (h1 : i < k) (h2 : k < n) (h3 : f i k = true) (ho : ∀ a b, a < i → a < b → b < n → f a b = false) (hi : ∀ b, i < b → b < k → f i b = false) : FkR f n i k true :=
  .inl ⟨hn, rfl, i, k, rfl, rfl, h1, h2, h3, fun a b hab hb hc => by
    rcases hc with hc | ⟨rfl, hc⟩
    · exact ho a b hc hab hb
    · exact hi b hab hc⟩

set_option maxRecDepth 10000 in
set_option maxHeartbeats 8000000 in
theorem implForked_any (a : Option Addr) (n c : Nat) (xs : List HP) (sc y hh : Int) (w : World) (hy : U64 y) (h : Hds (fun n c => n ≤ c ∧ n ≤ 1048576) w a n xs) :
    Calls Try.prog 14 #[.slice a n c, .agg #[.int .i64 sc, .int .u64 y, .int .i64 hh]] w fun e w' => ∃ i k ok, e = .returned (.tuple #[.int .i64 i, .int .i64 k, .bool ok]) ∧ FkR (fkB sc y hh xs) n i k ok ∧ Below w.heap.size w w' := by
  obtain ⟨wb, hwb⟩ : ∃ wb, wb = w.alloc (.cells #[.int .i64 sc, .int .u64 y, .int .i64 hh] 32) := ⟨_, rfl⟩
  have hbb : Below w.heap.size w wb := by rw [hwb]; exact (Below.refl _ _).alloc (Nat.le_refl _) _
  have hblk : wb.heap[w.heap.size]? = some (.cells #[.int .i64 sc, .int .u64 y, .int .i64 hh] 32 (0, 0)) := by rw [hwb]; exact heap_alloc_new w _
  have HPB : Hid (PubB wb w.heap.size sc y hh) := ⟨(Array.getElem?_eq_some_iff.1 hblk).1, (cell_of_row _ _ 0 _ 32 (0, 0) hblk).trans rfl, (cell_of_row _ _ 1 _ 32 (0, 0) hblk).trans rfl, (cell_of_row _ _ 2 _ 32 (0, 0) hblk).trans rfl⟩
  have HH : Hid (Hds (fun n c => n ≤ c ∧ n ≤ 1048576) wb a n xs) := h.kept hbb
  have HLN : Hid (xs.length = n) := h.len
  have HBB : Hid (Below w.heap.size w wb) := hbb
  have hmax := h.max
  clear h hbb hblk
  by_cases hlong : 20 < n
  case pos =>
    have hli : (20 : Int) < (n : Int) := by omega
    have HF : Hid (FkR (fkB sc y hh xs) n 0 0 false) := fk_none (.inl hlong)
    go_enter Try.func14, Try.ntmps14
    go_upto_region 1 with fail
    rw [← hwb]
    clear hwb
    go_wp2
    try simp only [Exit.inBlock, Exit.then]
    exact bodyPost_ret (results_threeF rfl _ _ _ _ rfl rfl rfl _) rfl ⟨_, _, _, rfl, HF.out, HBB.out⟩
  have hli : ¬ (20 : Int) < (n : Int) := by omega
  have hn20 : n ≤ 20 := by omega
  clear hlong
  go_enter Try.func14, Try.ntmps14
  go_upto_region 1 with fail
  rw [← hwb]
  clear hwb
  go_wp2_with fail
  refine (eachSigned_any a n c w.heap.size xs sc y hh _ hy HH.out hn20 HPB.out).mono ?_
  rintro e w2 ⟨asg, csg, rfl, hrb, hb2⟩
  have HRB : Hid (RowB w2 asg n (xs.map (sgB sc y hh))) := hrb
  have HH2 : Hid (Hds (fun n c => n ≤ c ∧ n ≤ 1048576) w2 a n xs) := HH.out.kept hb2
  have HB2 : Hid (Below w.heap.size w w2) := keepT HBB.out hb2
  clear hrb HH HPB hb2
  go_wp2
  go_loopw [18] (fun i wr => ∃ p : Nat, p ≤ n ∧ i = .int .i64 p ∧ Hid (∀ a b, a < p → a < b → b < n → fkB sc y hh xs a b = false) ∧ Below w2.heap.size w2 wr) (fun i _ => n - (intOf i).toNat)
  case atStart => exact ⟨0, Nat.zero_le _, rfl, fun a b h => absurd h (Nat.not_lt_zero _), Below.refl _ _⟩
  case round =>
    obtain ⟨p, hp, rfl, HI, hbr⟩ := hrel
    by_cases hpn : p < n
    · have hpni : (p : Int) < (n : Int) := by omega
      go_wp2
      go_loopw [9] (fun j wr => ∃ k : Nat, k ≤ n ∧ j = .int .i64 k ∧ p < k ∧ Hid (∀ b, p < b → b < k → fkB sc y hh xs p b = false) ∧ Below w2.heap.size w2 wr) (fun j _ => n - (intOf j).toNat)
      case atStart => exact ⟨p + 1, by omega, by go_num, by omega, fun b h1 h2 => by omega, hbr⟩
      case round =>
        obtain ⟨k, hk, rfl, hpk, HJ, hbj⟩ := hrel
        clear hbr
        by_cases hkn : k < n
        · have hkni : (k : Int) < (n : Int) := by omega
          obtain ⟨sb, so, hsa, hsl, hs1⟩ := (HRB.out.kept hbj).get p hpn
          obtain ⟨sb2, so2, hsa2, _, hs2⟩ := (HRB.out.kept hbj).get k hkn
          obtain ⟨rfl, rfl⟩ : sb2 = sb ∧ so2 = so := by rw [hsa] at hsa2; simp at hsa2; exact ⟨hsa2.1.symm, hsa2.2.symm⟩
          subst hsa
          obtain ⟨b1, o1, p1, n1, d1, rfl, hl1, hc1, _⟩ := (HH2.out.kept hbj).get p hpn
          obtain ⟨b2, o2, p2, n2, d2, ha2, hl2, hc2, _⟩ := (HH2.out.kept hbj).get k hkn
          obtain ⟨rfl, rfl⟩ : b2 = b1 ∧ o2 = o1 := by simp at ha2; exact ⟨ha2.1.symm, ha2.2.symm⟩
          clear ha2 hsa2
          have e1 : (xs.map (sgB sc y hh)).getD p false = sgB sc y hh (xs.getD p default) := by simp [HLN.out, hpn]
          have e2 : (xs.map (sgB sc y hh)).getD k false = sgB sc y hh (xs.getD k default) := by simp [HLN.out, hkn]
          rw [e1] at hs1
          rw [e2] at hs2
          have HFK : Hid (fkB sc y hh xs p k = (sgB sc y hh (xs.getD p default) && sgB sc y hh (xs.getD k default) && ctB (xs.getD p default) (xs.getD k default))) := rfl
          obtain ⟨x, hx⟩ : ∃ x, x = xs.getD p default := ⟨_, rfl⟩
          obtain ⟨z, hz⟩ : ∃ z, z = xs.getD k default := ⟨_, rfl⟩
          rw [← hx] at hc1 hs1 HFK
          rw [← hz] at hc2 hs2 HFK
          obtain ⟨si, hsi⟩ : ∃ q, q = sgB sc y hh x := ⟨_, rfl⟩
          obtain ⟨sk, hsk⟩ : ∃ q, q = sgB sc y hh z := ⟨_, rfl⟩
          obtain ⟨ct, hct⟩ : ∃ q, q = ctB x z := ⟨_, rfl⟩
          rw [← hsi] at hs1 HFK
          rw [← hsk] at hs2 HFK
          rw [← hct] at HFK
          have HCT : Hid (ctB x z = ct) := hct.symm
          clear e1 e2 hx hz hsi hsk hct
          have r0 := cell_regrown hs1
          have r1 := cell_regrown hs2
          obtain ⟨x0, x1, x2, x3, x4⟩ := hc1
          obtain ⟨z0, z1, z2, z3, z4⟩ := hc2
          have q0 := cell_regrown x0
          have q1 := cell_regrown x1
          have q2 := cell_regrown x2
          have q3 := cell_regrown x3
          have q4 := cell_regrown x4
          have v0 := cell_regrown z0
          have v1 := cell_regrown z1
          have v2 := cell_regrown z2
          have v3 := cell_regrown z3
          have v4 := cell_regrown z4
          have ca : Hid (∀ d os, Calls Try.prog 28 #[.agg #[.int .i64 x.lg, .int .i64 x.sz, .int .u64 x.rt, .int .i64 x.at2, .slice p1 n1 d1], .agg #[.int .i64 z.lg, .int .i64 z.sz, .int .u64 z.rt, .int .i64 z.at2, .slice p2 n2 d2]] (Go.Sort.grow (redrawn wr d) os) fun e w'' => e = .returned (.bool ct) ∧ ∃ p : Regrown, w'' = Go.Sort.grow (redrawn wr p.d) p.os) := fun d os => Calls.regrown_of (by have h := contradicts_any x z p1 p2 n1 d1 n2 d2 (Go.Sort.grow (redrawn wr d) os); rw [HCT.out] at h; exact h)
          clear hs1 hs2 x0 x1 x2 x3 x4 z0 z1 z2 z3 z4 HCT
          cases si with
          | false =>
            have HNO : Hid (fkB sc y hh xs p k = false) := by show _ = _; rw [HFK.out]; rfl
            clear HFK
            go_upto_region 10 with fail
            refine wp_region_quiet_below (by kernel_rfl) (by kernel_rfl) ?_
            go_big_quiet_step (fail)
            go_big_quiet_step (fail)
            go_big_quiet_step (fail)
            go_big_quiet_step (fail)
            go_big_quiet_step (fail)
            go_big_quiet_step (fail)
            go_big_quiet_step (fail)
            go_big_quiet_step (fail)
            go_big_quiet_step (fail)
            go_big_quiet_step (fail)
            go_big_quiet_step (fail)
            go_big_quiet_step (fail)
            go_big_quiet_step (fail)
            go_big_quiet_step (fail)
            go_big_quiet_step (fail)
            go_big_quiet_step (fail)
            go_big_quiet_step (fail)
            go_big_quiet_step (fail)
            go_big_quiet_step (fail)
            go_big_quiet_step (fail)
            go_big_quiet_step (fail)
            refine wpQuiet_nil ?_
            intro _ hw'
            obtain ⟨⟨dq, osq⟩, hw2⟩ := hw'
            subst hw2
            have B7 : Below w2.heap.size w2 (Go.Sort.grow (redrawn wr dq) osq) := keepT hbj (below_regrown wr dq osq)
            clear r0 r1
            go_wp2
            go_roundw
            case rel => exact ⟨k + 1, by omega, by go_num, by omega, fun b hb1 hb2 => by
              by_cases e : b = k
              · subst e; exact HNO.out
              · exact HJ.out b hb1 (by omega), B7⟩
            case measure => simp [intOf]; omega
          | true =>
            cases sk with
            | false =>
              have HNO : Hid (fkB sc y hh xs p k = false) := by show _ = _; rw [HFK.out]; rfl
              clear HFK
              go_upto_region 10 with fail
              refine wp_region_quiet_below (by kernel_rfl) (by kernel_rfl) ?_
              go_big_quiet_step (fail)
              go_big_quiet_step (fail)
              go_big_quiet_step (fail)
              go_big_quiet_step (fail)
              go_big_quiet_step (fail)
              go_big_quiet_step (fail)
              go_big_quiet_step (fail)
              go_big_quiet_step (fail)
              go_big_quiet_step (fail)
              go_big_quiet_step (fail)
              go_big_quiet_step (fail)
              go_big_quiet_step (fail)
              go_big_quiet_step (fail)
              go_big_quiet_step (fail)
              go_big_quiet_step (fail)
              go_big_quiet_step (fail)
              go_big_quiet_step (fail)
              go_big_quiet_step (fail)
              go_big_quiet_step (fail)
              go_big_quiet_step (fail)
              go_big_quiet_step (fail)
              refine wpQuiet_nil ?_
              intro _ hw'
              obtain ⟨⟨dq, osq⟩, hw2⟩ := hw'
              subst hw2
              have B7 : Below w2.heap.size w2 (Go.Sort.grow (redrawn wr dq) osq) := keepT hbj (below_regrown wr dq osq)
              clear r0 r1
              go_wp2
              go_roundw
              case rel => exact ⟨k + 1, by omega, by go_num, by omega, fun b hb1 hb2 => by
                by_cases e : b = k
                · subst e; exact HNO.out
                · exact HJ.out b hb1 (by omega), B7⟩
              case measure => simp [intOf]; omega
            | true =>
              cases ct with
              | false =>
                have HNO : Hid (fkB sc y hh xs p k = false) := by show _ = _; rw [HFK.out]; rfl
                clear HFK
                go_upto_region 10 with fail
                refine wp_region_quiet_below (by kernel_rfl) (by kernel_rfl) ?_
                go_big_quiet_step (fail)
                go_big_quiet_step (fail)
                go_big_quiet_step (fail)
                go_big_quiet_step (fail)
                go_big_quiet_step (fail)
                go_big_quiet_step (fail)
                go_big_quiet_step (fail)
                go_big_quiet_step (fail)
                go_big_quiet_step (fail)
                go_big_quiet_step (fail)
                go_big_quiet_step (fail)
                go_big_quiet_step (fail)
                go_big_quiet_step (fail)
                go_big_quiet_step (fail)
                go_big_quiet_step (fail)
                go_big_quiet_step (fail)
                go_big_quiet_step (fail)
                go_big_quiet_step (fail)
                go_big_quiet_step (fail)
                go_big_quiet_step (exact ca.out _ _)
                go_big_quiet_step (fail)
                refine wpQuiet_nil ?_
                intro _ hw'
                obtain ⟨⟨dq, osq⟩, hw2⟩ := hw'
                subst hw2
                have B7 : Below w2.heap.size w2 (Go.Sort.grow (redrawn wr dq) osq) := keepT hbj (below_regrown wr dq osq)
                clear r0 r1
                go_wp2
                go_roundw
                case rel => exact ⟨k + 1, by omega, by go_num, by omega, fun b hb1 hb2 => by
                  by_cases e : b = k
                  · subst e; exact HNO.out
                  · exact HJ.out b hb1 (by omega), B7⟩
                case measure => simp [intOf]; omega
              | true =>
                have HYES : Hid (fkB sc y hh xs p k = true) := by show _ = _; rw [HFK.out]; rfl
                clear HFK
                go_upto_region 10 with fail
                refine wp_region_quiet_below (by kernel_rfl) (by kernel_rfl) ?_
                go_big_quiet_step (fail)
                go_big_quiet_step (fail)
                go_big_quiet_step (fail)
                go_big_quiet_step (fail)
                go_big_quiet_step (fail)
                go_big_quiet_step (fail)
                go_big_quiet_step (fail)
                go_big_quiet_step (fail)
                go_big_quiet_step (fail)
                go_big_quiet_step (fail)
                go_big_quiet_step (fail)
                go_big_quiet_step (fail)
                go_big_quiet_step (fail)
                go_big_quiet_step (fail)
                go_big_quiet_step (fail)
                go_big_quiet_step (fail)
                go_big_quiet_step (fail)
                go_big_quiet_step (fail)
                go_big_quiet_step (fail)
                go_big_quiet_step (exact ca.out _ _)
                go_big_quiet_step (fail)
                refine wpQuiet_nil ?_
                intro _ hw'
                obtain ⟨⟨dq, osq⟩, hw2⟩ := hw'
                subst hw2
                have B7 : Below w2.heap.size w2 (Go.Sort.grow (redrawn wr dq) osq) := keepT hbj (below_regrown wr dq osq)
                clear r0 r1
                have HFIN : Hid (FkR (fkB sc y hh xs) n p k true) := fk_some hn20 hpk hkn HYES.out HI.out HJ.out
                have HB9 := keepT HB2.out B7
                go_wp2
                try simp only [Exit.inBlock, Exit.then]
                exact bodyPost_ret (results_threeF rfl _ _ _ _ rfl rfl rfl _) rfl ⟨_, _, _, rfl, HFIN.out, HB9⟩
        · obtain rfl : k = n := by omega
          go_wp2
          go_roundw
          case rel => exact ⟨p + 1, by omega, by go_num, fun a b h1 h2 h3 => by
            by_cases e : a = p
            · subst e; exact HJ.out b h2 h3
            · exact HI.out a b (by omega) h2 h3, hbj⟩
          case measure => simp [intOf]; omega
    · obtain rfl : p = n := by omega
      have HFIN : Hid (FkR (fkB sc y hh xs) p 0 0 false) := fk_none (.inr (fun a b h1 h2 => HI.out a b (by omega) h1 h2))
      have HB9 := keepT HB2.out hbr
      go_wp2
      try simp only [Exit.inBlock, Exit.then]
      exact bodyPost_ret (results_threeF rfl _ _ _ _ rfl rfl rfl _) rfl ⟨_, _, _, rfl, HFIN.out, HB9⟩

end Go.Proofs.Ytbjlihahinelpaa

namespace Go.Proofs.Ytbjlihahinelpaa
open Go.RowKit

theorem results_threeG {fn : Func} {t0 t1 t2 : Tmp} (h : fn.results = #[.tmp t0, .tmp t1, .tmp t2]) (tmps : Array Value) (v0 v1 v2 : Value) (h0 : tmps.getD t0 undef = v0) (h1 : tmps.getD t1 undef = v1) (h2 : tmps.getD t2 undef = v2) (w : World) : (results fn tmps).run Try.prog w = .ok (.tuple #[v0, v1, v2]) w := by
  have e0 : tmps[t0]?.getD undef = v0 := by rw [← h0]; simp
  have e1 : tmps[t1]?.getD undef = v1 := by rw [← h1]; simp
  have e2 : tmps[t2]?.getD undef = v2 := by rw [← h2]; simp
  simp [results, h, go_sem, e0, e1, e2]
theorem fk_noneG {f : Nat → Nat → Bool} {n : Nat} (h : 20 < n ∨ ∀ a b, a < b → b < n → f a b = false) : FkR f n 0 0 false := .inr ⟨rfl, rfl, rfl, h⟩
theorem fk_someG {f : Nat → Nat → Bool} {n i k : Nat} (hn : n ≤ 20) (h1 : i < k) (h2 : k < n) (h3 : f i k = true) (ho : ∀ a b, a < i → a < b → b < n → f a b = false) (hi : ∀ b, i < b → b < k → f i b = false) : FkR f n i k true :=
  .inl ⟨hn, rfl, i, k, rfl, rfl, h1, h2, h3, fun a b hab hb hc => by
    rcases hc with hc | ⟨rfl, hc⟩
    · exact ho a b hc hab hb
    · exact hi b hab hc⟩

set_option maxRecDepth 10000 in
set_option maxHeartbeats 8000000 in
theorem specForked_any (a : Option Addr) (n c : Nat) (xs : List HP) (sc y hh : Int) (w : World) (hy : U64 y) (h : Hds (fun n c => n ≤ c ∧ n ≤ 1048576) w a n xs) :
    Calls Try.prog 12 #[.slice a n c, .agg #[.int .i64 sc, .int .u64 y, .int .i64 hh]] w fun e w' => ∃ i k ok, e = .returned (.tuple #[.int .i64 i, .int .i64 k, .bool ok]) ∧ FkR (fkB sc y hh xs) n i k ok ∧ Below w.heap.size w w' := by
  obtain ⟨wb, hwb⟩ : ∃ wb, wb = w.alloc (.cells #[.int .i64 sc, .int .u64 y, .int .i64 hh] 32) := ⟨_, rfl⟩
  have hbb : Below w.heap.size w wb := by rw [hwb]; exact (Below.refl _ _).alloc (Nat.le_refl _) _
  have hblk : wb.heap[w.heap.size]? = some (.cells #[.int .i64 sc, .int .u64 y, .int .i64 hh] 32 (0, 0)) := by rw [hwb]; exact heap_alloc_new w _
  have HPB : Hid (PubB wb w.heap.size sc y hh) := ⟨(Array.getElem?_eq_some_iff.1 hblk).1, (cell_of_row _ _ 0 _ 32 (0, 0) hblk).trans rfl, (cell_of_row _ _ 1 _ 32 (0, 0) hblk).trans rfl, (cell_of_row _ _ 2 _ 32 (0, 0) hblk).trans rfl⟩
  have HH : Hid (Hds (fun n c => n ≤ c ∧ n ≤ 1048576) wb a n xs) := h.kept hbb
  have HLN : Hid (xs.length = n) := h.len
  have HBB : Hid (Below w.heap.size w wb) := hbb
  have hmax := h.max
  clear h hbb hblk
  by_cases hlong : 20 < n
  case pos =>
    have hli : (20 : Int) < (n : Int) := by omega
    have HF : Hid (FkR (fkB sc y hh xs) n 0 0 false) := fk_noneG (.inl hlong)
    go_enter Try.func12, Try.ntmps12
    go_upto_region 1 with fail
    rw [← hwb]
    clear hwb
    go_wp2
    try simp only [Exit.inBlock, Exit.then]
    exact bodyPost_ret (results_threeG rfl _ _ _ _ rfl rfl rfl _) rfl ⟨_, _, _, rfl, HF.out, HBB.out⟩
  have hli : ¬ (20 : Int) < (n : Int) := by omega
  have hn20 : n ≤ 20 := by omega
  clear hlong
  go_enter Try.func12, Try.ntmps12
  go_upto_region 1 with fail
  rw [← hwb]
  clear hwb
  go_wp2
  go_loopw [7] (fun i wr => ∃ p : Nat, p ≤ n ∧ i = .int .i64 p ∧ Hid (∀ a b, a < p → a < b → b < n → fkB sc y hh xs a b = false) ∧ Below wb.heap.size wb wr) (fun i _ => n - (intOf i).toNat)
  case atStart => exact ⟨0, Nat.zero_le _, rfl, fun a b h => absurd h (Nat.not_lt_zero _), Below.refl _ _⟩
  case round =>
    obtain ⟨p, hp, rfl, HI, hbr⟩ := hrel
    by_cases hpn : p < n
    · have hpni : (p : Int) < (n : Int) := by omega
      go_wp2
      go_loopw [8] (fun j wr => ∃ k : Nat, k ≤ n ∧ j = .int .i64 k ∧ p < k ∧ Hid (∀ b, p < b → b < k → fkB sc y hh xs p b = false) ∧ Below wb.heap.size wb wr) (fun j _ => n - (intOf j).toNat)
      case atStart => exact ⟨p + 1, by omega, by go_num, by omega, fun b h1 h2 => by omega, hbr⟩
      case round =>
        obtain ⟨k, hk, rfl, hpk, HJ, hbj⟩ := hrel
        clear hbr
        by_cases hkn : k < n
        · have hkni : (k : Int) < (n : Int) := by omega
          obtain ⟨b1, o1, p1, n1, d1, rfl, hl1, hc1, hr1, _, hu1, hK1⟩ := (HH.out.kept hbj).get p hpn
          obtain ⟨b2, o2, p2, n2, d2, ha2, hl2, hc2, hr2, _, hu2, hK2⟩ := (HH.out.kept hbj).get k hkn
          obtain ⟨rfl, rfl⟩ : b2 = b1 ∧ o2 = o1 := by simp at ha2; exact ⟨ha2.1.symm, ha2.2.symm⟩
          clear ha2
          have HFK : Hid (fkB sc y hh xs p k = (sgB sc y hh (xs.getD p default) && sgB sc y hh (xs.getD k default) && ctB (xs.getD p default) (xs.getD k default))) := rfl
          obtain ⟨x, hx⟩ : ∃ x, x = xs.getD p default := ⟨_, rfl⟩
          obtain ⟨z, hz⟩ : ∃ z, z = xs.getD k default := ⟨_, rfl⟩
          rw [← hx] at hc1 hr1 hu1 HFK
          rw [← hz] at hc2 hr2 hu2 HFK
          clear hx hz
          obtain ⟨x0, x1, x2, x3, x4⟩ := hc1
          obtain ⟨z0, z1, z2, z3, z4⟩ := hc2
          have HR1 : Hid (Row wr p1 n1 x.sg) := hr1
          have HR2 : Hid (Row wr p2 n2 z.sg) := hr2
          obtain ⟨wz, hwz⟩ : ∃ wz, wz = (wr.alloc (.cells #[.int .i64 x.lg, .int .i64 x.sz, .int .u64 x.rt, .int .i64 x.at2, .slice p1 n1 d1] 30)).alloc (.cells #[.int .i64 z.lg, .int .i64 z.sz, .int .u64 z.rt, .int .i64 z.at2, .slice p2 n2 d2] 30) := ⟨_, rfl⟩
          have hbz : Below wr.heap.size wr wz := by rw [hwz]; exact ((Below.refl _ _).alloc (Nat.le_refl _) _).alloc (by simp) _
          have hszz : wz.heap.size = wr.heap.size + 2 := by rw [hwz]; simp
          have s1 : (wr.alloc (.cells #[.int .i64 x.lg, .int .i64 x.sz, .int .u64 x.rt, .int .i64 x.at2, .slice p1 n1 d1] 30)).heap.size = wr.heap.size + 1 := by simp
          have kb0 : wz.heap[wr.heap.size]? = some (.cells #[.int .i64 x.lg, .int .i64 x.sz, .int .u64 x.rt, .int .i64 x.at2, .slice p1 n1 d1] 30 (0, 0)) := by rw [hwz]; exact (alloc_oldT _ _ _ (by simp)).trans (heap_alloc_new wr _)
          have kb1 : wz.heap[wr.heap.size + 1]? = some (.cells #[.int .i64 z.lg, .int .i64 z.sz, .int .u64 z.rt, .int .i64 z.at2, .slice p2 n2 d2] 30 (0, 0)) := by rw [hwz, ← s1]; exact heap_alloc_new _ _
          have l0 : wz.cell? ⟨wr.heap.size, 0, none⟩ = some (.int .i64 x.lg) := (cell_of_row _ _ 0 _ 30 (0, 0) kb0).trans rfl
          have l1 : wz.cell? ⟨wr.heap.size, 1, none⟩ = some (.int .i64 x.sz) := (cell_of_row _ _ 1 _ 30 (0, 0) kb0).trans rfl
          have l2 : wz.cell? ⟨wr.heap.size, 2, none⟩ = some (.int .u64 x.rt) := (cell_of_row _ _ 2 _ 30 (0, 0) kb0).trans rfl
          have l3 : wz.cell? ⟨wr.heap.size, 3, none⟩ = some (.int .i64 x.at2) := (cell_of_row _ _ 3 _ 30 (0, 0) kb0).trans rfl
          have l4 : wz.cell? ⟨wr.heap.size, 4, none⟩ = some (.slice p1 n1 d1) := (cell_of_row _ _ 4 _ 30 (0, 0) kb0).trans rfl
          have m0 : wz.cell? ⟨wr.heap.size + 1, 0, none⟩ = some (.int .i64 z.lg) := (cell_of_row _ _ 0 _ 30 (0, 0) kb1).trans rfl
          have m1 : wz.cell? ⟨wr.heap.size + 1, 1, none⟩ = some (.int .i64 z.sz) := (cell_of_row _ _ 1 _ 30 (0, 0) kb1).trans rfl
          have m2 : wz.cell? ⟨wr.heap.size + 1, 2, none⟩ = some (.int .u64 z.rt) := (cell_of_row _ _ 2 _ 30 (0, 0) kb1).trans rfl
          have m3 : wz.cell? ⟨wr.heap.size + 1, 3, none⟩ = some (.int .i64 z.at2) := (cell_of_row _ _ 3 _ 30 (0, 0) kb1).trans rfl
          have m4 : wz.cell? ⟨wr.heap.size + 1, 4, none⟩ = some (.slice p2 n2 d2) := (cell_of_row _ _ 4 _ 30 (0, 0) kb1).trans rfl
          have HWZ : Hid (_ = _) := hwz
          have B4 : Below wb.heap.size wb wz := keepT hbj hbz
          obtain ⟨_, k0, k1, k2⟩ := HPB.out.kept B4
          clear hr1 hr2 s1 kb0 kb1 hwz
          go_upto_region 11 with fail
          rw [← HWZ.out]
          clear HWZ x0 x1 x2 x3 x4 z0 z1 z2 z3 z4
          by_cases c1 : x.lg = z.lg
          case neg =>
            have HNO : Hid (fkB sc y hh xs p k = false) := by show _ = _; rw [HFK.out]; unfold ctB; simp [c1]
            have d1 : (x.lg == z.lg) = false := by simp [c1]
            clear c1
            go_wp2
            go_roundw
            case rel => exact ⟨k + 1, by omega, by go_num, by omega, fun b hb1 hb2 => by
              by_cases e : b = k
              · subst e; exact HNO.out
              · exact HJ.out b hb1 (by omega), B4⟩
            case measure => simp [intOf]; omega
          have e1 : (x.lg == z.lg) = true := by simp [c1]
          by_cases c2 : x.sz = z.sz
          case neg =>
            have HNO : Hid (fkB sc y hh xs p k = false) := by show _ = _; rw [HFK.out]; unfold ctB; simp [c2]
            have e2 : (x.sz == z.sz) = false := by simp [c2]
            clear c1 c2
            go_wp2
            go_roundw
            case rel => exact ⟨k + 1, by omega, by go_num, by omega, fun b hb1 hb2 => by
              by_cases e : b = k
              · subst e; exact HNO.out
              · exact HJ.out b hb1 (by omega), B4⟩
            case measure => simp [intOf]; omega
          have e2 : (x.sz == z.sz) = true := by simp [c2]
          by_cases c3 : x.rt = z.rt
          case pos =>
            have HNO : Hid (fkB sc y hh xs p k = false) := by show _ = _; rw [HFK.out]; unfold ctB; simp [c3]
            have e3 : (x.rt != z.rt) = false := by simp [c3]
            clear c1 c2 c3
            go_wp2
            go_roundw
            case rel => exact ⟨k + 1, by omega, by go_num, by omega, fun b hb1 hb2 => by
              by_cases e : b = k
              · subst e; exact HNO.out
              · exact HJ.out b hb1 (by omega), B4⟩
            case measure => simp [intOf]; omega
          have e3 : (x.rt != z.rt) = true := by simp [c3]
          have HCT : Hid (ctB x z = true) := by show _ = _; unfold ctB; simp [c1, c2, c3]
          clear c1 c2 c3
          cases hsi : sgB sc y hh x with
          | false =>
            have HNO : Hid (fkB sc y hh xs p k = false) := by show _ = _; rw [HFK.out, hsi]; rfl
            go_wp2_with fail
            refine (specSigned_hp x p1 n1 d1 sc y hh _ hu1 hy (HR1.out.kept hbz) hK1.2 hK1.1).mono ?_
            rintro e w5 ⟨rfl, hb5⟩
            rw [hsi]
            have B5 := keepT B4 hb5
            clear l0 l1 l2 l3 l4 m0 m1 m2 m3 m4
            go_wp2
            go_roundw
            case rel => exact ⟨k + 1, by omega, by go_num, by omega, fun b hb1 hb2 => by
              by_cases e : b = k
              · subst e; exact HNO.out
              · exact HJ.out b hb1 (by omega), B5⟩
            case measure => simp [intOf]; omega
          | true =>
            cases hsk : sgB sc y hh z with
            | false =>
              have HNO : Hid (fkB sc y hh xs p k = false) := by show _ = _; rw [HFK.out, hsi, hsk]; rfl
              go_wp2_with fail
              refine (specSigned_hp x p1 n1 d1 sc y hh _ hu1 hy (HR1.out.kept hbz) hK1.2 hK1.1).mono ?_
              rintro e w5 ⟨rfl, hb5⟩
              rw [hsi]
              obtain ⟨_, k0, k1, k2⟩ := HPB.out.kept (keepT (keepT hbj hbz) hb5)
              have u0 := (hb5.cell (p := ⟨wr.heap.size + 1, 0, none⟩) (show wr.heap.size + 1 < wz.heap.size by omega)).trans (m0)
              have u1 := (hb5.cell (p := ⟨wr.heap.size + 1, 1, none⟩) (show wr.heap.size + 1 < wz.heap.size by omega)).trans (m1)
              have u2 := (hb5.cell (p := ⟨wr.heap.size + 1, 2, none⟩) (show wr.heap.size + 1 < wz.heap.size by omega)).trans (m2)
              have u3 := (hb5.cell (p := ⟨wr.heap.size + 1, 3, none⟩) (show wr.heap.size + 1 < wz.heap.size by omega)).trans (m3)
              have u4 := (hb5.cell (p := ⟨wr.heap.size + 1, 4, none⟩) (show wr.heap.size + 1 < wz.heap.size by omega)).trans (m4)
              go_wp2_with fail
              refine (specSigned_hp z p2 n2 d2 sc y hh _ hu2 hy ((HR2.out.kept hbz).kept hb5) hK2.2 hK2.1).mono ?_
              rintro e w6 ⟨rfl, hb6⟩
              rw [hsk]
              have B6 := keepT (keepT B4 hb5) hb6
              clear l0 l1 l2 l3 l4 m0 m1 m2 m3 m4 u0 u1 u2 u3 u4
              go_wp2
              go_roundw
              case rel => exact ⟨k + 1, by omega, by go_num, by omega, fun b hb1 hb2 => by
                by_cases e : b = k
                · subst e; exact HNO.out
                · exact HJ.out b hb1 (by omega), B6⟩
              case measure => simp [intOf]; omega
            | true =>
              have HYES : Hid (fkB sc y hh xs p k = true) := by show _ = _; rw [HFK.out, hsi, hsk, HCT.out]; rfl
              go_wp2_with fail
              refine (specSigned_hp x p1 n1 d1 sc y hh _ hu1 hy (HR1.out.kept hbz) hK1.2 hK1.1).mono ?_
              rintro e w5 ⟨rfl, hb5⟩
              rw [hsi]
              obtain ⟨_, k0, k1, k2⟩ := HPB.out.kept (keepT (keepT hbj hbz) hb5)
              have u0 := (hb5.cell (p := ⟨wr.heap.size + 1, 0, none⟩) (show wr.heap.size + 1 < wz.heap.size by omega)).trans (m0)
              have u1 := (hb5.cell (p := ⟨wr.heap.size + 1, 1, none⟩) (show wr.heap.size + 1 < wz.heap.size by omega)).trans (m1)
              have u2 := (hb5.cell (p := ⟨wr.heap.size + 1, 2, none⟩) (show wr.heap.size + 1 < wz.heap.size by omega)).trans (m2)
              have u3 := (hb5.cell (p := ⟨wr.heap.size + 1, 3, none⟩) (show wr.heap.size + 1 < wz.heap.size by omega)).trans (m3)
              have u4 := (hb5.cell (p := ⟨wr.heap.size + 1, 4, none⟩) (show wr.heap.size + 1 < wz.heap.size by omega)).trans (m4)
              go_wp2_with fail
              refine (specSigned_hp z p2 n2 d2 sc y hh _ hu2 hy ((HR2.out.kept hbz).kept hb5) hK2.2 hK2.1).mono ?_
              rintro e w6 ⟨rfl, hb6⟩
              rw [hsk]
              have HB9 : Hid (Below w.heap.size w w6) := keepT HBB.out (keepT (keepT B4 hb5) hb6)
              have HFIN : Hid (FkR (fkB sc y hh xs) n p k true) := fk_someG hn20 hpk hkn HYES.out HI.out HJ.out
              clear l0 l1 l2 l3 l4 m0 m1 m2 m3 m4 u0 u1 u2 u3 u4
              go_wp2
              try simp only [Exit.inBlock, Exit.then]
              exact bodyPost_ret (results_threeG rfl _ _ _ _ rfl rfl rfl _) rfl ⟨_, _, _, rfl, HFIN.out, HB9.out⟩
        · obtain rfl : k = n := by omega
          go_wp2
          go_roundw
          case rel => exact ⟨p + 1, by omega, by go_num, fun a b h1 h2 h3 => by
            by_cases e : a = p
            · subst e; exact HJ.out b h2 h3
            · exact HI.out a b (by omega) h2 h3, hbj⟩
          case measure => simp [intOf]; omega
    · obtain rfl : p = n := by omega
      have HFIN : Hid (FkR (fkB sc y hh xs) p 0 0 false) := fk_noneG (.inr (fun a b h1 h2 => HI.out a b (by omega) h1 h2))
      have HB9 := keepT HBB.out hbr
      go_wp2
      try simp only [Exit.inBlock, Exit.then]
      exact bodyPost_ret (results_threeG rfl _ _ _ _ rfl rfl rfl _) rfl ⟨_, _, _, rfl, HFIN.out, HB9⟩

end Go.Proofs.Ytbjlihahinelpaa

namespace Go.Proofs.Ytbjlihahinelpaa
open Go.RowKit

set_option maxRecDepth 10000 in
set_option maxHeartbeats 8000000 in
theorem lawForked_walk (a : Option Addr) (n cap : Nat) (xs : List HP) (sc y hh : Int) (w : World) (hy : U64 y) (h : Hds (fun _ _ => True) w a n xs) :
    Calls Try.prog 4 #[.slice a n cap, .agg #[.int .i64 sc, .int .u64 y, .int .i64 hh]] w fun e w' => e = .returned (.bool true) ∧ Below w.heap.size w w' := by
  obtain ⟨wb, hwb⟩ : ∃ wb, wb = w.alloc (.cells #[.int .i64 sc, .int .u64 y, .int .i64 hh] 27) := ⟨_, rfl⟩
  have hbb : Below w.heap.size w wb := by rw [hwb]; exact (Below.refl _ _).alloc (Nat.le_refl _) _
  have hblk : wb.heap[w.heap.size]? = some (.cells #[.int .i64 sc, .int .u64 y, .int .i64 hh] 27 (0, 0)) := by rw [hwb]; exact heap_alloc_new w _
  have hlt : w.heap.size < wb.heap.size := (Array.getElem?_eq_some_iff.1 hblk).1
  have HC : Hid (∀ W, Below wb.heap.size wb W → W.cell? ⟨w.heap.size, 0, none⟩ = some (.int .i64 sc) ∧ W.cell? ⟨w.heap.size, 1, none⟩ = some (.int .u64 y) ∧ W.cell? ⟨w.heap.size, 2, none⟩ = some (.int .i64 hh)) := by
    intro W hW
    have b := (hW.block _ hlt).trans hblk
    exact ⟨(cell_of_row _ _ 0 _ 27 (0, 0) b).trans rfl, (cell_of_row _ _ 1 _ 27 (0, 0) b).trans rfl, (cell_of_row _ _ 2 _ 27 (0, 0) b).trans rfl⟩
  have HH : Hid (Hds (fun _ _ => True) wb a n xs) := h.kept hbb
  have HBB : Hid (Below w.heap.size w wb) := hbb
  clear h hbb hblk
  go_enter Try.func4, Try.ntmps4
  go_upto_region 1 with fail
  rw [← hwb]
  clear hwb
  go_wp2_with fail
  refine (szHeadS_any _ a n cap xs 1048576 _ HH.out (by decide) (by decide)).mono ?_
  rintro e w1 ⟨r, rfl, hr, hb1⟩
  by_cases hneg : r < 0
  · clear hr
    go_wp2
    go_ret
    exact ⟨rfl, keepT HBB.out hb1⟩
  have hn : n ≤ 1048576 := by omega
  have HZ : Hid (∀ k, k < n → (xs.getD k default).sg.length ≤ 1048576) := by
    rcases hr with hr | hr
    · exact absurd hr hneg
    · exact hr.2.2.2
  clear hr
  go_upto_region 5 with fail
  have hcur : Below wb.heap.size wb w1.drew := keepT hb1 (Below.refl _ _).drew
  have SS0 := HC.out _ hcur
  go_cut [6, 7, 8] (fun u v t wx => ∃ i k ok, u = .int .i64 i ∧ v = .int .i64 k ∧ t = .bool ok ∧ Hid (FkR (fkB sc y hh xs) n i k ok) ∧ Below wb.heap.size wb wx)
  case first =>
    go_region_held3 (fun W => W.cell? ⟨w.heap.size, 0, none⟩ = some (.int .i64 sc) ∧ W.cell? ⟨w.heap.size, 1, none⟩ = some (.int .u64 y) ∧ W.cell? ⟨w.heap.size, 2, none⟩ = some (.int .i64 hh)) (first | assumption | exact SS0 | exact SS1 | exact SS2 | exact SS3)
      (first
        | (go_at_call 13; ((with_reducible refine (toHeadS_any _ a n cap xs w1.drew (HH.out.kept hcur) hn HZ.out).mono ?_); rintro e w2 ⟨a2, rfl, ho2, hb2⟩; have B2 : Below wb.heap.size wb w2 := keepT hcur hb2; have SS1 := HC.out _ B2; have R2 : Hid (Hds (fun n c => n ≤ c ∧ n ≤ 1048576) w2 a2 n xs) := ho2; clear ho2))
        | (go_at_call 8; ((with_reducible refine (toPub_agg sc y hh w2).mono ?_); rintro e w3 ⟨rfl, hb3⟩; have B3 : Below wb.heap.size wb w3 := keepT B2 hb3; have SS2 := HC.out _ B3; have R3 : Hid (Hds (fun n c => n ≤ c ∧ n ≤ 1048576) w3 a2 n xs) := R2.out.kept hb3))
        | (go_at_call 12; ((with_reducible refine (specForked_any a2 n n xs sc y hh w3 hy R3.out).mono ?_); rintro e w4 ⟨i, k, ok, rfl, hF, hb4⟩; have HF : Hid (FkR (fkB sc y hh xs) n i k ok) := hF; clear hF; have B4 : Below wb.heap.size wb w4 := keepT B3 hb4; have SS3 := HC.out _ B4)))
    all_goals (
      go_wp2_with fail
      go_meet
      exact ⟨i, k, ok, rfl, rfl, rfl, HF, B4⟩)
  case rest =>
    obtain ⟨i, k, ok, rfl, rfl, rfl, HF, B5⟩ := hcut
    clear SS0 hcur hb1
    go_wp2_with fail
    refine (toHeadS_any _ a n cap xs _ (HH.out.kept B5) hn HZ.out).mono ?_
    rintro e w6 ⟨a6, rfl, ho6, hb6⟩
    have B6 : Below wb.heap.size wb w6 := keepT B5 hb6
    have R6 : Hid (Hds (fun n c => n ≤ c ∧ n ≤ 1048576) w6 a6 n xs) := ho6
    obtain ⟨u0, u1, u2⟩ := HC.out _ B6
    clear ho6
    go_wp2_with fail
    refine (toPub_agg sc y hh _).mono ?_
    rintro e w7 ⟨rfl, hb7⟩
    have B7 := keepT B6 hb7
    have R7 : Hid (Hds (fun n c => n ≤ c ∧ n ≤ 1048576) w7 a6 n xs) := R6.out.kept hb7
    clear R6 u0 u1 u2
    go_wp2_with fail
    refine (implForked_any a6 n n xs sc y hh _ hy R7.out).mono ?_
    rintro e w8 ⟨i2, k2, ok2, rfl, hF2, hb8⟩
    obtain ⟨rfl, rfl, rfl⟩ := hF2.eq HF.out
    have B8 := keepT B7 hb8
    have R8 : Hid (Hds (fun n c => n ≤ c ∧ n ≤ 1048576) w8 a6 n xs) := R7.out.kept hb8
    have z1 : (i2 != i2) = false := by simp
    have z2 : (k2 != k2) = false := by simp
    have z3 : (ok2 != ok2) = false := by simp
    clear hF2 HF R7
    go_wp2_with fail
    refine (toHeadS_any _ a n cap xs _ (HH.out.kept B8) hn HZ.out).mono ?_
    rintro e w9 ⟨a9, rfl, ho9, hb9⟩
    have B9 := keepT B8 hb9
    have R9 : Hid (Hds (fun n c => n ≤ c ∧ n ≤ 1048576) w9 a9 n xs) := ho9
    clear ho9
    go_wp2_with fail
    refine (eqHeadS_same _ _ a6 a9 n n n xs _ (R8.out.kept hb9) R9.out).mono ?_
    rintro e w10 ⟨rfl, hb10⟩
    have FIN : Hid (Below w.heap.size w w10) := keepT HBB.out (keepT B9 hb10)
    go_wp2_with fail
    go_ret
    exact ⟨rfl, FIN.out⟩

end Go.Proofs.Ytbjlihahinelpaa

namespace Go.Proofs.Ytbjlihahinelpaa
open Go.ChangeShapes Go.WideShapes Go.ChangeAt Go.RowKit

theorem open_rowH {H : Type} {enc : TypeId × Value → H} {W : World} {fuel : Nat} {cs : List Value} {x : DataW H × List MemPlace} (h : DataW.trod enc Try.prog W 0 (fun _ => true) true fuel 23 cs = some x) :
    ∃ a n cap zs, cs = [.slice a n cap] ∧ Row W a n zs ∧ n ≤ 9223372036854775807 := by
  rcases open_ints Try.underlying23 Try.underlying5 (by kernel_rfl) h with ⟨rfl, _⟩ | ⟨a, len, cap, zs, rfl, _, hl, hm, hz, _, hc, hwz⟩
  · exact ⟨none, 0, 0, [], rfl, ⟨rfl, fun k hk => absurd hk (Nat.not_lt_zero _), by simp⟩, by decide⟩
  · have hr : IsRow .u8 W (some a) len cap zs := .inr ⟨_, rfl, hl, hm, by simpa using hz, hc, hwz⟩
    exact ⟨some a, len, cap, zs.take len, rfl, hr.row.1, by have := hr.row.2; unfold maxLen at this; omega⟩
def OpensH (W : World) (y : HP) (cs : List Value) : Prop := ∃ a n c, cs = [.int .i64 y.lg, .int .i64 y.sz, .int .u64 y.rt, .int .i64 y.at2, .slice a n c] ∧ Row W a n y.sg ∧ n ≤ 9223372036854775807 ∧ U64 y.rt
set_option maxRecDepth 20000 in
theorem open_hd {H : Type} {enc : TypeId × Value → H} {W : World} {fuel : Nat} {cs : List Value} {x : DataW H × List MemPlace} (h : DataW.trod enc Try.prog W 0 (fun _ => true) true fuel 25 cs = some x) : ∃ y, OpensH W y cs := by
  obtain ⟨xs, m, rfl, _, hl, hxl, hf⟩ := DataW.trod_struct Try.underlying25 h
  have hl2 : cs.length = 5 := hl.trans (by kernel_rfl)
  have hx2 : xs.length = 5 := hxl
  obtain ⟨c0, c1, c2, c3, c4, rfl⟩ : ∃ c0 c1 c2 c3 c4, cs = [c0, c1, c2, c3, c4] := by
    match cs, hl2 with
    | [c0, c1, c2, c3, c4], _ => exact ⟨c0, c1, c2, c3, c4, rfl⟩
  obtain ⟨x0, x1, x2, x3, x4, rfl⟩ : ∃ c0 c1 c2 c3 c4, xs = [c0, c1, c2, c3, c4] := by
    match xs, hx2 with
    | [c0, c1, c2, c3, c4], _ => exact ⟨c0, c1, c2, c3, c4, rfl⟩
  have e1 : Try.prog.cellsOf 2 = 1 := by kernel_rfl
  have e3 : Try.prog.cellsOf 22 = 1 := by kernel_rfl
  have e2 : Try.prog.cellsOf 23 = 1 := by kernel_rfl
  have f0 : DataW.trod enc Try.prog W 0 (fun _ => true) true m 2 ((([c0, c1, c2, c3, c4] : List Value).drop 0).take (Try.prog.cellsOf 2)) = some x0 := hf 0 _ rfl
  rw [e1] at f0
  have f1 : DataW.trod enc Try.prog W 0 (fun _ => true) true m 2 ((([c0, c1, c2, c3, c4] : List Value).drop 1).take (Try.prog.cellsOf 2)) = some x1 := hf 1 _ rfl
  rw [e1] at f1
  have f2 : DataW.trod enc Try.prog W 0 (fun _ => true) true m 22 ((([c0, c1, c2, c3, c4] : List Value).drop 2).take (Try.prog.cellsOf 22)) = some x2 := hf 2 _ rfl
  rw [e3] at f2
  have f3 : DataW.trod enc Try.prog W 0 (fun _ => true) true m 2 ((([c0, c1, c2, c3, c4] : List Value).drop 3).take (Try.prog.cellsOf 2)) = some x3 := hf 3 _ rfl
  rw [e1] at f3
  have f4 : DataW.trod enc Try.prog W 0 (fun _ => true) true m 23 ((([c0, c1, c2, c3, c4] : List Value).drop 4).take (Try.prog.cellsOf 23)) = some x4 := hf 4 _ rfl
  rw [e2] at f4
  obtain ⟨n0, h0, _, _⟩ := DataW.trod_int Try.underlying2 f0
  obtain ⟨n1, h1, _, _⟩ := DataW.trod_int Try.underlying2 f1
  obtain ⟨n2, h2, _, v2⟩ := DataW.trod_int Try.underlying22 f2
  obtain ⟨n3, h3, _, _⟩ := DataW.trod_int Try.underlying2 f3
  obtain ⟨a4, n4, p4, z4, h4, r4, q4⟩ := open_rowH f4
  simp at h0 h1 h2 h3 h4
  subst h0 h1 h2 h3 h4
  exact ⟨⟨n0, n1, n2, n3, z4⟩, a4, n4, p4, rfl, r4, q4, bounds_u64 v2⟩

set_option maxRecDepth 20000 in
theorem open_hds {H : Type} {enc : TypeId × Value → H} {W : World} {fuel : Nat} {cs : List Value} {x : DataW H × List MemPlace} (h : DataW.trod enc Try.prog W 0 (fun _ => true) true fuel 36 cs = some x) : ∃ a n c xs, cs = [.slice a n c] ∧ Hds (fun _ _ => True) W a n xs := by
  rcases DataW.trod_slice Try.underlying36 h with ⟨rfl, _⟩ | ⟨a, len, cap, elems, rest, n, rfl, rfl, _, _, hl, hm, hlen, hel, _, _⟩
  · exact ⟨none, 0, 0, [], rfl, ⟨rfl, by decide, fun k hk => absurd hk (by omega)⟩⟩
  · have ec : Try.prog.cellsOf 25 = 5 := by kernel_rfl
    rw [ec] at hel
    have each : ∀ i, i < len → ∃ y : HP, ∃ cs', W.cells? 0 (a.add (i * 5)) 5 = some cs' ∧ OpensH W y cs' := by
      intro i hi
      have he := hel i hi
      rw [List.getElem?_eq_getElem (by omega)] at he
      cases hc : W.cells? 0 (a.add (i * 5)) 5 with
      | none => rw [hc] at he; cases he
      | some cs' =>
        rw [hc] at he
        obtain ⟨y, hy⟩ := open_hd he
        exact ⟨y, cs', rfl, hy⟩
    obtain ⟨y, hy⟩ := Go.Deep.choose_lt each
    have hm' : len ≤ 9223372036854775807 := by unfold maxLen at hm; omega
    refine ⟨some a, len, cap, (List.range len).map y, rfl, ⟨by simp, hm', fun k hk => ?_⟩⟩
    obtain ⟨cs', hcs, a2, n2, p2, rfl, hr, hq, hu⟩ := hy k hk
    obtain ⟨_, _, hcell⟩ := World.cells?_some hcs
    obtain ⟨b, off, spot⟩ := a
    have hs : spot = none := by
      obtain ⟨cs0, hcs0, _⟩ := hy 0 (by omega)
      obtain ⟨_, hl0, hcell0⟩ := World.cells?_some hcs0
      have h00 := hcell0 0 (by omega)
      rw [List.getElem?_eq_getElem (by omega)] at h00
      simpa [Addr.add] using World.cell?_spot h00
    subst hs
    have ey : ((List.range len).map y).getD k default = y k := by simp [hk]
    rw [ey]
    have cc : ∀ j, j < 5 → W.cell? ⟨b, off + k * 5 + j, none⟩ = [Value.int .i64 (y k).lg, .int .i64 (y k).sz, .int .u64 (y k).rt, .int .i64 (y k).at2, .slice a2 n2 p2][j]? := by
      intro j hj
      have := hcell j hj
      rw [Addr.add_lit, Addr.add_lit] at this
      exact this
    exact ⟨b, off, a2, n2, p2, rfl, World.block_lt_of_cell? W _ (cc 0 (by omega)), ⟨cc 0 (by omega), cc 1 (by omega), cc 2 (by omega), cc 3 (by omega), cc 4 (by omega)⟩, hr, hq, hu, trivial⟩

end Go.Proofs.Ytbjlihahinelpaa

