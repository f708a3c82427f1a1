import Derived.Test.YtaiflnccpgcklaaDoorWI64
import Derived.Handy
import Derived.Deep.RegionWith
namespace Go.Proofs.YtaiflnccpgcklaaDoor
open Go.RowKit

structure ST where
  kind : Int
  lo : Int
  hi : Int
  ext : Bool
  opt : Bool
  kids : List Int
instance : Inhabited ST := ⟨⟨0, 0, 0, false, false, []⟩⟩

def stv (x : ST) (a : Option Addr) (n c : Nat) : Value := .agg #[.int .i64 x.kind, .int .i64 x.lo, .int .i64 x.hi, .bool x.ext, .bool x.opt, .slice a n c]

/-- The six cells of a type from o on. -/
structure Cells6 (w : World) (b o : Nat) (x : ST) (a : Option Addr) (n c : Nat) : Prop where
  c0 : w.cell? ⟨b, o, none⟩ = some (.int .i64 x.kind)
  c1 : w.cell? ⟨b, o + 1, none⟩ = some (.int .i64 x.lo)
  c2 : w.cell? ⟨b, o + 2, none⟩ = some (.int .i64 x.hi)
  c3 : w.cell? ⟨b, o + 3, none⟩ = some (.bool x.ext)
  c4 : w.cell? ⟨b, o + 4, none⟩ = some (.bool x.opt)
  c5 : w.cell? ⟨b, o + 5, none⟩ = some (.slice a n c)
theorem Cells6.of {w w' : World} {b o : Nat} {x : ST} {a : Option Addr} {n c : Nat} (h : Cells6 w b o x a n c) (hc : ∀ i, w'.cell? ⟨b, i, none⟩ = w.cell? ⟨b, i, none⟩) : Cells6 w' b o x a n c :=
  ⟨(hc _).trans h.c0, (hc _).trans h.c1, (hc _).trans h.c2, (hc _).trans h.c3, (hc _).trans h.c4, (hc _).trans h.c5⟩

/-- The slice at a reads as these types. -/
structure Sts (w : World) (a : Option Addr) (n : Nat) (xs : List ST) : Prop where
  len : xs.length = n
  max : n ≤ 9223372036854775807
  get : ∀ k, k < n → ∃ b off, a = some ⟨b, off, none⟩ ∧ b < w.heap.size ∧ ∃ ak nk ck, Cells6 w b (off + k * 6) (xs.getD k default) ak nk ck ∧ Row64 w ak nk (xs.getD k default).kids ∧ nk ≤ 9223372036854775807
theorem Sts.kept {w w' : World} {a : Option Addr} {n : Nat} {xs : List ST} (h : Sts w a n xs) (hb : Below w.heap.size w w') : Sts w' a n xs := by
  refine ⟨h.len, h.max, fun k hk => ?_⟩
  obtain ⟨b, off, ha, hlt, ak, nk, ck, hc, hr, hn⟩ := h.get k hk
  exact ⟨b, off, ha, Nat.lt_of_lt_of_le hlt hb.size, ak, nk, ck, hc.of (fun i => hb.cell (p := ⟨b, i, none⟩) hlt), hr.kept hb, hn⟩

set_option maxHeartbeats 400000 in
theorem szInt64S_any (a : Option Addr) (n cap : Nat) (left : Int) (w : World) (hn : n ≤ 9223372036854775807) (h0 : 0 ≤ left) (h1 : left ≤ 1048576) :
    Calls Tryd.prog 18 #[.slice a n cap, .int .i64 left] w fun e w' => ∃ r, e = .returned (.int .i64 r) ∧ (r < 0 ∨ (0 ≤ r ∧ r ≤ 1048576 ∧ n ≤ 1048576)) ∧ w = w' := by
  by_cases hlt : (n : Int) ≤ left
  · go_enter Tryd.func18, Tryd.ntmps18
    go_wp2
    go_ret
    exact ⟨_, rfl, .inr (by omega), rfl⟩
  · go_enter Tryd.func18, Tryd.ntmps18
    go_wp2
    go_ret
    exact ⟨_, rfl, .inl (by decide), rfl⟩

set_option maxHeartbeats 1000000 in
theorem szSType_any (x : ST) (a : Option Addr) (n c : Nat) (left : Int) (w : World) (hn : n ≤ 9223372036854775807) (h0 : 0 ≤ left) (h1 : left ≤ 1048576) :
    Calls Tryd.prog 9 #[stv x a n c, .int .i64 left] w fun e w' => ∃ r, e = .returned (.int .i64 r) ∧ (r < 0 ∨ (0 ≤ r ∧ r ≤ 1048576 ∧ n ≤ 1048576)) ∧ Below w.heap.size w w' := by
  unfold stv
  have hbl : Below w.heap.size w (w.alloc (.cells #[.int .i64 x.kind, .int .i64 x.lo, .int .i64 x.hi, .bool x.ext, .bool x.opt, .slice a n c] 33)) := (Below.refl _ _).alloc (Nat.le_refl _) _
  go_enter Tryd.func9, Tryd.ntmps9
  go_wp2_with fail
  refine (szInt64S_any a n c left _ hn h0 h1).mono ?_
  rintro e w1 ⟨r, rfl, hr, rfl⟩
  by_cases hneg : r < 0
  · go_wp2
    go_ret
    exact ⟨_, rfl, .inl (by decide), hbl⟩
  · have hr' : 0 ≤ r ∧ r ≤ 1048576 ∧ n ≤ 1048576 := by omega
    clear hr
    go_wp2
    go_ret
    exact ⟨_, rfl, .inr hr', hbl⟩

set_option maxHeartbeats 1000000 in
theorem szSTypeS_any (a : Option Addr) (n cap : Nat) (xs : List ST) (w : World) (h : Sts w a n xs) :
    Calls Tryd.prog 4 #[.slice a n cap, .int .i64 1048576] w fun e w' => ∃ r, e = .returned (.int .i64 r) ∧ (r < 0 ∨ (n ≤ 1048576 ∧ ∀ k, k < n → (xs.getD k default).kids.length ≤ 1048576)) ∧ Below w.heap.size w w' := by
  have H0 : Hid (Sts w a n xs) := h
  have hn := h.max
  clear h
  by_cases hlt : (n : Int) ≤ 1048576
  · go_enter Tryd.func4, Tryd.ntmps4
    go_wp2
    go_loopw [1, 5] (fun l i wr => ∃ (k : Nat) (left : Int), k ≤ n ∧ i = .int .i64 k ∧ l = .int .i64 left ∧ 0 ≤ left ∧ left ≤ 1048576 ∧ (∀ j, j < k → (xs.getD j default).kids.length ≤ 1048576) ∧ Below w.heap.size w wr) (fun _ i _ => n - (intOf i).toNat)
    case atStart => exact ⟨0, 1048576 - n, Nat.zero_le _, rfl, rfl, by omega, by omega, fun j hj => absurd hj (Nat.not_lt_zero _), Below.refl _ _⟩
    case round =>
      obtain ⟨k, left, hk, rfl, rfl, h0, h1, hall, hbr⟩ := hrel
      by_cases hkn : k < n
      · obtain ⟨b, off, rfl, hlb, ak, nk, ck, hc, hr, hnk⟩ := H0.out.get k hkn
        have hlen := hr.len
        obtain ⟨y, hy⟩ : ∃ y, y = xs.getD k default := ⟨_, rfl⟩
        rw [← hy] at hc hr hlen
        have HY : Hid (y = xs.getD k default) := hy
        obtain ⟨c0, c1, c2, c3, c4, c5⟩ := hc.of (w' := wr) (fun i => hbr.cell (p := ⟨b, i, none⟩) hlb)
        have hkni : (k : Int) < (n : Int) := by omega
        have HA : Hid (_) := hall
        clear hc hr hy hall
        go_wp2_with fail
        refine (szSType_any y ak nk ck left _ hnk h0 h1).mono ?_
        rintro e w2 ⟨r, rfl, hr, hb2⟩
        have hb2' : Below w.heap.size w w2 := hbr.trans (hb2.mono hbr.size)
        by_cases hneg : r < 0
        · go_wp2
          go_ret
          exact ⟨_, rfl, .inl (by decide), hb2'⟩
        · have hr1 : 0 ≤ r := by omega
          have hr2 : r ≤ 1048576 := by omega
          have hr3 : nk ≤ 1048576 := by omega
          clear hr
          go_wp2
          go_roundw
          case rel =>
            refine ⟨k + 1, r, by omega, by go_num, rfl, hr1, hr2, fun j hj => ?_, hb2'⟩
            by_cases hjk : j = k
            · subst hjk; rw [← HY.out, hlen]; exact hr3
            · exact HA.out j (by omega)
          case measure => simp [intOf]; omega
      · obtain rfl : n = k := by omega
        have HA : Hid (_) := hall
        clear hall
        go_wp2
        go_ret
        exact ⟨_, rfl, .inr ⟨by omega, HA.out⟩, hbr⟩
  · go_enter Tryd.func4, Tryd.ntmps4
    go_wp2
    go_ret
    exact ⟨_, rfl, .inl (by decide), Below.refl _ _⟩

set_option maxHeartbeats 1000000 in
theorem eqSType_same (x : ST) (a : Option Addr) (n c : Nat) (a2 : Option Addr) (c2 : Nat) (w : World) (hr : Row64 w a n x.kids) (hr2 : Row64 w a2 n x.kids) (hn : n ≤ 9223372036854775807) :
    Calls Tryd.prog 17 #[stv x a n c, stv x a2 n c2] w fun e w' => e = .returned (.bool true) ∧ Below w.heap.size w w' := by
  have hB : Below w.heap.size w ((w.alloc (.cells #[.int .i64 x.kind, .int .i64 x.lo, .int .i64 x.hi, .bool x.ext, .bool x.opt, .slice a n c] 35)).alloc (.cells #[.int .i64 x.kind, .int .i64 x.lo, .int .i64 x.hi, .bool x.ext, .bool x.opt, .slice a2 n c2] 35)) := ((Below.refl _ _).alloc (Nat.le_refl _) _).alloc (by simp) _
  have HR : Hid (_) := hr.kept hB
  have HR2 : Hid (_) := hr2.kept hB
  clear hr hr2
  unfold stv
  go_enter Tryd.func17, Tryd.ntmps17
  go_wp2_with fail
  refine (eqInt64S_same a a2 n c c2 x.kids _ HR.out HR2.out hn).mono ?_
  rintro e w1 ⟨rfl, hb1⟩
  go_wp2
  go_ret
  exact ⟨rfl, hB.trans (hb1.mono hB.size)⟩

set_option maxHeartbeats 2000000 in
theorem eqSTypeS_same (a b : Option Addr) (n ca cb : Nat) (xs : List ST) (w : World) (h : Sts w a n xs) (h2 : Sts w b n xs) :
    Calls Tryd.prog 8 #[.slice a n ca, .slice b n cb] w fun e w' => e = .returned (.bool true) ∧ Below w.heap.size w w' := by
  have HK : Hid (Sts w a n xs) := h
  have HK2 : Hid (Sts w b n xs) := h2
  have hn := h.max
  clear h h2
  go_enter Tryd.func8, Tryd.ntmps8
  go_wp2
  go_loopw [5] (fun i wr => ∃ k : Nat, k ≤ n ∧ i = .int .i64 k ∧ Below w.heap.size w wr) (fun i _ => n - (intOf i).toNat)
  case atStart => exact ⟨0, Nat.zero_le _, rfl, Below.refl _ _⟩
  case round =>
    obtain ⟨k, hk, rfl, hbr⟩ := hrel
    by_cases hkn : k < n
    · obtain ⟨b1, off1, rfl, hl1, ak1, nk1, ck1, hc1, hr1, hm1⟩ := HK.out.get k hkn
      obtain ⟨b2, off2, rfl, hl2, ak2, nk2, ck2, hc2, hr2, hm2⟩ := HK2.out.get k hkn
      obtain ⟨y, hy⟩ : ∃ y, y = xs.getD k default := ⟨_, rfl⟩
      rw [← hy] at hc1 hr1 hc2 hr2
      clear hy
      obtain rfl : nk1 = nk2 := hr1.len.symm.trans hr2.len
      obtain ⟨c0, c1, c2, c3, c4, c5⟩ := hc1.of (w' := wr) (fun i => hbr.cell (p := ⟨b1, i, none⟩) hl1)
      obtain ⟨d0, d1, d2, d3, d4, d5⟩ := hc2.of (w' := wr) (fun i => hbr.cell (p := ⟨b2, i, none⟩) hl2)
      have hkni : (k : Int) < (n : Int) := by omega
      have hs := hbr.size
      have R1 : Hid (_) := hr1.kept hbr.drew
      have R2 : Hid (_) := hr2.kept hbr.drew
      clear hr1 hr2 hc1 hc2
      go_wp2_with fail
      go_region_with (go_at_call 17; refine (eqSType_same y ak1 nk1 ck1 ak2 ck2 _ R1.out R2.out hm1).mono ?_; rintro e w2 ⟨rfl, hb2⟩)
      all_goals
        have b5 : Below w.heap.size w w2 := hbr.drew.trans (hb2.mono hs)
        go_wp2
        go_roundw
        case rel => exact ⟨k + 1, by omega, by go_num, b5⟩
        case measure => simp [intOf]; omega
    · go_wp2
      go_ret
      exact ⟨rfl, hbr⟩

end Go.Proofs.YtaiflnccpgcklaaDoor
