import Derived.Test.YtbfjkmlmnhphoaaDoorBase
import Derived.Test.YtbfjkmlmnhphoaaDoorNF
import Derived.Handy
import Derived.Deep.RegionWith
namespace Go.Proofs.YtbfjkmlmnhphoaaDoor
open Go.RowKit

/-- Of what was there in w only blocks from lo up to hi may have turned. -/
structure Touch (lo hi : Nat) (w w' : World) : Prop where
  os : w'.os = w.os
  tape : w'.tape = w.tape
  output : w'.output = w.output
  size : w.heap.size ≤ w'.heap.size
  block : ∀ k, k < w.heap.size → k < lo ∨ hi ≤ k → w'.heap[k]? = w.heap[k]?

theorem Touch.of_below {lo hi : Nat} {w w' : World} (h : Below w.heap.size w w') : Touch lo hi w w' := ⟨h.os, h.tape, h.output, h.size, fun k hk _ => h.block k hk⟩
theorem Touch.trans {lo hi : Nat} {a b c : World} (h : Touch lo hi a b) (k : Touch lo hi b c) : Touch lo hi a c :=
  ⟨k.os.trans h.os, k.tape.trans h.tape, k.output.trans h.output, Nat.le_trans h.size k.size, fun i hi' ho => (k.block i (Nat.lt_of_lt_of_le hi' h.size) ho).trans (h.block i hi' ho)⟩
theorem Touch.mono {lo hi lo' hi' : Nat} {w w' : World} (h : Touch lo hi w w') (h1 : lo' ≤ lo) (h2 : hi ≤ hi') : Touch lo' hi' w w' :=
  ⟨h.os, h.tape, h.output, h.size, fun k hk ho => h.block k hk (by omega)⟩
theorem Touch.below {lo hi B : Nat} {w w' : World} (h : Touch lo hi w w') (hB : B ≤ lo) (hw : B ≤ w.heap.size) : Below B w w' :=
  ⟨h.os, h.tape, h.output, h.size, fun k hk => h.block k (by omega) (by omega)⟩

/-- Where a slice's cells lie. -/
def In (a : Option Addr) (n lo hi : Nat) : Prop := ∀ b off, a = some ⟨b, off, none⟩ → 0 < n → lo ≤ b ∧ b < hi

theorem Own.in_ {B : Nat} {w : World} {a : Option Addr} {n cap : Nat} {bs : List Int} (h : Own B w a n cap bs) : In a n B w.heap.size := by
  intro b off ha hn
  obtain ⟨g, hg⟩ := h.shape hn
  rw [hg] at ha
  simp at ha
  obtain ⟨rfl, _⟩ := ha
  subst hg
  exact h.base
theorem Row.in_ {w : World} {a : Option Addr} {n : Nat} {bs : List Int} (h : Row w a n bs) : In a n 0 w.heap.size := by
  intro b off ha hn
  obtain ⟨b', off', ha', hb, _⟩ := h.get 0 hn
  rw [ha'] at ha
  simp at ha
  omega
theorem Row.touch {lo hi p q : Nat} {w w' : World} {a : Option Addr} {n : Nat} {bs : List Int} (h : Row w a n bs) (hi' : In a n p q) (hd : q ≤ lo ∨ hi ≤ p) (ht : Touch lo hi w w') : Row w' a n bs := by
  refine ⟨h.len, fun k hk => ?_, h.byte⟩
  obtain ⟨b, off, ha, hb, hc⟩ := h.get k hk
  have hp := hi' b off ha (by omega)
  exact ⟨b, off, ha, Nat.lt_of_lt_of_le hb ht.size, (World.cell?_of_block (a := ⟨b, off + k, none⟩) (ht.block b hb (by omega))).trans hc⟩
theorem Own.touch {lo hi p q B : Nat} {w w' : World} {a : Option Addr} {n cap : Nat} {bs : List Int} (h : Own B w a n cap bs) (hi' : In a n p q) (hd : q ≤ lo ∨ hi ≤ p) (ht : Touch lo hi w w') (hn : 0 < n) : Own B w' a n cap bs := by
  refine ⟨⟨h.row.1, ?_⟩, h.byte⟩
  rcases h.row.2 with hn' | ⟨g, cap', cur, hv, hbb, hgg, rest⟩
  · exact .inl hn'
  · simp only [Value.slice.injEq] at hv
    obtain ⟨rfl, _, rfl⟩ := hv
    have hp := hi' g 0 rfl hn
    exact .inr ⟨g, cap, cur, rfl, hbb, (ht.block g (Array.getElem?_eq_some_iff.1 hgg).1 (by omega)).trans hgg, rest⟩

/-- A write into a row of our own that lies in lo .. hi. -/
theorem Own.wrote {B lo hi : Nat} {w w' : World} {a : Option Addr} {n cap : Nat} {bs : List Int} (h : Own B w a n cap bs) (hp : In a n lo hi) (hn : 0 < n) (hg : w.grownBy w' (Value.slice a n cap).ownBlock) : Touch lo hi w w' := by
  obtain ⟨g, rfl⟩ := h.shape hn
  have := hp g 0 rfl hn
  exact ⟨hg.os, hg.tape, hg.output, hg.size, fun k hk ho => hg.block k hk (by simp [Value.ownBlock]; omega)⟩

end Go.Proofs.YtbfjkmlmnhphoaaDoor

namespace Go.Proofs.YtbfjkmlmnhphoaaDoor
open Go.RowKit

structure PT where
  attr : Int
  val : ByteArray
instance : Inhabited PT := ⟨⟨0, ByteArray.empty⟩⟩

def ptv (x : PT) : Value := .agg #[.int .i64 x.attr, .string x.val]
def nmv (a : Option Addr) (n c : Nat) : Value := .agg #[.slice a n c]

/-- The two cells of a part from o on. -/
structure Cells2 (w : World) (b o : Nat) (x : PT) : Prop where
  c0 : w.cell? ⟨b, o, none⟩ = some (.int .i64 x.attr)
  c1 : w.cell? ⟨b, o + 1, none⟩ = some (.string x.val)
theorem Cells2.of {w w' : World} {b o : Nat} {x : PT} (h : Cells2 w b o x) (hc : ∀ i, w'.cell? ⟨b, i, none⟩ = w.cell? ⟨b, i, none⟩) : Cells2 w' b o x :=
  ⟨(hc _).trans h.c0, (hc _).trans h.c1⟩

/-- The slice at a reads as these parts. -/
structure Pts (w : World) (a : Option Addr) (n : Nat) (xs : List PT) : Prop where
  len : xs.length = n
  max : n ≤ 9223372036854775807
  get : ∀ k, k < n → ∃ b off, a = some ⟨b, off, none⟩ ∧ b < w.heap.size ∧ Cells2 w b (off + k * 2) (xs.getD k default) ∧ (xs.getD k default).val.size ≤ 9223372036854775807
theorem Pts.kept {w w' : World} {a : Option Addr} {n : Nat} {xs : List PT} (h : Pts w a n xs) (hb : Below w.heap.size w w') : Pts w' a n xs := by
  refine ⟨h.len, h.max, fun k hk => ?_⟩
  obtain ⟨b, off, ha, hlt, hc, hn⟩ := h.get k hk
  exact ⟨b, off, ha, Nat.lt_of_lt_of_le hlt hb.size, hc.of (fun i => hb.cell (p := ⟨b, i, none⟩) hlt), hn⟩

set_option maxRecDepth 10000 in
set_option maxHeartbeats 400000 in
theorem szPart_any (x : PT) (left : Int) (w : World) (hn : x.val.size ≤ 9223372036854775807) (h0 : 0 ≤ left) (h1 : left ≤ 1048576) :
    Calls Tryd.prog 81 #[ptv x, .int .i64 left] w fun e w' => ∃ r, e = .returned (.int .i64 r) ∧ (r < 0 ∨ (0 ≤ r ∧ r ≤ 1048576 ∧ x.val.size ≤ 1048576)) ∧ Below w.heap.size w w' := by
  unfold ptv
  have hbl : Below w.heap.size w (w.alloc (.cells #[.int .i64 x.attr, .string x.val] 106)) := (Below.refl _ _).alloc (Nat.le_refl _) _
  by_cases hlt : (x.val.size : Int) ≤ left
  · go_enter Tryd.func81, Tryd.ntmps81
    go_wp2
    go_ret
    exact ⟨_, rfl, .inr (by omega), hbl⟩
  · go_enter Tryd.func81, Tryd.ntmps81
    go_wp2
    go_ret
    exact ⟨_, rfl, .inl (by decide), hbl⟩

set_option maxRecDepth 10000 in
set_option maxHeartbeats 1000000 in
theorem szPartS_any (a : Option Addr) (n cap : Nat) (xs : List PT) (lf : Int) (w : World) (h : Pts w a n xs) (hl0 : 0 ≤ lf) (hl1 : lf ≤ 1048576) :
    Calls Tryd.prog 57 #[.slice a n cap, .int .i64 lf] w fun e w' => ∃ r, e = .returned (.int .i64 r) ∧ (r < 0 ∨ (0 ≤ r ∧ r ≤ 1048576 ∧ n ≤ 1048576 ∧ ∀ k, k < n → (xs.getD k default).val.size ≤ 1048576)) ∧ Below w.heap.size w w' := by
  have H0 : Hid (Pts w a n xs) := h
  have hn := h.max
  clear h
  by_cases hlt : (n : Int) ≤ lf
  · go_enter Tryd.func57, Tryd.ntmps57
    go_wp2
    go_loopw [1, 5] (fun l i wr => ∃ (k : Nat) (left : Int), k ≤ n ∧ i = .int .i64 k ∧ l = .int .i64 left ∧ 0 ≤ left ∧ left ≤ 1048576 ∧ (∀ j, j < k → (xs.getD j default).val.size ≤ 1048576) ∧ Below w.heap.size w wr) (fun _ i _ => n - (intOf i).toNat)
    case atStart => exact ⟨0, lf - n, Nat.zero_le _, rfl, rfl, by omega, by omega, fun j hj => absurd hj (Nat.not_lt_zero _), Below.refl _ _⟩
    case round =>
      obtain ⟨k, left, hk, rfl, rfl, h0, h1, hall, hbr⟩ := hrel
      by_cases hkn : k < n
      · obtain ⟨b, off, rfl, hlb, hc, hnk⟩ := H0.out.get k hkn
        obtain ⟨y, hy⟩ : ∃ y, y = xs.getD k default := ⟨_, rfl⟩
        rw [← hy] at hc hnk
        have HY : Hid (y = xs.getD k default) := hy
        obtain ⟨c0, c1⟩ := hc.of (w' := wr) (fun i => hbr.cell (p := ⟨b, i, none⟩) hlb)
        have hkni : (k : Int) < (n : Int) := by omega
        have HA : Hid (_) := hall
        clear hc hy hall
        go_wp2_with fail
        refine (szPart_any y left _ hnk h0 h1).mono ?_
        rintro e w2 ⟨r, rfl, hr, hb2⟩
        have hb2' : Below w.heap.size w w2 := hbr.trans (hb2.mono hbr.size)
        by_cases hneg : r < 0
        · go_wp2
          go_ret
          exact ⟨_, rfl, .inl (by decide), hb2'⟩
        · have hr1 : 0 ≤ r := by omega
          have hr2 : r ≤ 1048576 := by omega
          have hr3 : y.val.size ≤ 1048576 := by omega
          clear hr
          go_wp2
          go_roundw
          case rel =>
            refine ⟨k + 1, r, by omega, by go_num, rfl, hr1, hr2, fun j hj => ?_, hb2'⟩
            by_cases hjk : j = k
            · subst hjk; rw [← HY.out]; exact hr3
            · exact HA.out j (by omega)
          case measure => simp [intOf]; omega
      · obtain rfl : n = k := by omega
        have HA : Hid (_) := hall
        clear hall
        go_wp2
        go_ret
        exact ⟨_, rfl, .inr ⟨h0, h1, by omega, HA.out⟩, hbr⟩
  · go_enter Tryd.func57, Tryd.ntmps57
    go_wp2
    go_ret
    exact ⟨_, rfl, .inl (by decide), Below.refl _ _⟩

set_option maxRecDepth 10000 in
set_option maxHeartbeats 1000000 in
theorem szName_any (a : Option Addr) (n c : Nat) (xs : List PT) (lf : Int) (w : World) (h : Pts w a n xs) (hl0 : 0 ≤ lf) (hl1 : lf ≤ 1048576) :
    Calls Tryd.prog 19 #[nmv a n c, .int .i64 lf] w fun e w' => ∃ r, e = .returned (.int .i64 r) ∧ (r < 0 ∨ (0 ≤ r ∧ r ≤ 1048576 ∧ n ≤ 1048576 ∧ ∀ k, k < n → (xs.getD k default).val.size ≤ 1048576)) ∧ Below w.heap.size w w' := by
  unfold nmv
  have H0 : Hid (Pts w a n xs) := h
  clear h
  have hbl : Below w.heap.size w (w.alloc (.cells #[.slice a n c] 24)) := (Below.refl _ _).alloc (Nat.le_refl _) _
  go_enter Tryd.func19, Tryd.ntmps19
  go_wp2_with fail
  refine (szPartS_any a n c xs lf _ (H0.out.kept hbl) hl0 hl1).mono ?_
  rintro e w1 ⟨r, rfl, hr, hb1⟩
  have hb1' : Below w.heap.size w w1 := hbl.trans (hb1.mono hbl.size)
  have HR : Hid (_) := hr
  by_cases hneg : r < 0
  · clear hr
    go_wp2
    go_ret
    exact ⟨_, rfl, .inl (by decide), hb1'⟩
  · have hr' : 0 ≤ r ∧ r ≤ 1048576 := by omega
    clear hr
    go_wp2
    go_ret
    exact ⟨_, rfl, HR.out, hb1'⟩

set_option maxRecDepth 10000 in
set_option maxHeartbeats 1000000 in
theorem eqPart_same (x : PT) (w : World) :
    Calls Tryd.prog 86 #[ptv x, ptv x] w fun e w' => e = .returned (.bool true) ∧ Below w.heap.size w w' := by
  have hB : Below w.heap.size w ((w.alloc (.cells #[.int .i64 x.attr, .string x.val] 107)).alloc (.cells #[.int .i64 x.attr, .string x.val] 107)) := ((Below.refl _ _).alloc (Nat.le_refl _) _).alloc (by simp) _
  have t1 : (x.attr != x.attr) = false := by simp
  unfold ptv
  go_enter Tryd.func86, Tryd.ntmps86
  go_wp2
  go_ret
  exact ⟨rfl, hB⟩

set_option maxRecDepth 10000 in
set_option maxHeartbeats 2000000 in
theorem eqPartS_same (a b : Option Addr) (n ca cb : Nat) (xs : List PT) (w : World) (h : Pts w a n xs) (h2 : Pts w b n xs) :
    Calls Tryd.prog 64 #[.slice a n ca, .slice b n cb] w fun e w' => e = .returned (.bool true) ∧ Below w.heap.size w w' := by
  have HK : Hid (Pts w a n xs) := h
  have HK2 : Hid (Pts w b n xs) := h2
  have hn := h.max
  clear h h2
  go_enter Tryd.func64, Tryd.ntmps64
  go_wp2
  go_loopw [5] (fun i wr => ∃ k : Nat, k ≤ n ∧ i = .int .i64 k ∧ Below w.heap.size w wr) (fun i _ => n - (intOf i).toNat)
  case atStart => exact ⟨0, Nat.zero_le _, rfl, Below.refl _ _⟩
  case round =>
    obtain ⟨k, hk, rfl, hbr⟩ := hrel
    by_cases hkn : k < n
    · obtain ⟨b1, off1, rfl, hl1, hc1, hm1⟩ := HK.out.get k hkn
      obtain ⟨b2, off2, rfl, hl2, hc2, hm2⟩ := HK2.out.get k hkn
      obtain ⟨y, hy⟩ : ∃ y, y = xs.getD k default := ⟨_, rfl⟩
      rw [← hy] at hc1 hc2
      clear hy
      obtain ⟨c0, c1⟩ := hc1.of (w' := wr) (fun i => hbr.cell (p := ⟨b1, i, none⟩) hl1)
      obtain ⟨d0, d1⟩ := hc2.of (w' := wr) (fun i => hbr.cell (p := ⟨b2, i, none⟩) hl2)
      have hkni : (k : Int) < (n : Int) := by omega
      have hs := hbr.size
      clear hc1 hc2
      go_wp2_with fail
      go_region_with (go_at_call 86; refine (eqPart_same y _).mono ?_; rintro e w2 ⟨rfl, hb2⟩)
      all_goals
        have b5 : Below w.heap.size w w2 := hbr.drew.trans (hb2.mono hs)
        go_wp2
        go_roundw
        case rel => exact ⟨k + 1, by omega, by go_num, b5⟩
        case measure => simp [intOf]; omega
    · go_wp2
      go_ret
      exact ⟨rfl, hbr⟩

set_option maxRecDepth 10000 in
set_option maxHeartbeats 1000000 in
theorem eqName_same (a b : Option Addr) (n ca cb : Nat) (xs : List PT) (w : World) (h : Pts w a n xs) (h2 : Pts w b n xs) :
    Calls Tryd.prog 26 #[nmv a n ca, nmv b n cb] w fun e w' => e = .returned (.bool true) ∧ Below w.heap.size w w' := by
  unfold nmv
  have H1 : Hid (Pts w a n xs) := h
  have H2 : Hid (Pts w b n xs) := h2
  clear h h2
  have hB : Below w.heap.size w ((w.alloc (.cells #[.slice a n ca] 33)).alloc (.cells #[.slice b n cb] 33)) := ((Below.refl _ _).alloc (Nat.le_refl _) _).alloc (by simp) _
  go_enter Tryd.func26, Tryd.ntmps26
  go_wp2_with fail
  refine (eqPartS_same a b n ca cb xs _ (H1.out.kept hB) (H2.out.kept hB)).mono ?_
  rintro e w1 ⟨rfl, hb1⟩
  go_wp2
  go_ret
  exact ⟨rfl, hB.trans (hb1.mono hB.size)⟩

end Go.Proofs.YtbfjkmlmnhphoaaDoor
