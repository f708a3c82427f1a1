import Derived.Test.YtgaheamgkaipnaaW1
import Derived.Test.YtgaheamgkaipnaaTouch
import Derived.Test.YtgaheamgkaipnaaWApp
import Derived.Test.YtgaheamgkaipnaaTTD
import Derived.Test.YtgaheamgkaipnaaSA2
import Derived.Test.YtgaheamgkaipnaaW2
import Derived.Test.YtgaheamgkaipnaaW4
import Derived.Laws.BytesArg
import Derived.Lib.SlBytesConst
namespace Go.Proofs.Ytgaheamgkaipnaa
open Go.RowKit

/-- A reader of a code, in the block g. -/
structure Rd (w : World) (g : Nat) (a : Option Addr) (n cap : Nat) (bs : List Int) : Prop where
  blk : ∃ p : Nat, p ≤ n ∧ w.heap[g]? = some (.cells #[.slice a n cap, .int .i64 p] 120 (0, 0))
  row : Row w a n bs
  sep : In a n 0 g
  len : n ≤ 1000000000

theorem Touch.drewN {lo hi : Nat} {w w' : World} (h : Touch lo hi w w') (k : Nat) : Touch lo hi w (w'.drewN k) := ⟨h.os, h.tape, h.output, h.size, h.block⟩
theorem Touch.same (lo hi : Nat) (w : World) : Touch lo hi w w := ⟨rfl, rfl, rfl, Nat.le_refl _, fun _ _ _ => rfl⟩
theorem Touch.setCell {lo hi : Nat} {w w' : World} (h : Touch lo hi w w') {p : Addr} (h1 : lo ≤ p.block) (h2 : p.block < hi) (u : Value) : Touch lo hi w (w'.setCell p u) :=
  ⟨h.os, h.tape, h.output, by simpa [World.setCell] using h.size, fun k hk ho => (Below.heap_setCell _ _ _ _ (by omega)).trans (h.block k hk ho)⟩

theorem Rd.touch {w w' : World} {g : Nat} {a : Option Addr} {n cap : Nat} {bs : List Int} (h : Rd w g a n cap bs) {lo hi : Nat} (ht : Touch lo hi w w') (hg : g < lo) : Rd w' g a n cap bs := by
  obtain ⟨p, hp, hb⟩ := h.blk
  exact ⟨⟨p, hp, (ht.block g (Array.getElem?_eq_some_iff.1 hb).1 (.inl hg)).trans hb⟩, h.row.touch h.sep (.inl (by omega)) ht, h.sep, h.len⟩
theorem Rd.kept {w w' : World} {g : Nat} {a : Option Addr} {n cap : Nat} {bs : List Int} (h : Rd w g a n cap bs) (hb : Below w.heap.size w w') : Rd w' g a n cap bs := by
  obtain ⟨p, hp, hbl⟩ := h.blk
  exact ⟨⟨p, hp, (hb.block g (Array.getElem?_eq_some_iff.1 hbl).1).trans hbl⟩, h.row.kept hb, h.sep, h.len⟩
theorem Rd.lt {w : World} {g : Nat} {a : Option Addr} {n cap : Nat} {bs : List Int} (h : Rd w g a n cap bs) : g < w.heap.size := by
  obtain ⟨p, _, hb⟩ := h.blk
  exact (Array.getElem?_eq_some_iff.1 hb).1

theorem rd_cell0 {w : World} {g : Nat} {x y : Value} {t : TypeId} (h : w.heap[g]? = some (.cells #[x, y] t (0, 0))) : w.cell? ⟨g, 0, none⟩ = some x := by rw [cell_of_row w g 0 _ t (0, 0) h]; rfl
theorem rd_cell1 {w : World} {g : Nat} {x y : Value} {t : TypeId} (h : w.heap[g]? = some (.cells #[x, y] t (0, 0))) : w.cell? ⟨g, 1, none⟩ = some y := by rw [cell_of_row w g 1 _ t (0, 0) h]; rfl
theorem rd_frozen {w : World} {g : Nat} {x y : Value} {t : TypeId} (h : w.heap[g]? = some (.cells #[x, y] t (0, 0))) (j : Nat) : w.frozen? ⟨g, j, none⟩ = false := frozen_of_row w g j _ t h

theorem rd_step_touch (w : World) (g k k' : Nat) (u : Value) : Touch g (g + 1) w (((w.drewN k).setCell ⟨g, 1, none⟩ u).drewN k') :=
  (Touch.setCell (p := ⟨g, 1, none⟩) ((Touch.same g (g + 1) w).drewN k) (Nat.le_refl g) (Nat.lt_succ_self g) u).drewN k'
theorem rd_step {w : World} {g : Nat} {a : Option Addr} {n cap : Nat} {bs : List Int} (h : Rd w g a n cap bs) {p : Nat} (hb : w.heap[g]? = some (.cells #[.slice a n cap, .int .i64 p] 120 (0, 0))) (hp : p < n) (k k' : Nat) :
    Rd (((w.drewN k).setCell ⟨g, 1, none⟩ (.int .i64 ((p : Int) + 1))).drewN k') g a n cap bs := by
  refine ⟨⟨p + 1, hp, ?_⟩, h.row.touch h.sep (.inl (Nat.le_refl _)) (rd_step_touch w g k k' _), h.sep, h.len⟩
  have := heap_setCell_same (w.drewN k) g 1 #[.slice a n cap, .int .i64 p] 120 (.int .i64 ((p : Int) + 1)) hb
  exact this

set_option maxRecDepth 10000 in
set_option maxHeartbeats 1000000 in
theorem next_any (g : Nat) (a : Option Addr) (n cap : Nat) (bs : List Int) (w : World) (h : Rd w g a n cap bs) :
    Calls Try.prog 88 #[.pointer (some ⟨g, 0, none⟩)] w fun e w' => ∃ v : Int, e = .returned (.int .i64 v) ∧ 0 ≤ v ∧ v ≤ 255 ∧ Rd w' g a n cap bs ∧ Touch g (g + 1) w w' := by
  obtain ⟨p, hp, hb⟩ := h.blk
  have hn := h.len
  have c0 := rd_cell0 hb
  have c1 := rd_cell1 hb
  have f1 := rd_frozen hb 1
  have H : Hid (Rd w g a n cap bs) := h
  have HBk : Hid (w.heap[g]? = some (.cells #[.slice a n cap, .int .i64 p] 120 (0, 0))) := hb
  clear h hb
  by_cases hlt : p < n
  · obtain ⟨b, off, rfl, hbb, hc⟩ := H.out.row.get p hlt
    have hbg : b < g := (H.out.sep b off rfl (by omega)).2
    have hbne : b ≠ g := by omega
    obtain ⟨x, hx⟩ : ∃ x, x = bs.getD p 0 := ⟨_, rfl⟩
    have hxb := H.out.row.byte p
    rw [← hx] at hc hxb
    obtain ⟨hx0, hx1⟩ := hxb
    clear hx
    have hlti : (p : Int) < (n : Int) := by omega
    go_enter Try.func88, Try.ntmps88
    go_wp2
    go_quiet (fail)
    go_wp2
    go_quiet (fail)
    go_wp2
    go_ret
    exact ⟨x, rfl, hx0, hx1, rd_step H.out HBk.out hlt _ _, rd_step_touch _ _ _ _ _⟩
  · have hge : (n : Int) ≤ (p : Int) := by omega
    go_enter Try.func88, Try.ntmps88
    go_wp2
    go_quiet (fail)
    go_wp2
    go_ret
    exact ⟨0, rfl, by decide, by decide, H.out.kept (below_drewN (Below.refl _ _) nq), (Touch.same _ _ _).drewN nq⟩

/-- What a reader's methods leave. -/
def RdPost (w : World) (g : Nat) (a : Option Addr) (n cap : Nat) (bs : List Int) (w' : World) : Prop := Rd w' g a n cap bs ∧ Touch g (g + 1) w w'

set_option maxRecDepth 10000 in
set_option maxHeartbeats 1000000 in
theorem below_any (g : Nat) (a : Option Addr) (n cap : Nat) (bs : List Int) (m : Int) (w : World) (h : Rd w g a n cap bs) (hm : m ≤ 100000) :
    Calls Try.prog 36 #[.pointer (some ⟨g, 0, none⟩), .int .i64 m] w fun e w' => ∃ v : Int, e = .returned (.int .i64 v) ∧ 0 ≤ v ∧ (v < m ∨ v = 0) ∧ RdPost w g a n cap bs w' := by
  have H : Hid (Rd w g a n cap bs) := h
  clear h
  by_cases h1 : m ≤ 1
  · go_enter Try.func36, Try.ntmps36
    go_wp2
    go_ret
    exact ⟨0, rfl, by decide, .inr rfl, H.out, Touch.same _ _ _⟩
  · by_cases h2 : m ≤ 256
    · go_enter Try.func36, Try.ntmps36
      go_wp2_with fail
      refine (next_any g a n cap bs _ H.out).mono ?_
      rintro e w1 ⟨v, rfl, hv0, hv1, hr1, ht1⟩
      go_wp2
      go_ret
      exact ⟨v % m, rfl, Int.emod_nonneg _ (by omega), .inl (Int.emod_lt_of_pos _ (by omega)), hr1, ht1⟩
    · go_enter Try.func36, Try.ntmps36
      go_wp2_with fail
      refine (next_any g a n cap bs _ H.out).mono ?_
      rintro e w1 ⟨v, rfl, hv0, hv1, hr1, ht1⟩
      go_wp2_with fail
      refine (next_any g a n cap bs _ hr1).mono ?_
      rintro e w2 ⟨v2, rfl, hv20, hv21, hr2, ht2⟩
      go_wp2
      go_ret
      exact ⟨(v * 256 + v2) % m, rfl, Int.emod_nonneg _ (by omega), .inl (Int.emod_lt_of_pos _ (by omega)), hr2, ht1.trans ht2⟩

theorem bits_u64_range (op : BinOp) (x y : Int) : 0 ≤ bits op .u64 x y ∧ bits op .u64 x y ≤ 18446744073709551615 := by
  unfold bits
  simp only [IntKind.wrap_u64]
  omega

set_option maxRecDepth 10000 in
set_option maxHeartbeats 1000000 in
theorem word_any (g : Nat) (a : Option Addr) (n cap : Nat) (bs : List Int) (w : World) (h : Rd w g a n cap bs) :
    Calls Try.prog 87 #[.pointer (some ⟨g, 0, none⟩)] w fun e w' => ∃ v : Int, e = .returned (.int .u64 v) ∧ 0 ≤ v ∧ v ≤ 18446744073709551615 ∧ RdPost w g a n cap bs w' := by
  have H : Hid (Rd w g a n cap bs) := h
  clear h
  go_enter Try.func87, Try.ntmps87
  go_wp2
  go_loopw [3, 4] (fun x i wr => ∃ (k : Nat) (v : Int), k ≤ 8 ∧ i = .int .i64 k ∧ x = .int .u64 v ∧ 0 ≤ v ∧ v ≤ 18446744073709551615 ∧ RdPost w g a n cap bs wr) (fun _ i _ => 8 - (intOf i).toNat)
  case atStart => exact ⟨0, 0, by omega, rfl, rfl, by decide, by decide, H.out, Touch.same _ _ _⟩
  case round =>
    obtain ⟨k, v, hk, rfl, rfl, hv0, hv1, hr, ht⟩ := hrel
    by_cases hlt : k < 8
    · go_wp2_with fail
      refine (next_any g a n cap bs _ hr).mono ?_
      rintro e w1 ⟨v1, rfl, hv10, hv11, hr1, ht1⟩
      have hT := ht.trans ht1
      go_wp2
      go_roundw
      case rel => exact ⟨k + 1, _, by omega, by go_num, rfl, (bits_u64_range _ _ _).1, (bits_u64_range _ _ _).2, hr1, hT⟩
      case measure => simp [intOf]; omega
    · go_wp2
      go_ret
      exact ⟨v, rfl, hv0, hv1, hr, ht⟩

theorem RdPost.step {w w1 w2 : World} {g : Nat} {a : Option Addr} {n cap : Nat} {bs : List Int} (h : RdPost w g a n cap bs w1) (k : RdPost w1 g a n cap bs w2) : RdPost w g a n cap bs w2 := ⟨k.1, h.2.trans k.2⟩
theorem RdPost.alloc {w w1 : World} {g : Nat} {a : Option Addr} {n cap : Nat} {bs : List Int} (h : RdPost w g a n cap bs w1) (o : Obj) : RdPost w g a n cap bs (w1.alloc o) :=
  have hb : Below w1.heap.size w1 (w1.alloc o) := (Below.refl _ _).alloc (Nat.le_refl _) o
  ⟨h.1.kept hb, h.2.trans (Touch.of_below hb)⟩

def edges : List Int := [0, 1, -1, 127, 128, 16383, 16384, 4611686018427387903, 4611686018427387904, 9223372036854775807, -9223372036854775808, 2147483648]
theorem edges_range (k : Nat) : -9223372036854775808 ≤ edges.getD k 0 ∧ edges.getD k 0 ≤ 9223372036854775807 := by
  match k with
  | 0 | 1 | 2 | 3 | 4 | 5 | 6 | 7 | 8 | 9 | 10 | 11 => decide
  | k + 12 => simp [edges]
theorem wrap64_range (n : Int) : -9223372036854775808 ≤ wrap64 n ∧ wrap64 n ≤ 9223372036854775807 := by unfold wrap64; omega
theorem edge_cell (w : World) (k : Nat) (h : k < 12) : (w.alloc (.cells #[.int .i64 0, .int .i64 1, .int .i64 (-1), .int .i64 127, .int .i64 128, .int .i64 16383, .int .i64 16384, .int .i64 4611686018427387903, .int .i64 4611686018427387904, .int .i64 9223372036854775807, .int .i64 (-9223372036854775808), .int .i64 2147483648] 2)).cell? ⟨w.heap.size, k, none⟩ = some (.int .i64 (edges.getD k 0)) := by
  rw [cell_of_row _ w.heap.size k _ 2 (0, 0) (heap_alloc_new w _)]
  have hc : k = 0 ∨ k = 1 ∨ k = 2 ∨ k = 3 ∨ k = 4 ∨ k = 5 ∨ k = 6 ∨ k = 7 ∨ k = 8 ∨ k = 9 ∨ k = 10 ∨ k = 11 := by omega
  rcases hc with rfl | rfl | rfl | rfl | rfl | rfl | rfl | rfl | rfl | rfl | rfl | rfl <;> rfl

set_option maxRecDepth 10000 in
set_option maxHeartbeats 400000 in
theorem open_any (a : Option Addr) (n cap : Nat) (bs : List Int) (w : World) (h : Row w a n bs) (hn : n ≤ 1000000000) :
    Calls Try.prog 34 #[.slice a n cap] w fun e w' => e = .returned (.pointer (some ⟨w.heap.size, 0, none⟩)) ∧ Rd w' w.heap.size a n cap bs ∧ Below w.heap.size w w' := by
  have H : Hid (Row w a n bs) := h
  clear h
  go_enter Try.func34, Try.ntmps34
  go_wp2
  go_ret
  have hb : Below w.heap.size w (w.alloc (.cells #[.slice a n cap, .int .i64 0] 120)) := (Below.refl _ _).alloc (Nat.le_refl _) _
  exact ⟨rfl, ⟨⟨0, Nat.zero_le _, heap_alloc_new w _⟩, H.out.kept hb, H.out.in_, hn⟩, hb⟩

/-- A reader opened behind w: what it has touched is new. -/
theorem RdPost.below {w w1 w2 : World} {a : Option Addr} {n cap : Nat} {bs : List Int} (hb : Below w.heap.size w w1) (h : RdPost w1 w.heap.size a n cap bs w2) : Below w.heap.size w w2 :=
  hb.trans (h.2.below (Nat.le_refl _) hb.size)

end Go.Proofs.Ytgaheamgkaipnaa

namespace Go.Proofs.Ytgaheamgkaipnaa
open Go.RowKit

set_option maxRecDepth 10000 in
set_option maxHeartbeats 400000 in
theorem once_any (g : Nat) (a : Option Addr) (n cap : Nat) (bs : List Int) (m : Int) (w : World) (h : Rd w g a n cap bs) (hm0 : 0 ≤ m) (hm : m ≤ 100000) :
    Calls Try.prog 37 #[.pointer (some ⟨g, 0, none⟩), .int .i64 m] w fun e w' => ∃ v : Bool, e = .returned (.bool v) ∧ RdPost w g a n cap bs w' := by
  have H : Hid (Rd w g a n cap bs) := h
  clear h
  go_enter Try.func37, Try.ntmps37
  go_wp2_with fail
  refine (below_any g a n cap bs m _ H.out hm).mono ?_
  rintro e w1 ⟨v, rfl, hv0, hv1, hp⟩
  go_wp2
  go_ret
  exact ⟨_, rfl, hp⟩

theorem RdPost.grown {w w1 w2 : World} {g : Nat} {a : Option Addr} {n cap : Nat} {bs : List Int} {lo hi : Nat} (h : RdPost w g a n cap bs w1) (ht : Touch lo hi w1 w2) (hg : g < lo) (hlo : w.heap.size ≤ lo) : RdPost w g a n cap bs w2 :=
  ⟨h.1.touch ht hg, ⟨ht.os.trans h.2.os, ht.tape.trans h.2.tape, ht.output.trans h.2.output, Nat.le_trans h.2.size ht.size, fun k hk ho => (ht.block k (Nat.lt_of_lt_of_le hk h.2.size) (.inl (by omega))).trans (h.2.block k hk ho)⟩⟩

theorem owns_touch {w w' : World} {B e s n lo hi : Nat} {v : Value} {xs : List Value} (h : w.ownsRow B e s v n xs) (ht : Touch lo hi w w') (hd : hi ≤ B) : w'.ownsRow B e s v n xs := by
  refine ⟨h.1, ?_⟩
  rcases h.2 with hn | ⟨g, cap, cur, rfl, hb, hg, rest⟩
  · exact .inl hn
  · exact .inr ⟨g, cap, cur, rfl, hb, (ht.block g (Array.getElem?_eq_some_iff.1 hg).1 (.inr (by omega))).trans hg, rest⟩
theorem Own.touched {w w' : World} {B lo hi : Nat} {a : Option Addr} {n cap : Nat} {bs : List Int} (h : Own B w a n cap bs) (ht : Touch lo hi w w') (hd : hi ≤ B) : Own B w' a n cap bs := ⟨owns_touch h.row ht hd, h.byte⟩
theorem touch_grown {w w' : World} {r : Option Nat} {lo hi : Nat} (hg : w.grownBy w' r) (hr : ∀ k, r = some k → lo ≤ k ∧ k < hi) : Touch lo hi w w' :=
  ⟨hg.os, hg.tape, hg.output, hg.size, fun k hk ho => hg.block k hk (fun e => by have := hr k e.symm; omega)⟩

set_option maxRecDepth 10000 in
set_option maxHeartbeats 1000000 in
theorem bytes_any (g : Nat) (a : Option Addr) (n cap : Nat) (bs : List Int) (m : Int) (w : World) (h : Rd w g a n cap bs) (hm0 : 0 ≤ m) (hm : m ≤ 1000) :
    Calls Try.prog 77 #[.pointer (some ⟨g, 0, none⟩), .int .i64 m] w fun e w' => ∃ (a' : Option Addr) (k c' : Nat) (xs : List Int), e = .returned (.slice a' k c') ∧ (k : Int) ≤ m ∧ Own w.heap.size w' a' k c' xs ∧ RdPost w g a n cap bs w' := by
  obtain ⟨i0, hi, hz0, hz1, hz2⟩ := info_parts Try.info5
  have H : Hid (Rd w g a n cap bs) := h
  have hgw := h.lt
  clear h
  go_enter Try.func77, Try.ntmps77
  go_wp2_with fail
  refine (below_any g a n cap bs (m + 1) _ H.out (by omega)).mono ?_
  rintro e w1 ⟨v, rfl, hv0, hv1, hp1⟩
  obtain ⟨u, rfl⟩ := Int.eq_ofNat_of_zero_le hv0
  have hum : (u : Int) ≤ m := by omega
  have hs1 := hp1.2.size
  have hoe : Own w.heap.size (w1.alloc (.cells #[] 5)) (some ⟨w1.heap.size, 0, none⟩) 0 0 [] := ⟨World.ownsRow_lit w1 #[] 0 hs1 (Nat.zero_le _) rfl, by simp⟩
  have hpe := hp1.alloc (.cells #[] 5)
  clear hp1
  go_wp2
  go_loopw [6, 7] (fun o i wr => ∃ (k c' : Nat) (a' : Option Addr) (xs : List Int), k ≤ u ∧ i = .int .i64 k ∧ o = .slice a' k c' ∧ Own w.heap.size wr a' k c' xs ∧ RdPost w g a n cap bs wr) (fun _ i _ => u - (intOf i).toNat)
  case atStart => exact ⟨0, 0, _, [], Nat.zero_le _, rfl, rfl, hoe, hpe⟩
  case round =>
    obtain ⟨k, c', a', xs, hk, rfl, rfl, hor, hpr⟩ := hrel
    have hsr := hpr.2.size
    by_cases hlt : k < u
    · go_wp2_with fail
      refine (next_any g a n cap bs _ hpr.1).mono ?_
      rintro e w2 ⟨x, rfl, hx0, hx1, hr2, ht2⟩
      have hor2 := hor.touched ht2 (by omega)
      have hp2 : RdPost w g a n cap bs w2 := ⟨hr2, hpr.2.trans ht2⟩
      have hs2 := ht2.size
      clear hor hpr hr2 ht2
      go_wp2_with (at_builtin; refine wpList_append_own _ rfl _ _ 22 rfl w.heap.size 5 i0 (.int .u8 0) 1 1 Try.underlying22 hi hz0 hz1 hz2 rfl (by decide) _ _ _ rfl (hor2.row.alloc _) ⟨w2.heap.size, 0, none⟩ 1 1 [_] rfl rfl (cell_one_new _ _ _) (by intro u hu; simp at hu; subst hu; rfl) (by unfold maxLen; omega) (by omega) (by simp; omega) ?_; intro v' w3 hown' hgrow' _)
      obtain ⟨a3, c3, rfl, ho3⟩ := own_appended (ys := [x]) hown' hor2.byte (by simpa using snoc_byte (xs := []) (by simp) x ⟨hx0, hx1⟩)
      have hT : Touch w.heap.size (w2.heap.size + 1) (w2.alloc (.cells #[.int .u8 x] 5)) w3 := touch_grown hgrow' (fun k hk => by have := (hor2.row.lt k hk); omega)
      have hp3 := (hp2.alloc (.cells #[.int .u8 x] 5)).grown hT hgw (Nat.le_refl _)
      go_roundw
      case rel => exact ⟨k + 1, c3, a3, xs ++ [x], by omega, by go_num, rfl, ho3, hp3⟩
      case measure => simp [intOf]; omega
    · have hku : k = u := by omega
      subst hku
      go_wp2
      go_ret
      exact ⟨a', k, c', xs, rfl, hum, hor, hpr⟩

end Go.Proofs.Ytgaheamgkaipnaa

namespace Go.Proofs.Ytgaheamgkaipnaa
open Go.RowKit

def KeyAt (w : World) (g : Nat) (seed h n : Int) : Prop := w.heap[g]? = some (.cells #[.int .u64 seed, .int .i64 h, .int .i64 n] 49 (0, 0))
theorem KeyAt.c0 {w : World} {g : Nat} {seed h n : Int} (k : KeyAt w g seed h n) : w.cell? ⟨g, 0, none⟩ = some (.int .u64 seed) := (cell_of_row _ _ 0 _ 49 (0, 0) k).trans rfl
theorem KeyAt.c1 {w : World} {g : Nat} {seed h n : Int} (k : KeyAt w g seed h n) : w.cell? ⟨g, 1, none⟩ = some (.int .i64 h) := (cell_of_row _ _ 1 _ 49 (0, 0) k).trans rfl
theorem KeyAt.c2 {w : World} {g : Nat} {seed h n : Int} (k : KeyAt w g seed h n) : w.cell? ⟨g, 2, none⟩ = some (.int .i64 n) := (cell_of_row _ _ 2 _ 49 (0, 0) k).trans rfl
theorem KeyAt.fz {w : World} {g : Nat} {seed h n : Int} (k : KeyAt w g seed h n) (i : Nat) : w.frozen? ⟨g, i, none⟩ = false := frozen_of_row w _ i _ 49 k
theorem KeyAt.lt {w : World} {g : Nat} {seed h n : Int} (k : KeyAt w g seed h n) : g < w.heap.size := (Array.getElem?_eq_some_iff.1 k).1
theorem KeyAt.kept {w w' : World} {g : Nat} {seed h n : Int} (k : KeyAt w g seed h n) (hb : Below w.heap.size w w') : KeyAt w' g seed h n := (hb.block _ k.lt).trans k
theorem KeyAt.touch {w w' : World} {g lo hi : Nat} {seed h n : Int} (k : KeyAt w g seed h n) (ht : Touch lo hi w w') (hg : g < lo ∨ hi ≤ g) : KeyAt w' g seed h n := (ht.block _ k.lt hg).trans k
theorem KeyAt.put1 {w : World} {g : Nat} {seed h n : Int} (k : KeyAt w g seed h n) (v : Int) : KeyAt (w.setCell ⟨g, 1, none⟩ (.int .i64 v)) g seed v n := heap_setCell_same w g 1 _ 49 _ k
theorem KeyAt.put2 {w : World} {g : Nat} {seed h n : Int} (k : KeyAt w g seed h n) (v : Int) : KeyAt (w.setCell ⟨g, 2, none⟩ (.int .i64 v)) g seed h v := heap_setCell_same w g 2 _ 49 _ k
theorem KeyAt.other {w : World} {g : Nat} {seed h n : Int} (k : KeyAt w g seed h n) (g' i : Nat) (v : Value) (hg : g ≠ g') : KeyAt (w.setCell ⟨g', i, none⟩ v) g seed h n := (Below.heap_setCell _ _ _ _ (by simpa using hg)).trans k
theorem key_new (w : World) (seed h n : Int) : KeyAt (w.alloc (.cells #[.int .u64 seed, .int .i64 h, .int .i64 n] 49)) w.heap.size seed h n := heap_alloc_new w _
theorem RdPost.put {w w1 : World} {g : Nat} {a : Option Addr} {n cap : Nat} {bs : List Int} (h : RdPost w g a n cap bs w1) {K : Nat} (hg : g < K) (hK : w.heap.size ≤ K) (i : Nat) (v : Value) : RdPost w g a n cap bs (w1.setCell ⟨K, i, none⟩ v) :=
  h.grown (lo := K) (hi := K + 1) ((Touch.same K (K + 1) w1).setCell (by simp) (by simp) v) hg hK
def hts : List Int := [-1, 5, 6]
theorem hts_range (k : Nat) (h : k < 3) : -1 ≤ hts.getD k 0 ∧ hts.getD k 0 ≤ 6 := by
  match k, h with
  | 0, _ => decide
  | 1, _ => decide
  | 2, _ => decide
theorem hts_cell (w : World) (k : Nat) (h : k < 3) : (w.alloc (.cells #[.int .i64 (-1), .int .i64 5, .int .i64 6] 2)).cell? ⟨w.heap.size, k, none⟩ = some (.int .i64 (hts.getD k 0)) := by
  rw [cell_of_row _ w.heap.size k _ 2 _ (heap_alloc_new w _)]
  match k, h with
  | 0, _ => rfl
  | 1, _ => rfl
  | 2, _ => rfl

set_option maxRecDepth 10000 in
set_option maxHeartbeats 4000000 in
theorem l8DrawKey_any (g : Nat) (a : Option Addr) (n cap : Nat) (bs : List Int) (w : World) (h : Rd w g a n cap bs) :
    Calls Try.prog 59 #[.pointer (some ⟨g, 0, none⟩)] w fun e w' => ∃ seed hh nx : Int, e = .returned (tkv seed hh nx) ∧ U64 seed ∧ (-1 ≤ hh ∧ hh ≤ 6) ∧ (-1 ≤ nx ∧ nx ≤ 100) ∧ RdPost w g a n cap bs w' := by
  have hgl : g < w.heap.size := h.lt
  obtain ⟨w0, hw0⟩ : ∃ w0, w0 = w.alloc (.cells #[.int .u64 0, .int .i64 0, .int .i64 0] 49) := ⟨_, rfl⟩
  have hp0 : RdPost w g a n cap bs w0 := by rw [hw0]; exact (show RdPost w g a n cap bs w from ⟨h, Touch.same _ _ _⟩).alloc _
  have hR0 : KeyAt w0 w.heap.size 0 0 0 := by rw [hw0]; exact key_new w 0 0 0
  have HW : Hid (_ = _) := hw0
  have HP0 : Hid (RdPost w g a n cap bs w0) := hp0
  have HR0 : Hid (KeyAt w0 w.heap.size 0 0 0) := hR0
  clear hw0 h hp0 hR0
  go_enter Try.func59, Try.ntmps59
  go_upto_region 1 with fail
  rw [← HW.out]
  clear HW
  go_wp2_with fail
  refine (word_any g a n cap bs _ HP0.out.1).mono ?_
  rintro e w1 ⟨seed, rfl, hs0, hs1, hp1⟩
  go_wp2_with fail
  refine (below_any g a n cap bs 4 _ hp1.1 (by decide)).mono ?_
  rintro e w2 ⟨hh, rfl, hh0, hh1, hp2⟩
  have hh3 : hh ≤ 3 := by omega
  have hR2 : KeyAt w2 w.heap.size 0 0 0 := (HR0.out.touch hp1.2 (by omega)).touch hp2.2 (by omega)
  have hpp2 := (HP0.out.step hp1).step hp2
  obtain ⟨w3, hw3⟩ : ∃ w3, w3 = w2.alloc (.cells #[.int .u64 seed, .int .i64 hh, .int .i64 0] 49) := ⟨_, rfl⟩
  obtain ⟨K, hK⟩ : ∃ K, K = w2.heap.size := ⟨_, rfl⟩
  have hK3 : KeyAt w3 K seed hh 0 := by rw [hw3, hK]; exact key_new w2 seed hh 0
  have hR3 : KeyAt w3 w.heap.size 0 0 0 := by rw [hw3]; exact hR2.kept ((Below.refl _ _).alloc (Nat.le_refl _) _)
  have hpp3 : RdPost w g a n cap bs w3 := by rw [hw3]; exact hpp2.alloc _
  have hKw : w.heap.size < K := by have := hR2.lt; omega
  have HW3 : Hid (_ = _) := hw3
  have HK : Hid (K = w2.heap.size) := hK
  have HPP3 : Hid (RdPost w g a n cap bs w3) := hpp3
  have HR3 : Hid (KeyAt w3 w.heap.size 0 0 0) := hR3
  clear hw3 hK hp1 hp2 HP0 HR0 hR2 hpp2 hpp3 hR3
  obtain ⟨N, hN⟩ := HN.of hh0 (by omega)
  have hNl := hN.le
  have hsh := hN.sh
  have u1 : IntKind.u64.wrap hh = hh := by rw [IntKind.wrap_u64]; omega
  go_upto_region 2 with fail
  rw [← HW3.out, ← HK.out]
  clear HW3 HK
  have c1 := hK3.c1
  go_wp2_with fail
  refine (below_any g a n cap bs ((N : Int) + 1) _ HPP3.out.1 (by omega)).mono ?_
  rintro e w4 ⟨nx, rfl, hn0, hn1, hp4⟩
  have hnx : nx ≤ 32 := by omega
  have hK4 := hK3.touch hp4.2 (by omega)
  have hR4 := HR3.out.touch hp4.2 (by omega)
  have k2 := hK4.c2
  have z2 := hK4.fz 2
  have HK5 : Hid (KeyAt (w4.setCell ⟨K, 2, none⟩ (.int .i64 nx)) K seed hh nx) := hK4.put2 nx
  have HR5 : Hid (KeyAt (w4.setCell ⟨K, 2, none⟩ (.int .i64 nx)) w.heap.size 0 0 0) := hR4.other K 2 (.int .i64 nx) (by omega)
  have HP5 : Hid (RdPost w g a n cap bs (w4.setCell ⟨K, 2, none⟩ (.int .i64 nx))) := (HPP3.out.step hp4).put (K := K) (by omega) (by omega) 2 (.int .i64 nx)
  obtain ⟨w5, hw5⟩ : ∃ w5, w5 = w4.setCell ⟨K, 2, none⟩ (.int .i64 nx) := ⟨_, rfl⟩
  have HW5 : Hid (w4.setCell ⟨K, 2, none⟩ (.int .i64 nx) = w5) := hw5.symm
  rw [← hw5] at HK5 HR5 HP5
  clear hK3 hK4 hR4 hp4 HPP3 HR3 c1 hw5
  go_wp2_with fail
  rw [HW5.out]
  clear HW5 k2 z2
  refine (once_any g a n cap bs 15 _ HP5.out.1 (by decide) (by decide)).mono ?_
  rintro e w6 ⟨c, rfl, hp6⟩
  have HK6 : Hid (KeyAt w6 K seed hh nx) := HK5.out.touch hp6.2 (by omega)
  have HR6 : Hid (KeyAt w6 w.heap.size 0 0 0) := HR5.out.touch hp6.2 (by omega)
  have HP6 : Hid (RdPost w g a n cap bs w6) := HP5.out.step hp6
  clear HK5 HR5 HP5 hp6
  cases c
  · go_wp2_with fail
    refine (once_any g a n cap bs 15 _ HP6.out.1 (by decide) (by decide)).mono ?_
    rintro e w7 ⟨c, rfl, hp7⟩
    have hK7 : KeyAt w7 K seed hh nx := HK6.out.touch hp7.2 (by omega)
    have hR7 : KeyAt w7 w.heap.size 0 0 0 := HR6.out.touch hp7.2 (by omega)
    have HP7 : Hid (RdPost w g a n cap bs w7) := HP6.out.step hp7
    clear HK6 HR6 HP6 hp7
    cases c
    · have hK9 := hK7
      have hR9 := hR7
      clear hK7 hR7
      have k0 := hK9.c0
      have k1 := hK9.c1
      have k2 := hK9.c2
      have r0 := hR9.c0
      have r1 := hR9.c1
      have r2 := hR9.c2
      have z0 := hR9.fz 0
      have z1 := hR9.fz 1
      have z2 := hR9.fz 2
      have HR9 : Hid (KeyAt w7 w.heap.size 0 0 0) := hR9
      clear hK9 hR9
      go_wp2
      try simp only [Exit.inBlock, Exit.then]
      exact bodyPost_ret (results_tk rfl _ w.heap.size rfl _ _ _ _ (heap_setCell_same _ _ 2 _ 49 _ (heap_setCell_same _ _ 1 _ 49 _ (heap_setCell_same _ _ 0 _ 49 _ HR9.out)))) rfl ⟨seed, hh, nx, rfl, ⟨hs0, hs1⟩, by omega, by omega, ((HP7.out.put hgl (Nat.le_refl _) _ _).put hgl (Nat.le_refl _) _ _).put hgl (Nat.le_refl _) _ _⟩
    · have HK7 : Hid (KeyAt w7 K seed hh nx) := hK7
      have HR7 : Hid (KeyAt w7 w.heap.size 0 0 0) := hR7
      clear hK7 hR7
      go_wp2_with fail
      refine (below_any g a n cap bs 12 _ HP7.out.1 (by decide)).mono ?_
      rintro e w8 ⟨nz, rfl, hz0, hz1, hp8⟩
      have hz11 : nz ≤ 11 := by omega
      have hK8 : KeyAt w8 K seed hh nx := HK7.out.touch hp8.2 (by omega)
      have hR8 : KeyAt w8 w.heap.size 0 0 0 := HR7.out.touch hp8.2 (by omega)
      have y2 := hK8.c2
      have x2 := hK8.fz 2
      have hK9 : KeyAt (w8.setCell ⟨K, 2, none⟩ (.int .i64 (nz - 1))) K seed hh (nz - 1) := hK8.put2 (nz - 1)
      have hR9 : KeyAt (w8.setCell ⟨K, 2, none⟩ (.int .i64 (nz - 1))) w.heap.size 0 0 0 := hR8.other K 2 _ (by omega)
      have HP9 : Hid (RdPost w g a n cap bs (w8.setCell ⟨K, 2, none⟩ (.int .i64 (nz - 1)))) := (HP7.out.step hp8).put (K := K) (by omega) (by omega) 2 _
      obtain ⟨w9, hw9⟩ : ∃ w9, w9 = w8.setCell ⟨K, 2, none⟩ (.int .i64 (nz - 1)) := ⟨_, rfl⟩
      have HW9 : Hid (w8.setCell ⟨K, 2, none⟩ (.int .i64 (nz - 1)) = w9) := hw9.symm
      rw [← hw9] at hK9 hR9 HP9
      clear hw9 hK8 hR8 hp8 HK7 HR7 HP7
      go_upto_region 7 with fail
      rw [HW9.out]
      clear HW9 y2 x2
      have k0 := hK9.c0
      have k1 := hK9.c1
      have k2 := hK9.c2
      have r0 := hR9.c0
      have r1 := hR9.c1
      have r2 := hR9.c2
      have z0 := hR9.fz 0
      have z1 := hR9.fz 1
      have z2 := hR9.fz 2
      have HR9 : Hid (KeyAt w9 w.heap.size 0 0 0) := hR9
      clear hK9 hR9
      go_wp2
      try simp only [Exit.inBlock, Exit.then]
      exact bodyPost_ret (results_tk rfl _ w.heap.size rfl _ _ _ _ (heap_setCell_same _ _ 2 _ 49 _ (heap_setCell_same _ _ 1 _ 49 _ (heap_setCell_same _ _ 0 _ 49 _ HR9.out)))) rfl ⟨seed, hh, (nz - 1), rfl, ⟨hs0, hs1⟩, by omega, by omega, ((HP9.out.put hgl (Nat.le_refl _) _ _).put hgl (Nat.le_refl _) _ _).put hgl (Nat.le_refl _) _ _⟩
  · go_wp2_with fail
    refine (below_any g a n cap bs 3 _ (HP6.out.alloc _).1 (by decide)).mono ?_
    rintro e wa ⟨v, rfl, hv0, hv1, hpa⟩
    obtain ⟨k, rfl⟩ := Int.eq_ofNat_of_zero_le hv0
    have hk : k < 3 := by omega
    have hki : (k : Int) < 3 := by omega
    have hKl := HK6.out.lt
    have hcell : wa.cell? ⟨w6.heap.size, k, none⟩ = some (.int .i64 (hts.getD k 0)) :=
      (World.cell?_of_block (a := ⟨w6.heap.size, k, none⟩) (hpa.2.block w6.heap.size (by simp) (.inr (by omega)))).trans (hts_cell w6 k hk)
    obtain ⟨y, hy⟩ : ∃ y, y = hts.getD k 0 := ⟨_, rfl⟩
    have hyr := hts_range k hk
    rw [← hy] at hcell hyr
    obtain ⟨hy0, hy6⟩ := hyr
    clear hy
    have hKa : KeyAt wa K seed hh nx := (HK6.out.kept ((Below.refl _ _).alloc (Nat.le_refl _) _)).touch hpa.2 (by omega)
    have hRa : KeyAt wa w.heap.size 0 0 0 := (HR6.out.kept ((Below.refl _ _).alloc (Nat.le_refl _) _)).touch hpa.2 (by omega)
    have y1 := hKa.c1
    have x1 := hKa.fz 1
    have HKb : Hid (KeyAt (wa.setCell ⟨K, 1, none⟩ (.int .i64 y)) K seed y nx) := hKa.put1 y
    have HRb : Hid (KeyAt (wa.setCell ⟨K, 1, none⟩ (.int .i64 y)) w.heap.size 0 0 0) := hRa.other K 1 _ (by omega)
    have HPb : Hid (RdPost w g a n cap bs (wa.setCell ⟨K, 1, none⟩ (.int .i64 y))) := ((HP6.out.alloc _).step hpa).put (K := K) (by omega) (by omega) 1 _
    obtain ⟨wb, hwb⟩ : ∃ wb, wb = wa.setCell ⟨K, 1, none⟩ (.int .i64 y) := ⟨_, rfl⟩
    have HWb : Hid (wa.setCell ⟨K, 1, none⟩ (.int .i64 y) = wb) := hwb.symm
    rw [← hwb] at HKb HRb HPb
    clear hwb hKa hRa hpa HK6 HR6 HP6
    go_upto_region 5 with fail
    rw [HWb.out]
    clear HWb y1 x1
    go_wp2_with fail
    refine (once_any g a n cap bs 15 _ HPb.out.1 (by decide) (by decide)).mono ?_
    rintro e w7 ⟨c, rfl, hp7⟩
    have hK7 : KeyAt w7 K seed y nx := HKb.out.touch hp7.2 (by omega)
    have hR7 : KeyAt w7 w.heap.size 0 0 0 := HRb.out.touch hp7.2 (by omega)
    have HP7 : Hid (RdPost w g a n cap bs w7) := HPb.out.step hp7
    clear HKb HRb HPb hp7
    cases c
    · have hK9 := hK7
      have hR9 := hR7
      clear hK7 hR7
      have k0 := hK9.c0
      have k1 := hK9.c1
      have k2 := hK9.c2
      have r0 := hR9.c0
      have r1 := hR9.c1
      have r2 := hR9.c2
      have z0 := hR9.fz 0
      have z1 := hR9.fz 1
      have z2 := hR9.fz 2
      have HR9 : Hid (KeyAt w7 w.heap.size 0 0 0) := hR9
      clear hK9 hR9
      go_wp2
      try simp only [Exit.inBlock, Exit.then]
      exact bodyPost_ret (results_tk rfl _ w.heap.size rfl _ _ _ _ (heap_setCell_same _ _ 2 _ 49 _ (heap_setCell_same _ _ 1 _ 49 _ (heap_setCell_same _ _ 0 _ 49 _ HR9.out)))) rfl ⟨seed, y, nx, rfl, ⟨hs0, hs1⟩, by omega, by omega, ((HP7.out.put hgl (Nat.le_refl _) _ _).put hgl (Nat.le_refl _) _ _).put hgl (Nat.le_refl _) _ _⟩
    · have HK7 : Hid (KeyAt w7 K seed y nx) := hK7
      have HR7 : Hid (KeyAt w7 w.heap.size 0 0 0) := hR7
      clear hK7 hR7
      go_wp2_with fail
      refine (below_any g a n cap bs 12 _ HP7.out.1 (by decide)).mono ?_
      rintro e w8 ⟨nz, rfl, hz0, hz1, hp8⟩
      have hz11 : nz ≤ 11 := by omega
      have hK8 : KeyAt w8 K seed y nx := HK7.out.touch hp8.2 (by omega)
      have hR8 : KeyAt w8 w.heap.size 0 0 0 := HR7.out.touch hp8.2 (by omega)
      have y2 := hK8.c2
      have x2 := hK8.fz 2
      have hK9 : KeyAt (w8.setCell ⟨K, 2, none⟩ (.int .i64 (nz - 1))) K seed y (nz - 1) := hK8.put2 (nz - 1)
      have hR9 : KeyAt (w8.setCell ⟨K, 2, none⟩ (.int .i64 (nz - 1))) w.heap.size 0 0 0 := hR8.other K 2 _ (by omega)
      have HP9 : Hid (RdPost w g a n cap bs (w8.setCell ⟨K, 2, none⟩ (.int .i64 (nz - 1)))) := (HP7.out.step hp8).put (K := K) (by omega) (by omega) 2 _
      obtain ⟨w9, hw9⟩ : ∃ w9, w9 = w8.setCell ⟨K, 2, none⟩ (.int .i64 (nz - 1)) := ⟨_, rfl⟩
      have HW9 : Hid (w8.setCell ⟨K, 2, none⟩ (.int .i64 (nz - 1)) = w9) := hw9.symm
      rw [← hw9] at hK9 hR9 HP9
      clear hw9 hK8 hR8 hp8 HK7 HR7 HP7
      go_upto_region 7 with fail
      rw [HW9.out]
      clear HW9 y2 x2
      have k0 := hK9.c0
      have k1 := hK9.c1
      have k2 := hK9.c2
      have r0 := hR9.c0
      have r1 := hR9.c1
      have r2 := hR9.c2
      have z0 := hR9.fz 0
      have z1 := hR9.fz 1
      have z2 := hR9.fz 2
      have HR9 : Hid (KeyAt w9 w.heap.size 0 0 0) := hR9
      clear hK9 hR9
      go_wp2
      try simp only [Exit.inBlock, Exit.then]
      exact bodyPost_ret (results_tk rfl _ w.heap.size rfl _ _ _ _ (heap_setCell_same _ _ 2 _ 49 _ (heap_setCell_same _ _ 1 _ 49 _ (heap_setCell_same _ _ 0 _ 49 _ HR9.out)))) rfl ⟨seed, y, (nz - 1), rfl, ⟨hs0, hs1⟩, by omega, by omega, ((HP9.out.put hgl (Nat.le_refl _) _ _).put hgl (Nat.le_refl _) _ _).put hgl (Nat.le_refl _) _ _⟩

set_option maxRecDepth 10000 in
set_option maxHeartbeats 1000000 in
theorem drawTreeRoot_any (a : Option Addr) (n cap : Nat) (bs : List Int) (w : World) (h : Row w a n bs) (hn : n ≤ 1000000000) :
    Calls Try.prog 21 #[.slice a n cap] w fun e w' => ∃ seed hh nx : Int, e = .returned (tkv seed hh nx) ∧ U64 seed ∧ (-1 ≤ hh ∧ hh ≤ 6) ∧ (-1 ≤ nx ∧ nx ≤ 100) ∧ Below w.heap.size w w' := by
  have hR : KeyAt (w.alloc (.cells #[.int .u64 0, .int .i64 0, .int .i64 0] 49)) w.heap.size 0 0 0 := key_new w 0 0 0
  have hb0 : Below w.heap.size w (w.alloc (.cells #[.int .u64 0, .int .i64 0, .int .i64 0] 49)) := (Below.refl _ _).alloc (Nat.le_refl _) _
  obtain ⟨w0, hw0⟩ : ∃ w0, w0 = w.alloc (.cells #[.int .u64 0, .int .i64 0, .int .i64 0] 49) := ⟨_, rfl⟩
  have HW : Hid (_ = _) := hw0
  rw [← hw0] at hR hb0
  clear hw0
  have HR : Hid (KeyAt w0 w.heap.size 0 0 0) := hR
  go_enter Try.func21, Try.ntmps21
  go_upto_region 1 with fail
  rw [← HW.out]
  clear HW hR
  go_wp2_with fail
  refine (open_any a n cap bs _ (h.kept hb0) hn).mono ?_
  rintro e w1 ⟨rfl, hrd, hb1⟩
  have HR1 : Hid (KeyAt w1 w.heap.size 0 0 0) := HR.out.kept hb1
  have hlt := HR.out.lt
  clear HR
  go_wp2_with fail
  refine (l8DrawKey_any w0.heap.size a n cap bs _ hrd).mono ?_
  rintro e w2 ⟨seed, hh, nx, rfl, hs, hhb, hnb, hp2⟩
  have hR9 : KeyAt w2 w.heap.size 0 0 0 := HR1.out.touch hp2.2 (by omega)
  have r0 := hR9.c0
  have r1 := hR9.c1
  have r2 := hR9.c2
  have z0 := hR9.fz 0
  have z1 := hR9.fz 1
  have z2 := hR9.fz 2
  have HR9 : Hid (KeyAt w2 w.heap.size 0 0 0) := hR9
  have HB : Hid (Below w.heap.size w w2) := keepT hb0 (RdPost.below hb1 hp2)
  clear hR9 hp2 hb1 hrd
  rw [tkv]
  go_wp2
  try simp only [Exit.inBlock, Exit.then]
  exact bodyPost_ret (results_tk rfl _ w.heap.size rfl _ _ _ _ (heap_setCell_same _ _ 2 _ 49 _ (heap_setCell_same _ _ 1 _ 49 _ (heap_setCell_same _ _ 0 _ 49 _ HR9.out)))) rfl ⟨seed, hh, nx, rfl, hs, hhb, hnb, ((HB.out.setCell (Nat.le_refl _) _).setCell (Nat.le_refl _) _).setCell (Nat.le_refl _) _⟩

end Go.Proofs.Ytgaheamgkaipnaa

namespace Go.Proofs.Ytgaheamgkaipnaa
open Go.RowKit

def SecAt (w : World) (g : Nat) (sc x h n : Int) : Prop := w.heap[g]? = some (.cells #[.int .i64 sc, .int .u64 x, .int .i64 h, .int .i64 n] 61 (0, 0))
theorem SecAt.lt {w : World} {g : Nat} {sc x h n : Int} (k : SecAt w g sc x h n) : g < w.heap.size := (Array.getElem?_eq_some_iff.1 k).1
theorem SecAt.kept {w w' : World} {g : Nat} {sc x h n : Int} (k : SecAt w g sc x h n) (hb : Below w.heap.size w w') : SecAt w' g sc x h n := (hb.block _ k.lt).trans k
theorem SecAt.touch {w w' : World} {g lo hi : Nat} {sc x h n : Int} (k : SecAt w g sc x h n) (ht : Touch lo hi w w') (hg : g < lo ∨ hi ≤ g) : SecAt w' g sc x h n := (ht.block _ k.lt hg).trans k
theorem SecAt.put0 {w : World} {g : Nat} {sc x h n : Int} (k : SecAt w g sc x h n) (v : Int) : SecAt (w.setCell ⟨g, 0, none⟩ (.int .i64 v)) g v x h n := heap_setCell_same w g 0 _ 61 _ k
theorem SecAt.put1 {w : World} {g : Nat} {sc x h n : Int} (k : SecAt w g sc x h n) (v : Int) : SecAt (w.setCell ⟨g, 1, none⟩ (.int .u64 v)) g sc v h n := heap_setCell_same w g 1 _ 61 _ k
theorem SecAt.put2 {w : World} {g : Nat} {sc x h n : Int} (k : SecAt w g sc x h n) (v : Int) : SecAt (w.setCell ⟨g, 2, none⟩ (.int .i64 v)) g sc x v n := heap_setCell_same w g 2 _ 61 _ k
theorem SecAt.put3 {w : World} {g : Nat} {sc x h n : Int} (k : SecAt w g sc x h n) (v : Int) : SecAt (w.setCell ⟨g, 3, none⟩ (.int .i64 v)) g sc x h v := heap_setCell_same w g 3 _ 61 _ k
theorem SecAt.other {w : World} {g : Nat} {sc x h n : Int} (k : SecAt w g sc x h n) (g' i : Nat) (v : Value) (hg : g ≠ g') : SecAt (w.setCell ⟨g', i, none⟩ v) g sc x h n := (Below.heap_setCell _ _ _ _ (by simpa using hg)).trans k
theorem RdPost.set4 {w w1 : World} {g : Nat} {a : Option Addr} {n cap : Nat} {bs : List Int} (h : RdPost w g a n cap bs w1) {K : Nat} (hg : g < K) (hK : w.heap.size ≤ K) (u v t s : Value) : RdPost w g a n cap bs (set4 w1 K u v t s) :=
  (((h.put hg hK _ _).put hg hK _ _).put hg hK _ _).put hg hK _ _
def xcs : List Int := [0, 500000003, 9223372036854775808]
theorem xcs_range (k : Nat) (h : k < 3) : U64 (xcs.getD k 0) := by
  match k, h with
  | 0, _ => exact ⟨by decide, by decide⟩
  | 1, _ => exact ⟨by decide, by decide⟩
  | 2, _ => exact ⟨by decide, by decide⟩
theorem xcs_cell (w : World) (k : Nat) (h : k < 3) : (w.alloc (.cells #[.int .u64 0, .int .u64 500000003, .int .u64 9223372036854775808] 47)).cell? ⟨w.heap.size, k, none⟩ = some (.int .u64 (xcs.getD k 0)) := by
  rw [cell_of_row _ w.heap.size k _ 47 _ (heap_alloc_new w _)]
  match k, h with
  | 0, _ => rfl
  | 1, _ => rfl
  | 2, _ => rfl
theorem results_sc {fn : Func} {t : Tmp} (h : fn.results = #[.cell t 61]) (tmps : Array Value) (g : Nat) (ht : tmps.getD t undef = .pointer (some ⟨g, 0, none⟩)) (w : World) (c0 c1 c2 c3 : Value)
    (hb : w.heap[g]? = some (.cells #[c0, c1, c2, c3] 61 (0, 0))) : (results fn tmps).run Try.prog w = .ok (.agg #[c0, c1, c2, c3]) w := by
  obtain ⟨d0, d1, d2, d3⟩ := cells4 hb
  clear hb
  have ht' : tmps[t]?.getD undef = .pointer (some ⟨g, 0, none⟩) := by rw [← ht]; simp
  simp [results, h, go_sem, ht', d0, d1, d2, d3]

set_option maxRecDepth 10000 in
set_option maxHeartbeats 4000000 in
theorem l8DrawSecret_any (g : Nat) (a : Option Addr) (n cap : Nat) (bs : List Int) (w : World) (h : Rd w g a n cap bs) :
    Calls Try.prog 76 #[.pointer (some ⟨g, 0, none⟩)] w fun e w' => ∃ sc x hh nx : Int, e = .returned (scv sc x hh nx) ∧ U64 x ∧ RdPost w g a n cap bs w' := by
  have hgl : g < w.heap.size := h.lt
  obtain ⟨w0, hw0⟩ : ∃ w0, w0 = w.alloc (.cells #[.int .i64 0, .int .u64 0, .int .i64 0, .int .i64 0] 61) := ⟨_, rfl⟩
  have HP0 : Hid (RdPost w g a n cap bs w0) := by show RdPost _ _ _ _ _ _ _; rw [hw0]; exact (show RdPost w g a n cap bs w from ⟨h, Touch.same _ _ _⟩).alloc _
  have HR0 : Hid (SecAt w0 w.heap.size 0 0 0 0) := by show SecAt _ _ _ _ _ _; rw [hw0]; exact heap_alloc_new w _
  have HW : Hid (_ = _) := hw0
  clear hw0 h
  go_enter Try.func76, Try.ntmps76
  go_upto_region 1 with fail
  rw [← HW.out]
  clear HW
  go_wp2_with fail
  refine (once_any g a n cap bs 3 _ HP0.out.1 (by decide) (by decide)).mono ?_
  rintro e w1 ⟨c, rfl, hp1⟩
  have HP1 : Hid (RdPost w g a n cap bs w1) := HP0.out.step hp1
  have HR1 : Hid (SecAt w1 w.heap.size 0 0 0 0) := HR0.out.touch hp1.2 (by omega)
  clear HP0 HR0 hp1
  cases c
  · go_wp2_with fail
    refine (word_any g a n cap bs _ HP1.out.1).mono ?_
    rintro e w2 ⟨v, rfl, hv0, hv1, hp2⟩
    have HP2 : Hid (RdPost w g a n cap bs w2) := HP1.out.step hp2
    have HR2 : Hid (SecAt w2 w.heap.size 0 0 0 0) := HR1.out.touch hp2.2 (by omega)
    clear HP1 HR1 hp2
    obtain ⟨x, hx⟩ : ∃ x, x = 1 + v % 500000002 := ⟨_, rfl⟩
    have hux : U64 x := by unfold U64; omega
    have e1 : IntKind.u64.wrap (1 + v % 500000002) = 1 + v % 500000002 := by rw [IntKind.wrap_u64]; omega
    obtain ⟨w3, hw3⟩ : ∃ w3, w3 = w2.alloc (.cells #[.int .i64 1, .int .u64 x, .int .i64 0, .int .i64 0] 61) := ⟨_, rfl⟩
    obtain ⟨K, hK⟩ : ∃ K, K = w2.heap.size := ⟨_, rfl⟩
    have HK3 : Hid (SecAt w3 K 1 x 0 0) := by show SecAt _ _ _ _ _ _; rw [hw3, hK]; exact heap_alloc_new w2 _
    have HR3 : Hid (SecAt w3 w.heap.size 0 0 0 0) := by show SecAt _ _ _ _ _ _; rw [hw3]; exact HR2.out.kept ((Below.refl _ _).alloc (Nat.le_refl _) _)
    have HP3 : Hid (RdPost w g a n cap bs w3) := by show RdPost _ _ _ _ _ _ _; rw [hw3]; exact HP2.out.alloc _
    have hKw : w.heap.size < K := by have := HR2.out.lt; omega
    rw [hx] at hw3
    have HW3 : Hid (_ = _) := hw3
    have HK : Hid (_ = _) := hK
    clear hw3 hK HP2 HR2 hx
    go_upto_region 5 with fail
    rw [← HW3.out, ← HK.out]
    clear HW3 HK
    go_wp2_with fail
    refine (once_any g a n cap bs 12 _ HP3.out.1 (by decide) (by decide)).mono ?_
    rintro e w4 ⟨c, rfl, hp4⟩
    have HP4 : Hid (RdPost w g a n cap bs w4) := HP3.out.step hp4
    have HR4 : Hid (SecAt w4 w.heap.size 0 0 0 0) := HR3.out.touch hp4.2 (by omega)
    have HK4 : Hid (SecAt w4 K 1 x 0 0) := HK3.out.touch hp4.2 (by omega)
    clear HP3 HR3 HK3 hp4
    cases c
    · skip
      obtain ⟨r0, r1, r2, r3⟩ := cells4 HR4.out
      obtain ⟨f0, f1, f2, f3⟩ := frozen4 HR4.out
      obtain ⟨b0, b1, b2, b3⟩ := cells4 HK4.out
      go_wp2
      try simp only [Exit.inBlock, Exit.then]
      exact bodyPost_ret (results_sc rfl _ w.heap.size rfl _ _ _ _ _ (heap_set4 HR4.out _ _ _ _)) rfl ⟨1, x, 0, 0, rfl, hux, HP4.out.set4 hgl (Nat.le_refl _) _ _ _ _⟩
    · go_wp2_with fail
      refine (below_any g a n cap bs 4 _ HP4.out.1 (by decide)).mono ?_
      rintro e w5 ⟨q, rfl, hq0, hq1, hp5⟩
      have HP5 : Hid (RdPost w g a n cap bs w5) := HP4.out.step hp5
      have HR5 : Hid (SecAt w5 w.heap.size 0 0 0 0) := HR4.out.touch hp5.2 (by omega)
      have HK5 : Hid (SecAt w5 K 1 x 0 0) := HK4.out.touch hp5.2 (by omega)
      clear HP4 HR4 HK4 hp5
      have hq3 : q ≤ 3 := by omega
      rcases (show q = 0 ∨ q = 1 ∨ q = 2 ∨ q = 3 by omega) with rfl | rfl | rfl | rfl
      · have HT5 : Hid (∀ k, k < 3 → (w5.alloc (.cells #[.int .u64 0, .int .u64 500000003, .int .u64 9223372036854775808] 47)).cell? ⟨w5.heap.size, k, none⟩ = some (.int .u64 (xcs.getD k 0))) := fun k hk => xcs_cell w5 k hk
        obtain ⟨wt, hwt⟩ : ∃ wt, wt = w5.alloc (.cells #[.int .u64 0, .int .u64 500000003, .int .u64 9223372036854775808] 47) := ⟨_, rfl⟩
        have HPt : Hid (RdPost w g a n cap bs wt) := by show RdPost _ _ _ _ _ _ _; rw [hwt]; exact HP5.out.alloc _
        have HRt : Hid (SecAt wt w.heap.size 0 0 0 0) := by show SecAt _ _ _ _ _ _; rw [hwt]; exact HR5.out.kept ((Below.refl _ _).alloc (Nat.le_refl _) _)
        have HKt : Hid (SecAt wt K 1 x 0 0) := by show SecAt _ _ _ _ _ _; rw [hwt]; exact HK5.out.kept ((Below.refl _ _).alloc (Nat.le_refl _) _)
        have hlt5 : w5.heap.size < wt.heap.size := by rw [hwt]; simp
        have hg5 : g < w5.heap.size := by have := HK5.out.lt; omega
        have HWt : Hid (_ = _) := hwt
        rw [← hwt] at HT5
        clear hwt HP5 HR5 HK5
        go_wp2_with fail
        rw [← HWt.out]
        clear HWt
        refine (below_any g a n cap bs 3 _ HPt.out.1 (by decide)).mono ?_
        rintro e w6 ⟨u, rfl, hu0, hu1, hp6⟩
        have HP6 : Hid (RdPost w g a n cap bs w6) := HPt.out.step hp6
        have HR6 : Hid (SecAt w6 w.heap.size 0 0 0 0) := HRt.out.touch hp6.2 (by omega)
        have HK6 : Hid (SecAt w6 K 1 x 0 0) := HKt.out.touch hp6.2 (by omega)
        have hu2 : u ≤ 2 := by omega
        obtain ⟨k, rfl⟩ := Int.eq_ofNat_of_zero_le hu0
        have hk3 : k < 3 := by omega
        have hki : (k : Int) < 3 := by omega
        have hcu : w6.cell? ⟨w5.heap.size, k, none⟩ = some (.int .u64 (xcs.getD k 0)) := (World.cell?_of_block (hp6.2.block w5.heap.size hlt5 (.inr (by omega)))).trans (HT5.out k hk3)
        have hxu := xcs_range k hk3
        obtain ⟨xv, hxv⟩ : ∃ xv, xv = xcs.getD k 0 := ⟨_, rfl⟩
        rw [← hxv] at hcu hxu
        clear hxv HPt HRt HKt hp6 HT5
        obtain ⟨b0, b1, b2, b3⟩ := cells4 HK6.out
        obtain ⟨p0, p1, p2, p3⟩ := frozen4 HK6.out
        obtain ⟨w7, hw7⟩ : ∃ w7, w7 = w6.setCell ⟨K, 1, none⟩ (.int .u64 xv) := ⟨_, rfl⟩
        have HP7 : Hid (RdPost w g a n cap bs w7) := by show RdPost _ _ _ _ _ _ _; rw [hw7]; exact HP6.out.put (by omega) (by omega) _ _
        have HR7 : Hid (SecAt w7 w.heap.size 0 0 0 0) := by show SecAt _ _ _ _ _ _; rw [hw7]; exact HR6.out.other K _ _ (by omega)
        have HK7 : Hid (SecAt w7 K 1 xv 0 0) := by show SecAt _ _ _ _ _ _; rw [hw7]; exact HK6.out.put1 _
        have HW7 : Hid (_ = _) := hw7
        clear hw7 HP6 HR6 HK6
        go_upto_region 14 with fail
        rw [← HW7.out]
        clear HW7 b0 b1 b2 b3 p0 p1 p2 p3 hcu
        obtain ⟨r0, r1, r2, r3⟩ := cells4 HR7.out
        obtain ⟨f0, f1, f2, f3⟩ := frozen4 HR7.out
        obtain ⟨b0, b1, b2, b3⟩ := cells4 HK7.out
        go_wp2
        try simp only [Exit.inBlock, Exit.then]
        exact bodyPost_ret (results_sc rfl _ w.heap.size rfl _ _ _ _ _ (heap_set4 HR7.out _ _ _ _)) rfl ⟨1, xv, 0, 0, rfl, hxu, HP7.out.set4 hgl (Nat.le_refl _) _ _ _ _⟩
      · go_wp2_with fail
        refine (below_any g a n cap bs 5 _ HP5.out.1 (by decide)).mono ?_
        rintro e w6 ⟨u, rfl, hu0, hu1, hp6⟩
        have HP6 : Hid (RdPost w g a n cap bs w6) := HP5.out.step hp6
        have HR6 : Hid (SecAt w6 w.heap.size 0 0 0 0) := HR5.out.touch hp6.2 (by omega)
        have HK6 : Hid (SecAt w6 K 1 x 0 0) := HK5.out.touch hp6.2 (by omega)
        have hu4 : u ≤ 4 := by omega
        clear HP5 HR5 HK5 hp6
        obtain ⟨b0, b1, b2, b3⟩ := cells4 HK6.out
        obtain ⟨p0, p1, p2, p3⟩ := frozen4 HK6.out
        obtain ⟨w7, hw7⟩ : ∃ w7, w7 = w6.setCell ⟨K, 0, none⟩ (.int .i64 (u - 1)) := ⟨_, rfl⟩
        have HP7 : Hid (RdPost w g a n cap bs w7) := by show RdPost _ _ _ _ _ _ _; rw [hw7]; exact HP6.out.put (by omega) (by omega) _ _
        have HR7 : Hid (SecAt w7 w.heap.size 0 0 0 0) := by show SecAt _ _ _ _ _ _; rw [hw7]; exact HR6.out.other K _ _ (by omega)
        have HK7 : Hid (SecAt w7 K (u - 1) x 0 0) := by show SecAt _ _ _ _ _ _; rw [hw7]; exact HK6.out.put0 _
        have HW7 : Hid (_ = _) := hw7
        clear hw7 HP6 HR6 HK6
        go_upto_region 14 with fail
        rw [← HW7.out]
        clear HW7 b0 b1 b2 b3 p0 p1 p2 p3
        obtain ⟨r0, r1, r2, r3⟩ := cells4 HR7.out
        obtain ⟨f0, f1, f2, f3⟩ := frozen4 HR7.out
        obtain ⟨b0, b1, b2, b3⟩ := cells4 HK7.out
        go_wp2
        try simp only [Exit.inBlock, Exit.then]
        exact bodyPost_ret (results_sc rfl _ w.heap.size rfl _ _ _ _ _ (heap_set4 HR7.out _ _ _ _)) rfl ⟨(u - 1), x, 0, 0, rfl, hux, HP7.out.set4 hgl (Nat.le_refl _) _ _ _ _⟩
      · obtain ⟨b0, b1, b2, b3⟩ := cells4 HK5.out
        obtain ⟨p0, p1, p2, p3⟩ := frozen4 HK5.out
        obtain ⟨w7, hw7⟩ : ∃ w7, w7 = w5.setCell ⟨K, 2, none⟩ (.int .i64 1) := ⟨_, rfl⟩
        have HP7 : Hid (RdPost w g a n cap bs w7) := by show RdPost _ _ _ _ _ _ _; rw [hw7]; exact HP5.out.put (by omega) (by omega) _ _
        have HR7 : Hid (SecAt w7 w.heap.size 0 0 0 0) := by show SecAt _ _ _ _ _ _; rw [hw7]; exact HR5.out.other K _ _ (by omega)
        have HK7 : Hid (SecAt w7 K 1 x 1 0) := by show SecAt _ _ _ _ _ _; rw [hw7]; exact HK5.out.put2 _
        have HW7 : Hid (_ = _) := hw7
        clear hw7 HP5 HR5 HK5
        go_upto_region 14 with fail
        rw [← HW7.out]
        clear HW7 b0 b1 b2 b3 p0 p1 p2 p3
        obtain ⟨r0, r1, r2, r3⟩ := cells4 HR7.out
        obtain ⟨f0, f1, f2, f3⟩ := frozen4 HR7.out
        obtain ⟨b0, b1, b2, b3⟩ := cells4 HK7.out
        go_wp2
        try simp only [Exit.inBlock, Exit.then]
        exact bodyPost_ret (results_sc rfl _ w.heap.size rfl _ _ _ _ _ (heap_set4 HR7.out _ _ _ _)) rfl ⟨1, x, 1, 0, rfl, hux, HP7.out.set4 hgl (Nat.le_refl _) _ _ _ _⟩
      · obtain ⟨b0, b1, b2, b3⟩ := cells4 HK5.out
        obtain ⟨p0, p1, p2, p3⟩ := frozen4 HK5.out
        obtain ⟨w7, hw7⟩ : ∃ w7, w7 = w5.setCell ⟨K, 3, none⟩ (.int .i64 1) := ⟨_, rfl⟩
        have HP7 : Hid (RdPost w g a n cap bs w7) := by show RdPost _ _ _ _ _ _ _; rw [hw7]; exact HP5.out.put (by omega) (by omega) _ _
        have HR7 : Hid (SecAt w7 w.heap.size 0 0 0 0) := by show SecAt _ _ _ _ _ _; rw [hw7]; exact HR5.out.other K _ _ (by omega)
        have HK7 : Hid (SecAt w7 K 1 x 0 1) := by show SecAt _ _ _ _ _ _; rw [hw7]; exact HK5.out.put3 _
        have HW7 : Hid (_ = _) := hw7
        clear hw7 HP5 HR5 HK5
        go_upto_region 14 with fail
        rw [← HW7.out]
        clear HW7 b0 b1 b2 b3 p0 p1 p2 p3
        obtain ⟨r0, r1, r2, r3⟩ := cells4 HR7.out
        obtain ⟨f0, f1, f2, f3⟩ := frozen4 HR7.out
        obtain ⟨b0, b1, b2, b3⟩ := cells4 HK7.out
        go_wp2
        try simp only [Exit.inBlock, Exit.then]
        exact bodyPost_ret (results_sc rfl _ w.heap.size rfl _ _ _ _ _ (heap_set4 HR7.out _ _ _ _)) rfl ⟨1, x, 0, 1, rfl, hux, HP7.out.set4 hgl (Nat.le_refl _) _ _ _ _⟩
  · go_wp2_with fail
    refine (l8DrawKey_any g a n cap bs _ HP1.out.1).mono ?_
    rintro e w2 ⟨seed, hh, nx, rfl, hs, _, _, hp2⟩
    have HP2 : Hid (RdPost w g a n cap bs w2) := HP1.out.step hp2
    have HR2 : Hid (SecAt w2 w.heap.size 0 0 0 0) := HR1.out.touch hp2.2 (by omega)
    clear HP1 HR1 hp2
    rw [tkv]
    obtain ⟨w3, hw3⟩ : ∃ w3, w3 = w2.alloc (.cells #[.int .u64 seed, .int .i64 hh, .int .i64 nx] 49) := ⟨_, rfl⟩
    obtain ⟨K, hK⟩ : ∃ K, K = w2.heap.size := ⟨_, rfl⟩
    have HK3 : Hid (KeyAt w3 K seed hh nx) := by show KeyAt _ _ _ _ _; rw [hw3, hK]; exact key_new w2 seed hh nx
    have HR3 : Hid (SecAt w3 w.heap.size 0 0 0 0) := by show SecAt _ _ _ _ _ _; rw [hw3]; exact HR2.out.kept ((Below.refl _ _).alloc (Nat.le_refl _) _)
    have HP3 : Hid (RdPost w g a n cap bs w3) := by show RdPost _ _ _ _ _ _ _; rw [hw3]; exact HP2.out.alloc _
    have HW3 : Hid (_ = _) := hw3
    have HK : Hid (_ = _) := hK
    clear hw3 hK HP2 HR2
    go_upto_region 3 with fail
    rw [← HW3.out, ← HK.out]
    clear HW3 HK
    have b0 := HK3.out.c0
    have b1 := HK3.out.c1
    have b2 := HK3.out.c2
    obtain ⟨r0, r1, r2, r3⟩ := cells4 HR3.out
    obtain ⟨f0, f1, f2, f3⟩ := frozen4 HR3.out
    go_wp2
    try simp only [Exit.inBlock, Exit.then]
    exact bodyPost_ret (results_sc rfl _ w.heap.size rfl _ _ _ _ _ (heap_set4 HR3.out _ _ _ _)) rfl ⟨2, seed, hh, nx, rfl, hs, HP3.out.set4 hgl (Nat.le_refl _) _ _ _ _⟩

theorem results_da {fn : Func} {t u : Tmp} (h : fn.results = #[.cell t 61, .tmp u]) (tmps : Array Value) (g : Nat) (ht : tmps.getD t undef = .pointer (some ⟨g, 0, none⟩)) (y : Value) (hy : tmps.getD u undef = y) (w : World) (c0 c1 c2 c3 : Value)
    (hb : w.heap[g]? = some (.cells #[c0, c1, c2, c3] 61 (0, 0))) : (results fn tmps).run Try.prog w = .ok (.tuple #[.agg #[c0, c1, c2, c3], y]) w := by
  obtain ⟨d0, d1, d2, d3⟩ := cells4 hb
  clear hb
  have ht' : tmps[t]?.getD undef = .pointer (some ⟨g, 0, none⟩) := by rw [← ht]; simp
  have hy' : tmps[u]?.getD undef = y := by rw [← hy]; simp
  simp [results, h, go_sem, ht', hy', d0, d1, d2, d3]

set_option maxRecDepth 10000 in
set_option maxHeartbeats 2000000 in
theorem drawSignAny_any (a : Option Addr) (n cap : Nat) (bs : List Int) (w : World) (h : Row w a n bs) (hn : n ≤ 1000000000) :
    Calls Try.prog 27 #[.slice a n cap] w fun e w' => ∃ (sc x hh nx : Int) (am : Option Addr) (nm cm : Nat) (ms : List Int), e = .returned (.tuple #[scv sc x hh nx, .slice am nm cm]) ∧ U64 x ∧ Own w.heap.size w' am nm cm ms ∧ nm ≤ 1000 ∧ Below w.heap.size w w' := by
  obtain ⟨w0, hw0⟩ : ∃ w0, w0 = w.alloc (.cells #[.int .i64 0, .int .u64 0, .int .i64 0, .int .i64 0] 61) := ⟨_, rfl⟩
  have hb0 : Below w.heap.size w w0 := by rw [hw0]; exact (Below.refl _ _).alloc (Nat.le_refl _) _
  have HR : Hid (SecAt w0 w.heap.size 0 0 0 0) := by show SecAt _ _ _ _ _ _; rw [hw0]; exact heap_alloc_new w _
  have HW : Hid (_ = _) := hw0
  clear hw0
  go_enter Try.func27, Try.ntmps27
  go_upto_region 1 with fail
  rw [← HW.out]
  clear HW
  go_wp2_with fail
  refine (open_any a n cap bs _ (h.kept hb0) hn).mono ?_
  rintro e w1 ⟨rfl, hrd, hb1⟩
  have HR1 : Hid (SecAt w1 w.heap.size 0 0 0 0) := HR.out.kept hb1
  have hlt := HR.out.lt
  clear HR
  go_wp2_with fail
  refine (l8DrawSecret_any w0.heap.size a n cap bs _ hrd).mono ?_
  rintro e w2 ⟨sc, x, hh, nx, rfl, hx, hp2⟩
  have HR2 : Hid (SecAt w2 w.heap.size 0 0 0 0) := HR1.out.touch hp2.2 (by omega)
  have HB2 : Hid (Below w.heap.size w w2) := keepT hb0 (RdPost.below hb1 hp2)
  rw [scv]
  obtain ⟨w3, hw3⟩ : ∃ w3, w3 = w2.alloc (.cells #[.int .i64 sc, .int .u64 x, .int .i64 hh, .int .i64 nx] 61) := ⟨_, rfl⟩
  obtain ⟨K, hK⟩ : ∃ K, K = w2.heap.size := ⟨_, rfl⟩
  have hb3 : Below w2.heap.size w2 w3 := by rw [hw3]; exact (Below.refl _ _).alloc (Nat.le_refl _) _
  have HK3 : Hid (SecAt w3 K sc x hh nx) := by show SecAt _ _ _ _ _ _; rw [hw3, hK]; exact heap_alloc_new w2 _
  have HR3 : Hid (SecAt w3 w.heap.size 0 0 0 0) := HR2.out.kept hb3
  have HD3 : Hid (Rd w3 w0.heap.size a n cap bs) := hp2.1.kept hb3
  have hKw : w0.heap.size < K := by have := hp2.1.lt; omega
  have HB3 : Hid (Below w.heap.size w w3) := keepT HB2.out hb3
  have HW3 : Hid (_ = _) := hw3
  have HK : Hid (_ = _) := hK
  clear hw3 hK hp2 HR1 HR2 HB2 hrd hb1
  go_upto_region 3 with fail
  rw [← HW3.out, ← HK.out]
  clear HW3 HK
  have HX : ∀ W, Touch w0.heap.size (w0.heap.size + 1) w3 W → W.cell? ⟨K, 0, none⟩ = some (.int .i64 sc) ∧ W.cell? ⟨K, 1, none⟩ = some (.int .u64 x) ∧ W.cell? ⟨K, 2, none⟩ = some (.int .i64 hh) ∧ W.cell? ⟨K, 3, none⟩ = some (.int .i64 nx) := fun W hW => cells4 (HK3.out.touch hW (.inr (by omega)))
  have HZ : ∀ W, Touch w0.heap.size (w0.heap.size + 1) w3 W → ∀ v0 v1 v2 v3, (set4 W w.heap.size v0 v1 v2 v3).cell? ⟨K, 0, none⟩ = some (.int .i64 sc) ∧ (set4 W w.heap.size v0 v1 v2 v3).cell? ⟨K, 1, none⟩ = some (.int .u64 x) ∧ (set4 W w.heap.size v0 v1 v2 v3).cell? ⟨K, 2, none⟩ = some (.int .i64 hh) ∧ (set4 W w.heap.size v0 v1 v2 v3).cell? ⟨K, 3, none⟩ = some (.int .i64 nx) := by
    intro W hW v0 v1 v2 v3
    obtain ⟨e0, e1, e2, e3⟩ := HX W hW
    exact ⟨(set4_cell W _ _ _ (by omega) _ _ _ _).trans e0, (set4_cell W _ _ _ (by omega) _ _ _ _).trans e1, (set4_cell W _ _ _ (by omega) _ _ _ _).trans e2, (set4_cell W _ _ _ (by omega) _ _ _ _).trans e3⟩
  have ht3 : Touch w0.heap.size (w0.heap.size + 1) w3 w3 := Touch.same _ _ _
  have htd : Touch w0.heap.size (w0.heap.size + 1) w3 w3.drew := Touch.of_below ((Below.refl _ _).drew)
  have HDd : Hid (Rd w3.drew w0.heap.size a n cap bs) := HD3.out.kept ((Below.refl _ _).drew)
  have SS := HX _ ht3
  have SS1 := HX _ htd
  go_region_held_law (fun W => W.cell? ⟨K, 0, none⟩ = some (.int .i64 sc) ∧ W.cell? ⟨K, 1, none⟩ = some (.int .u64 x) ∧ W.cell? ⟨K, 2, none⟩ = some (.int .i64 hh) ∧ W.cell? ⟨K, 3, none⟩ = some (.int .i64 nx)) (first | assumption | exact SS | exact SS1 | exact SS2 | exact HZ _ ht4 _ _ _ _)
    (first
      | (go_at_call 77; refine (bytes_any w0.heap.size a n cap bs 20 _ HDd.out (by decide) (by decide)).mono ?_; rintro e w4 ⟨am, nm, cm, ms, rfl, hnm, hom, hp4⟩; have ht4 : Touch w0.heap.size (w0.heap.size + 1) w3 w4 := htd.trans hp4.2; have SS2 := HX _ ht4; obtain ⟨r0, r1, r2, r3⟩ := cells4 (HR3.out.touch ht4 (.inl hlt)); obtain ⟨f0, f1, f2, f3⟩ := frozen4 (HR3.out.touch ht4 (.inl hlt))))
  have HR4 : Hid (SecAt w4 w.heap.size 0 0 0 0) := HR3.out.touch ht4 (.inl hlt)
  have hs3 : w.heap.size < w3.heap.size := HR3.out.lt
  have HB4 : Hid (Below w.heap.size w w4) := HB3.out.trans (ht4.below (by omega) (by omega))
  have HOM : Hid (Own w3.heap.size w4 am nm cm ms) := hom
  go_wp2
  try simp only [Exit.inBlock, Exit.then]
  exact bodyPost_ret (results_da rfl _ w.heap.size rfl _ rfl _ _ _ _ _ (heap_set4 HR4.out _ _ _ _)) rfl ⟨sc, x, hh, nx, am, nm, cm, ms, rfl, hx, (HOM.out.set4 hs3 _ _ _ _).mono (by omega), by omega, below_set4 HB4.out _ (Nat.le_refl _) _ _ _ _⟩

end Go.Proofs.Ytgaheamgkaipnaa

namespace Go.Proofs.Ytgaheamgkaipnaa
open Go.RowKit

def xr (xs ys : List Int) (i : Nat) : Int := bits .xor .u8 (xs.getD i 0) (ys.getD (i % ys.length) 0)
def xorTo (xs ys : List Int) (k : Nat) : List Int := (List.range xs.length).map fun i => if i < k then xr xs ys i else xs.getD i 0
def xorL (xs ys : List Int) : List Int := if ys = [] then xs else xorTo xs ys xs.length

theorem xr_byte {xs ys : List Int} (hx : ∀ k, 0 ≤ xs.getD k 0 ∧ xs.getD k 0 ≤ 255) (hy : ∀ k, 0 ≤ ys.getD k 0 ∧ ys.getD k 0 ≤ 255) (i : Nat) : 0 ≤ xr xs ys i ∧ xr xs ys i ≤ 255 := by
  unfold xr
  have h1 := hx i
  have h2 := hy (i % ys.length)
  rw [u8_xor _ _ h1.1 (by omega) h2.1 (by omega)]
  have : (xs.getD i 0).toNat ^^^ (ys.getD (i % ys.length) 0).toNat < 2 ^ 8 := Nat.xor_lt_two_pow (by omega) (by omega)
  omega
theorem xorTo_len (xs ys : List Int) (k : Nat) : (xorTo xs ys k).length = xs.length := by simp [xorTo]
theorem xorTo_zero (xs ys : List Int) : xorTo xs ys 0 = xs := by
  unfold xorTo
  apply List.ext_getElem
  · simp
  · intro i h1 h2; simp [h2]
theorem xorTo_get (xs ys : List Int) (k : Nat) (h : k < xs.length) : (xorTo xs ys k).getD k 0 = xs.getD k 0 := by simp [xorTo, h]
theorem xorTo_set (xs ys : List Int) (k : Nat) : (xorTo xs ys k).set k (xr xs ys k) = xorTo xs ys (k + 1) := by
  unfold xorTo
  apply List.ext_getElem
  · simp
  · intro i h1 h2
    simp at h1 h2
    rw [List.getElem_set]
    by_cases e : k = i
    · subst e; simp
    · rw [if_neg e]
      simp
      by_cases h3 : i < k
      · rw [if_pos h3, if_pos (by omega)]
      · rw [if_neg h3, if_neg (by omega)]

theorem own_heap {B : Nat} {w : World} {g n : Nat} {bs : List Int} (h : Own B w (some ⟨g, 0, none⟩) n n bs) : w.heap[g]? = some (.cells (bs.map (Value.int .u8)).toArray 5 (0, 0)) := by
  rcases h.row.2 with ⟨h', _⟩ | ⟨g', cap', cur, h', hb, hg, _, _, hsz, ht⟩
  · simp at h'
  · simp only [Value.slice.injEq, Option.some.injEq, Addr.mk.injEq, and_true, true_and] at h'
    obtain ⟨rfl, rfl⟩ := h'
    rw [List.take_of_length_le (by simp; omega)] at ht
    rw [hg, ← ht]
theorem own_of_heap {B : Nat} {w : World} {g n : Nat} {bs : List Int} (hB : B ≤ g) (hn : bs.length = n) (hm : n ≤ maxLen) (h : w.heap[g]? = some (.cells (bs.map (Value.int .u8)).toArray 5 (0, 0))) (hb : ∀ k, 0 ≤ bs.getD k 0 ∧ bs.getD k 0 ≤ 255) : Own B w (some ⟨g, 0, none⟩) n n bs :=
  ⟨⟨by simp [hn], .inr ⟨g, n, _, rfl, hB, h, Nat.le_refl _, hm, by simp [hn], List.take_of_length_le (by simp [hn])⟩⟩, hb⟩
theorem splice_all {α : Type} (L cs : List α) (h : cs.length = L.length) : splice L 0 cs = cs := by simp [splice, h]

theorem copy_src {w : World} {a : Option Addr} {n : Nat} {xs : List Int} {cs : List Value} (h : Row w a n xs) (hc : cs = xs.map (Value.int .u8)) (h0 : 0 < cs.length) : ∃ ad, a = some ad ∧ ∀ j v, cs[j]? = some v → w.cell? (ad.add j) = some v := by
  subst hc
  obtain ⟨b, off, rfl, _, _⟩ := h.get 0 (by rw [← h.len]; simpa using h0)
  exact ⟨_, rfl, row_cells h⟩

end Go.Proofs.Ytgaheamgkaipnaa

namespace Go.Proofs.Ytgaheamgkaipnaa
open Go.RowKit

theorem convert_row {w : World} {a : Option Addr} {n cap : Nat} {bs : List Int} (h : Row w a n bs) : (convert 22 9 (.slice a n cap)).run Try.prog w = .ok (.string (strOfNums bs)) w := by
  rcases Nat.eq_zero_or_pos n with h0 | h0
  · subst h0
    have hb : bs = [] := List.eq_nil_of_length_eq_zero h.len
    subst hb
    cases a with
    | none => exact run_convert_bytes_nil w 22 5 Try.underlying22 Try.underlying5 _ _ 9 Try.underlying9
    | some x =>
      rw [run_convert_bytes_string w 22 9 5 _ 0 cap Try.underlying22 Try.underlying5 Try.underlying9]
      rw [run_bytesToString w x 0 cap [] (by simpa using run_loadCells_list (P := Try.prog) w x ([] : List Value) (by simp))]
      rfl
  · obtain ⟨b, off, rfl, _, _⟩ := h.get 0 h0
    refine run_convert_bytes_arg w 22 5 Try.underlying22 Try.underlying5 b off n cap bs h.len (fun i hi => ?_) 9 Try.underlying9
    obtain ⟨b', off', ha, _, hc⟩ := h.get i hi
    simp at ha
    obtain ⟨rfl, rfl⟩ := ha
    exact hc

theorem strOfNums_inj {xs ys : List Int} (hx : ∀ k, 0 ≤ xs.getD k 0 ∧ xs.getD k 0 ≤ 255) (hy : ∀ k, 0 ≤ ys.getD k 0 ∧ ys.getD k 0 ≤ 255) (h : (strOfNums xs).data.toList = (strOfNums ys).data.toList) : xs = ys := by
  rw [strOfNums_data, strOfNums_data] at h
  have hl : xs.length = ys.length := by have := congrArg List.length h; simpa using this
  apply List.ext_getElem hl
  intro i h1 h2
  have e := congrArg (fun l => l[i]?) h
  simp only [List.getElem?_map, List.getElem?_eq_getElem h1, List.getElem?_eq_getElem h2, Option.map_some, Option.some.injEq] at e
  have e2 := congrArg UInt8.toNat e
  simp only [UInt8.toNat_ofNat'] at e2
  have bx := hx i
  have by' := hy i
  simp [h1] at bx
  simp [h2] at by'
  omega

set_option maxRecDepth 10000 in
set_option maxHeartbeats 400000 in
theorem copied_any (a : Option Addr) (n cap : Nat) (bs : List Int) (w : World) (h : Row w a n bs) (hnil : a = none → cap = 0) (hn : n ≤ 1000000000) :
    Calls Try.prog 33 #[.slice a n cap] w fun e w' => ∃ a' cap', e = .returned (.slice a' n cap') ∧ Own w.heap.size w' a' n cap' bs ∧ Below w.heap.size w w' := by
  obtain ⟨i0, hi, hz0, hz1, hz2⟩ := info_parts Try.info5
  have HX : Hid (Row w a n bs) := h
  have HB := h.byte
  have HN : Hid (a = none → cap = 0) := hnil
  clear h hnil
  have hoe : Own w.heap.size (w.alloc (.cells #[] 5)) (some ⟨w.heap.size, 0, none⟩) 0 0 [] := ⟨World.ownsRow_lit w #[] 0 (Nat.le_refl _) (Nat.zero_le _) rfl, by simp⟩
  have hbe : Below w.heap.size w (w.alloc (.cells #[] 5)) := (Below.refl _ _).alloc (Nat.le_refl _) _
  go_enter Try.func33, Try.ntmps33
  go_wp2_with (at_builtin; refine wpList_append_row _ rfl _ _ 22 rfl w.heap.size i0 Try.underlying22 hi hz0 hz1 hz2 _ _ _ rfl hoe.row a n cap bs rfl (HX.out.kept (by exact (Below.refl _ _).alloc (Nat.le_refl _) _)) HN.out (by omega) (by simp) ?_; intro v1 w1 hown1 hgrow1)
  obtain ⟨a1, cap1, rfl, ho1⟩ := own_appended (xs := []) (ys := bs) hown1 (by simp) HB
  have hb1 : Below w.heap.size w w1 := below_appended hbe (by simp) hoe.row hgrow1
  rw [Nat.zero_add] at ho1
  go_ret
  exact ⟨a1, cap1, by rw [Nat.zero_add]; rfl, ho1, hb1⟩

theorem bytes5 : ∀ k, 0 ≤ ([108, 105, 118, 101, 115] : List Int).getD k 0 ∧ ([108, 105, 118, 101, 115] : List Int).getD k 0 ≤ 255 := by
  intro k
  match k with
  | 0 | 1 | 2 | 3 | 4 => decide
  | k + 5 => simp
theorem lives_hash : (hashL [108, 105, 118, 101, 115] != 0) = true := by decide +kernel

theorem row_lives (w : World) : Row (w.alloc (.cells #[.int .u8 108, .int .u8 105, .int .u8 118, .int .u8 101, .int .u8 115] 5 (5, 6))) (some ⟨w.heap.size, 0, none⟩) 5 [108, 105, 118, 101, 115] := by
  refine ⟨rfl, fun k hk => ⟨w.heap.size, 0, rfl, by simp, ?_⟩, bytes5⟩
  rw [Nat.zero_add, cell_of_row _ w.heap.size k _ 5 (5, 6) (heap_alloc_new w _)]
  have hc : k = 0 ∨ k = 1 ∨ k = 2 ∨ k = 3 ∨ k = 4 := by omega
  rcases hc with rfl | rfl | rfl | rfl | rfl <;> rfl

set_option maxRecDepth 10000 in
set_option maxHeartbeats 400000 in
theorem lives_any (w : World) : Calls Try.prog 11 #[] w fun e w' => e = .returned (.bool true) ∧ Below w.heap.size w w' := by
  obtain ⟨h, hh⟩ : ∃ h, h = hashL [108, 105, 118, 101, 115] := ⟨_, rfl⟩
  have hl := lives_hash
  rw [← hh] at hl
  have HH : Hid (h = hashL [108, 105, 118, 101, 115]) := hh
  clear hh
  have hcv := Lib.run_convert_bytes_const (P := Try.prog) w 22 5 #[.int .u8 108, .int .u8 105, .int .u8 118, .int .u8 101, .int .u8 115] 5 5 Try.underlying22 Try.underlying5
  have e1 : (h == h) = true := by simp
  go_enter Try.func11, Try.ntmps11
  have ho := row_lives w
  have hb0 : Below w.heap.size w (w.alloc (.cells #[.int .u8 108, .int .u8 105, .int .u8 118, .int .u8 101, .int .u8 115] 5 (5, 6))) := (Below.refl _ _).alloc (Nat.le_refl _) _
  have HO : Hid (Row (w.alloc (.cells #[.int .u8 108, .int .u8 105, .int .u8 118, .int .u8 101, .int .u8 115] 5 (5, 6))) (some ⟨w.heap.size, 0, none⟩) 5 [108, 105, 118, 101, 115]) := ho
  clear ho
  go_wp2_with fail
  refine (implHash_any _ 5 5 _ _ HO.out (by decide)).mono ?_
  rintro e w1 ⟨rfl, hb1⟩
  rw [← HH.out]
  go_wp2_with fail
  refine (specHash_any _ 5 5 _ _ (HO.out.kept hb1) (by decide)).mono ?_
  rintro e w2 ⟨rfl, hw2⟩
  subst hw2
  rw [← HH.out]
  go_wp2_with fail
  refine (implHash_any _ 5 5 _ _ (HO.out.kept hb1) (by decide)).mono ?_
  rintro e w3 ⟨rfl, hb3⟩
  rw [← HH.out]
  go_wp2_with fail
  go_ret
  have z1 := hb0.size
  have z2 := hb1.size
  exact ⟨rfl, hb0.trans ((hb1.mono z1).trans (hb3.mono (by omega)))⟩

end Go.Proofs.Ytgaheamgkaipnaa

