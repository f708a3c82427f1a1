import Derived.Test.YtjkkokjojaknkaaDoorFA
import Derived.Test.YtjkkokjojaknkaaDoorG13
import Derived.Test.YtjkkokjojaknkaaDoorFC
namespace Go.Proofs.YtjkkokjojaknkaaDoor
open Go.RowKit

/-- A reader of a code, in the block g. -/
structure Rd (w : World) (g : Nat) (a : Option Addr) (n cap : Nat) (bs : List Int) : Prop where
  blk : ∃ p : Nat, p ≤ n ∧ w.heap[g]? = some (.cells #[.slice a n cap, .int .i64 p] 76 (0, 0))
  row : Row w a n bs
  sep : In a n 0 g
  len : n ≤ 1000000000

theorem Touch.drewN {lo hi : Nat} {w w' : World} (h : Touch lo hi w w') (k : Nat) : Touch lo hi w (w'.drewN k) := ⟨h.os, h.tape, h.output, h.size, h.block⟩
theorem Touch.same (lo hi : Nat) (w : World) : Touch lo hi w w := ⟨rfl, rfl, rfl, Nat.le_refl _, fun _ _ _ => rfl⟩
theorem Touch.setCell {lo hi : Nat} {w w' : World} (h : Touch lo hi w w') {p : Addr} (h1 : lo ≤ p.block) (h2 : p.block < hi) (u : Value) : Touch lo hi w (w'.setCell p u) :=
  ⟨h.os, h.tape, h.output, by simpa [World.setCell] using h.size, fun k hk ho => (Below.heap_setCell _ _ _ _ (by omega)).trans (h.block k hk ho)⟩

theorem Rd.touch {w w' : World} {g : Nat} {a : Option Addr} {n cap : Nat} {bs : List Int} (h : Rd w g a n cap bs) {lo hi : Nat} (ht : Touch lo hi w w') (hg : g < lo) : Rd w' g a n cap bs := by
  obtain ⟨p, hp, hb⟩ := h.blk
  exact ⟨⟨p, hp, (ht.block g (Array.getElem?_eq_some_iff.1 hb).1 (.inl hg)).trans hb⟩, h.row.touch h.sep (.inl (by omega)) ht, h.sep, h.len⟩
theorem Rd.kept {w w' : World} {g : Nat} {a : Option Addr} {n cap : Nat} {bs : List Int} (h : Rd w g a n cap bs) (hb : Below w.heap.size w w') : Rd w' g a n cap bs := by
  obtain ⟨p, hp, hbl⟩ := h.blk
  exact ⟨⟨p, hp, (hb.block g (Array.getElem?_eq_some_iff.1 hbl).1).trans hbl⟩, h.row.kept hb, h.sep, h.len⟩
theorem Rd.lt {w : World} {g : Nat} {a : Option Addr} {n cap : Nat} {bs : List Int} (h : Rd w g a n cap bs) : g < w.heap.size := by
  obtain ⟨p, _, hb⟩ := h.blk
  exact (Array.getElem?_eq_some_iff.1 hb).1

theorem rd_cell0 {w : World} {g : Nat} {x y : Value} {t : TypeId} (h : w.heap[g]? = some (.cells #[x, y] t (0, 0))) : w.cell? ⟨g, 0, none⟩ = some x := by rw [cell_of_row w g 0 _ t (0, 0) h]; rfl
theorem rd_cell1 {w : World} {g : Nat} {x y : Value} {t : TypeId} (h : w.heap[g]? = some (.cells #[x, y] t (0, 0))) : w.cell? ⟨g, 1, none⟩ = some y := by rw [cell_of_row w g 1 _ t (0, 0) h]; rfl
theorem rd_frozen {w : World} {g : Nat} {x y : Value} {t : TypeId} (h : w.heap[g]? = some (.cells #[x, y] t (0, 0))) (j : Nat) : w.frozen? ⟨g, j, none⟩ = false := frozen_of_row w g j _ t h

theorem rd_step_touch (w : World) (g k k' : Nat) (u : Value) : Touch g (g + 1) w (((w.drewN k).setCell ⟨g, 1, none⟩ u).drewN k') :=
  (Touch.setCell (p := ⟨g, 1, none⟩) ((Touch.same g (g + 1) w).drewN k) (Nat.le_refl g) (Nat.lt_succ_self g) u).drewN k'
theorem rd_step {w : World} {g : Nat} {a : Option Addr} {n cap : Nat} {bs : List Int} (h : Rd w g a n cap bs) {p : Nat} (hb : w.heap[g]? = some (.cells #[.slice a n cap, .int .i64 p] 76 (0, 0))) (hp : p < n) (k k' : Nat) :
    Rd (((w.drewN k).setCell ⟨g, 1, none⟩ (.int .i64 ((p : Int) + 1))).drewN k') g a n cap bs := by
  refine ⟨⟨p + 1, hp, ?_⟩, h.row.touch h.sep (.inl (Nat.le_refl _)) (rd_step_touch w g k k' _), h.sep, h.len⟩
  have := heap_setCell_same (w.drewN k) g 1 #[.slice a n cap, .int .i64 p] 76 (.int .i64 ((p : Int) + 1)) hb
  exact this

set_option maxRecDepth 10000 in
set_option maxHeartbeats 1000000 in
theorem next_any (g : Nat) (a : Option Addr) (n cap : Nat) (bs : List Int) (w : World) (h : Rd w g a n cap bs) :
    Calls Tryd.prog 53 #[.pointer (some ⟨g, 0, none⟩)] w fun e w' => ∃ v : Int, e = .returned (.int .i64 v) ∧ 0 ≤ v ∧ v ≤ 255 ∧ Rd w' g a n cap bs ∧ Touch g (g + 1) w w' := by
  obtain ⟨p, hp, hb⟩ := h.blk
  have hn := h.len
  have c0 := rd_cell0 hb
  have c1 := rd_cell1 hb
  have f1 := rd_frozen hb 1
  have H : Hid (Rd w g a n cap bs) := h
  have HBk : Hid (w.heap[g]? = some (.cells #[.slice a n cap, .int .i64 p] 76 (0, 0))) := hb
  clear h hb
  by_cases hlt : p < n
  · obtain ⟨b, off, rfl, hbb, hc⟩ := H.out.row.get p hlt
    have hbg : b < g := (H.out.sep b off rfl (by omega)).2
    have hbne : b ≠ g := by omega
    obtain ⟨x, hx⟩ : ∃ x, x = bs.getD p 0 := ⟨_, rfl⟩
    have hxb := H.out.row.byte p
    rw [← hx] at hc hxb
    obtain ⟨hx0, hx1⟩ := hxb
    clear hx
    have hlti : (p : Int) < (n : Int) := by omega
    go_enter Tryd.func53, Tryd.ntmps53
    go_wp2
    go_quiet (fail)
    go_wp2
    go_quiet (fail)
    go_wp2
    go_ret
    exact ⟨x, rfl, hx0, hx1, rd_step H.out HBk.out hlt _ _, rd_step_touch _ _ _ _ _⟩
  · have hge : (n : Int) ≤ (p : Int) := by omega
    go_enter Tryd.func53, Tryd.ntmps53
    go_wp2
    go_quiet (fail)
    go_wp2
    go_ret
    exact ⟨0, rfl, by decide, by decide, H.out.kept (below_drewN (Below.refl _ _) nq), (Touch.same _ _ _).drewN nq⟩

/-- What a reader's methods leave. -/
def RdPost (w : World) (g : Nat) (a : Option Addr) (n cap : Nat) (bs : List Int) (w' : World) : Prop := Rd w' g a n cap bs ∧ Touch g (g + 1) w w'

set_option maxRecDepth 10000 in
set_option maxHeartbeats 1000000 in
theorem below_any (g : Nat) (a : Option Addr) (n cap : Nat) (bs : List Int) (m : Int) (w : World) (h : Rd w g a n cap bs) (hm : m ≤ 100000) :
    Calls Tryd.prog 35 #[.pointer (some ⟨g, 0, none⟩), .int .i64 m] w fun e w' => ∃ v : Int, e = .returned (.int .i64 v) ∧ 0 ≤ v ∧ (v < m ∨ v = 0) ∧ RdPost w g a n cap bs w' := by
  have H : Hid (Rd w g a n cap bs) := h
  clear h
  by_cases h1 : m ≤ 1
  · go_enter Tryd.func35, Tryd.ntmps35
    go_wp2
    go_ret
    exact ⟨0, rfl, by decide, .inr rfl, H.out, Touch.same _ _ _⟩
  · by_cases h2 : m ≤ 256
    · go_enter Tryd.func35, Tryd.ntmps35
      go_wp2_with fail
      refine (next_any g a n cap bs _ H.out).mono ?_
      rintro e w1 ⟨v, rfl, hv0, hv1, hr1, ht1⟩
      go_wp2
      go_ret
      exact ⟨v % m, rfl, Int.emod_nonneg _ (by omega), .inl (Int.emod_lt_of_pos _ (by omega)), hr1, ht1⟩
    · go_enter Tryd.func35, Tryd.ntmps35
      go_wp2_with fail
      refine (next_any g a n cap bs _ H.out).mono ?_
      rintro e w1 ⟨v, rfl, hv0, hv1, hr1, ht1⟩
      go_wp2_with fail
      refine (next_any g a n cap bs _ hr1).mono ?_
      rintro e w2 ⟨v2, rfl, hv20, hv21, hr2, ht2⟩
      go_wp2
      go_ret
      exact ⟨(v * 256 + v2) % m, rfl, Int.emod_nonneg _ (by omega), .inl (Int.emod_lt_of_pos _ (by omega)), hr2, ht1.trans ht2⟩

theorem bits_u64_range (op : BinOp) (x y : Int) : 0 ≤ bits op .u64 x y ∧ bits op .u64 x y ≤ 18446744073709551615 := by
  unfold bits
  simp only [IntKind.wrap_u64]
  omega

theorem RdPost.step {w w1 w2 : World} {g : Nat} {a : Option Addr} {n cap : Nat} {bs : List Int} (h : RdPost w g a n cap bs w1) (k : RdPost w1 g a n cap bs w2) : RdPost w g a n cap bs w2 := ⟨k.1, h.2.trans k.2⟩
theorem RdPost.alloc {w w1 : World} {g : Nat} {a : Option Addr} {n cap : Nat} {bs : List Int} (h : RdPost w g a n cap bs w1) (o : Obj) : RdPost w g a n cap bs (w1.alloc o) :=
  have hb : Below w1.heap.size w1 (w1.alloc o) := (Below.refl _ _).alloc (Nat.le_refl _) o
  ⟨h.1.kept hb, h.2.trans (Touch.of_below hb)⟩

def edges : List Int := [0, 1, -1, 127, 128, 16383, 16384, 4611686018427387903, 4611686018427387904, 9223372036854775807, -9223372036854775808, 2147483648]
theorem edges_range (k : Nat) : -9223372036854775808 ≤ edges.getD k 0 ∧ edges.getD k 0 ≤ 9223372036854775807 := by
  match k with
  | 0 | 1 | 2 | 3 | 4 | 5 | 6 | 7 | 8 | 9 | 10 | 11 => decide
  | k + 12 => simp [edges]
theorem wrap64_range (n : Int) : -9223372036854775808 ≤ wrap64 n ∧ wrap64 n ≤ 9223372036854775807 := by unfold wrap64; omega
theorem edge_cell (w : World) (k : Nat) (h : k < 12) : (w.alloc (.cells #[.int .i64 0, .int .i64 1, .int .i64 (-1), .int .i64 127, .int .i64 128, .int .i64 16383, .int .i64 16384, .int .i64 4611686018427387903, .int .i64 4611686018427387904, .int .i64 9223372036854775807, .int .i64 (-9223372036854775808), .int .i64 2147483648] 2)).cell? ⟨w.heap.size, k, none⟩ = some (.int .i64 (edges.getD k 0)) := by
  rw [cell_of_row _ w.heap.size k _ 2 (0, 0) (heap_alloc_new w _)]
  have hc : k = 0 ∨ k = 1 ∨ k = 2 ∨ k = 3 ∨ k = 4 ∨ k = 5 ∨ k = 6 ∨ k = 7 ∨ k = 8 ∨ k = 9 ∨ k = 10 ∨ k = 11 := by omega
  rcases hc with rfl | rfl | rfl | rfl | rfl | rfl | rfl | rfl | rfl | rfl | rfl | rfl <;> rfl

set_option maxRecDepth 10000 in
set_option maxHeartbeats 400000 in
theorem open_any (a : Option Addr) (n cap : Nat) (bs : List Int) (w : World) (h : Row w a n bs) (hn : n ≤ 1000000000) :
    Calls Tryd.prog 31 #[.slice a n cap] w fun e w' => e = .returned (.pointer (some ⟨w.heap.size, 0, none⟩)) ∧ Rd w' w.heap.size a n cap bs ∧ Below w.heap.size w w' := by
  have H : Hid (Row w a n bs) := h
  clear h
  go_enter Tryd.func31, Tryd.ntmps31
  go_wp2
  go_ret
  have hb : Below w.heap.size w (w.alloc (.cells #[.slice a n cap, .int .i64 0] 76)) := (Below.refl _ _).alloc (Nat.le_refl _) _
  exact ⟨rfl, ⟨⟨0, Nat.zero_le _, heap_alloc_new w _⟩, H.out.kept hb, H.out.in_, hn⟩, hb⟩

/-- A reader opened behind w: what it has touched is new. -/
theorem RdPost.below {w w1 w2 : World} {a : Option Addr} {n cap : Nat} {bs : List Int} (hb : Below w.heap.size w w1) (h : RdPost w1 w.heap.size a n cap bs w2) : Below w.heap.size w w2 :=
  hb.trans (h.2.below (Nat.le_refl _) hb.size)

end Go.Proofs.YtjkkokjojaknkaaDoor

namespace Go.Proofs.YtjkkokjojaknkaaDoor
open Go.RowKit

set_option maxRecDepth 10000 in
set_option maxHeartbeats 400000 in
theorem once_any (g : Nat) (a : Option Addr) (n cap : Nat) (bs : List Int) (m : Int) (w : World) (h : Rd w g a n cap bs) (hm0 : 0 ≤ m) (hm : m ≤ 100000) :
    Calls Tryd.prog 33 #[.pointer (some ⟨g, 0, none⟩), .int .i64 m] w fun e w' => ∃ v : Bool, e = .returned (.bool v) ∧ RdPost w g a n cap bs w' := by
  have H : Hid (Rd w g a n cap bs) := h
  clear h
  go_enter Tryd.func33, Tryd.ntmps33
  go_wp2_with fail
  refine (below_any g a n cap bs m _ H.out hm).mono ?_
  rintro e w1 ⟨v, rfl, hv0, hv1, hp⟩
  go_wp2
  go_ret
  exact ⟨_, rfl, hp⟩

theorem RdPost.grown {w w1 w2 : World} {g : Nat} {a : Option Addr} {n cap : Nat} {bs : List Int} {lo hi : Nat} (h : RdPost w g a n cap bs w1) (ht : Touch lo hi w1 w2) (hg : g < lo) (hlo : w.heap.size ≤ lo) : RdPost w g a n cap bs w2 :=
  ⟨h.1.touch ht hg, ⟨ht.os.trans h.2.os, ht.tape.trans h.2.tape, ht.output.trans h.2.output, Nat.le_trans h.2.size ht.size, fun k hk ho => (ht.block k (Nat.lt_of_lt_of_le hk h.2.size) (.inl (by omega))).trans (h.2.block k hk ho)⟩⟩

theorem owns_touch {w w' : World} {B e s n lo hi : Nat} {v : Value} {xs : List Value} (h : w.ownsRow B e s v n xs) (ht : Touch lo hi w w') (hd : hi ≤ B) : w'.ownsRow B e s v n xs := by
  refine ⟨h.1, ?_⟩
  rcases h.2 with hn | ⟨g, cap, cur, rfl, hb, hg, rest⟩
  · exact .inl hn
  · exact .inr ⟨g, cap, cur, rfl, hb, (ht.block g (Array.getElem?_eq_some_iff.1 hg).1 (.inr (by omega))).trans hg, rest⟩
theorem Own.touched {w w' : World} {B lo hi : Nat} {a : Option Addr} {n cap : Nat} {bs : List Int} (h : Own B w a n cap bs) (ht : Touch lo hi w w') (hd : hi ≤ B) : Own B w' a n cap bs := ⟨owns_touch h.row ht hd, h.byte⟩
theorem touch_grown {w w' : World} {r : Option Nat} {lo hi : Nat} (hg : w.grownBy w' r) (hr : ∀ k, r = some k → lo ≤ k ∧ k < hi) : Touch lo hi w w' :=
  ⟨hg.os, hg.tape, hg.output, hg.size, fun k hk ho => hg.block k hk (fun e => by have := hr k e.symm; omega)⟩

set_option maxRecDepth 10000 in
set_option maxHeartbeats 1000000 in
theorem bytes_any (g : Nat) (a : Option Addr) (n cap : Nat) (bs : List Int) (m : Int) (w : World) (h : Rd w g a n cap bs) (hm0 : 0 ≤ m) (hm : m ≤ 1000) :
    Calls Tryd.prog 50 #[.pointer (some ⟨g, 0, none⟩), .int .i64 m] w fun e w' => ∃ (a' : Option Addr) (k c' : Nat) (xs : List Int), e = .returned (.slice a' k c') ∧ (k : Int) ≤ m ∧ Own w.heap.size w' a' k c' xs ∧ RdPost w g a n cap bs w' := by
  obtain ⟨i0, hi, hz0, hz1, hz2⟩ := info_parts Tryd.info5
  have H : Hid (Rd w g a n cap bs) := h
  have hgw := h.lt
  clear h
  go_enter Tryd.func50, Tryd.ntmps50
  go_wp2_with fail
  refine (below_any g a n cap bs (m + 1) _ H.out (by omega)).mono ?_
  rintro e w1 ⟨v, rfl, hv0, hv1, hp1⟩
  obtain ⟨u, rfl⟩ := Int.eq_ofNat_of_zero_le hv0
  have hum : (u : Int) ≤ m := by omega
  have hs1 := hp1.2.size
  have hoe : Own w.heap.size (w1.alloc (.cells #[] 5)) (some ⟨w1.heap.size, 0, none⟩) 0 0 [] := ⟨World.ownsRow_lit w1 #[] 0 hs1 (Nat.zero_le _) rfl, by simp⟩
  have hpe := hp1.alloc (.cells #[] 5)
  clear hp1
  go_wp2
  go_loopw [6, 7] (fun o i wr => ∃ (k c' : Nat) (a' : Option Addr) (xs : List Int), k ≤ u ∧ i = .int .i64 k ∧ o = .slice a' k c' ∧ Own w.heap.size wr a' k c' xs ∧ RdPost w g a n cap bs wr) (fun _ i _ => u - (intOf i).toNat)
  case atStart => exact ⟨0, 0, _, [], Nat.zero_le _, rfl, rfl, hoe, hpe⟩
  case round =>
    obtain ⟨k, c', a', xs, hk, rfl, rfl, hor, hpr⟩ := hrel
    have hsr := hpr.2.size
    by_cases hlt : k < u
    · go_wp2_with fail
      refine (next_any g a n cap bs _ hpr.1).mono ?_
      rintro e w2 ⟨x, rfl, hx0, hx1, hr2, ht2⟩
      have hor2 := hor.touched ht2 (by omega)
      have hp2 : RdPost w g a n cap bs w2 := ⟨hr2, hpr.2.trans ht2⟩
      have hs2 := ht2.size
      clear hor hpr hr2 ht2
      go_wp2_with (at_builtin; refine wpList_append_own _ rfl _ _ 22 rfl w.heap.size 5 i0 (.int .u8 0) 1 1 Tryd.underlying22 hi hz0 hz1 hz2 rfl (by decide) _ _ _ rfl (hor2.row.alloc _) ⟨w2.heap.size, 0, none⟩ 1 1 [_] rfl rfl (cell_one_new _ _ _) (by intro u hu; simp at hu; subst hu; rfl) (by unfold maxLen; omega) (by omega) (by simp; omega) ?_; intro v' w3 hown' hgrow' _)
      obtain ⟨a3, c3, rfl, ho3⟩ := own_appended (ys := [x]) hown' hor2.byte (by simpa using snoc_byte (xs := []) (by simp) x ⟨hx0, hx1⟩)
      have hT : Touch w.heap.size (w2.heap.size + 1) (w2.alloc (.cells #[.int .u8 x] 5)) w3 := touch_grown hgrow' (fun k hk => by have := (hor2.row.lt k hk); omega)
      have hp3 := (hp2.alloc (.cells #[.int .u8 x] 5)).grown hT hgw (Nat.le_refl _)
      go_roundw
      case rel => exact ⟨k + 1, c3, a3, xs ++ [x], by omega, by go_num, rfl, ho3, hp3⟩
      case measure => simp [intOf]; omega
    · have hku : k = u := by omega
      subst hku
      go_wp2
      go_ret
      exact ⟨a', k, c', xs, rfl, hum, hor, hpr⟩

end Go.Proofs.YtjkkokjojaknkaaDoor
