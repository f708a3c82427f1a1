import Derived.Test.YtflioloegppnmaaW1
import Derived.Test.YtflioloegppnmaaTouch
import Derived.Test.YtflioloegppnmaaWApp
import Derived.Test.YtflioloegppnmaaMTc
import Derived.Test.YtflioloegppnmaaMTb
import Derived.Deep.RegionHeldLaw
import Derived.Test.YtflioloegppnmaaBase
import Derived.Test.YtflioloegppnmaaW4
import Derived.Lib.SlBytesConst
namespace Go.Proofs.Ytflioloegppnmaa
open Go.RowKit

/-- A reader of a code, in the block g. -/
structure Rd (w : World) (g : Nat) (a : Option Addr) (n cap : Nat) (bs : List Int) : Prop where
  blk : ∃ p : Nat, p ≤ n ∧ w.heap[g]? = some (.cells #[.slice a n cap, .int .i64 p] 53 (0, 0))
  row : Row w a n bs
  sep : In a n 0 g
  len : n ≤ 1000000000

theorem Touch.drewN {lo hi : Nat} {w w' : World} (h : Touch lo hi w w') (k : Nat) : Touch lo hi w (w'.drewN k) := ⟨h.os, h.tape, h.output, h.size, h.block⟩
theorem Touch.same (lo hi : Nat) (w : World) : Touch lo hi w w := ⟨rfl, rfl, rfl, Nat.le_refl _, fun _ _ _ => rfl⟩
theorem Touch.setCell {lo hi : Nat} {w w' : World} (h : Touch lo hi w w') {p : Addr} (h1 : lo ≤ p.block) (h2 : p.block < hi) (u : Value) : Touch lo hi w (w'.setCell p u) :=
  ⟨h.os, h.tape, h.output, by simpa [World.setCell] using h.size, fun k hk ho => (Below.heap_setCell _ _ _ _ (by omega)).trans (h.block k hk ho)⟩

theorem Rd.touch {w w' : World} {g : Nat} {a : Option Addr} {n cap : Nat} {bs : List Int} (h : Rd w g a n cap bs) {lo hi : Nat} (ht : Touch lo hi w w') (hg : g < lo) : Rd w' g a n cap bs := by
  obtain ⟨p, hp, hb⟩ := h.blk
  exact ⟨⟨p, hp, (ht.block g (Array.getElem?_eq_some_iff.1 hb).1 (.inl hg)).trans hb⟩, h.row.touch h.sep (.inl (by omega)) ht, h.sep, h.len⟩
theorem Rd.kept {w w' : World} {g : Nat} {a : Option Addr} {n cap : Nat} {bs : List Int} (h : Rd w g a n cap bs) (hb : Below w.heap.size w w') : Rd w' g a n cap bs := by
  obtain ⟨p, hp, hbl⟩ := h.blk
  exact ⟨⟨p, hp, (hb.block g (Array.getElem?_eq_some_iff.1 hbl).1).trans hbl⟩, h.row.kept hb, h.sep, h.len⟩
theorem Rd.lt {w : World} {g : Nat} {a : Option Addr} {n cap : Nat} {bs : List Int} (h : Rd w g a n cap bs) : g < w.heap.size := by
  obtain ⟨p, _, hb⟩ := h.blk
  exact (Array.getElem?_eq_some_iff.1 hb).1

theorem rd_cell0 {w : World} {g : Nat} {x y : Value} {t : TypeId} (h : w.heap[g]? = some (.cells #[x, y] t (0, 0))) : w.cell? ⟨g, 0, none⟩ = some x := by rw [cell_of_row w g 0 _ t (0, 0) h]; rfl
theorem rd_cell1 {w : World} {g : Nat} {x y : Value} {t : TypeId} (h : w.heap[g]? = some (.cells #[x, y] t (0, 0))) : w.cell? ⟨g, 1, none⟩ = some y := by rw [cell_of_row w g 1 _ t (0, 0) h]; rfl
theorem rd_frozen {w : World} {g : Nat} {x y : Value} {t : TypeId} (h : w.heap[g]? = some (.cells #[x, y] t (0, 0))) (j : Nat) : w.frozen? ⟨g, j, none⟩ = false := frozen_of_row w g j _ t h

theorem rd_step_touch (w : World) (g k k' : Nat) (u : Value) : Touch g (g + 1) w (((w.drewN k).setCell ⟨g, 1, none⟩ u).drewN k') :=
  (Touch.setCell (p := ⟨g, 1, none⟩) ((Touch.same g (g + 1) w).drewN k) (Nat.le_refl g) (Nat.lt_succ_self g) u).drewN k'
theorem rd_step {w : World} {g : Nat} {a : Option Addr} {n cap : Nat} {bs : List Int} (h : Rd w g a n cap bs) {p : Nat} (hb : w.heap[g]? = some (.cells #[.slice a n cap, .int .i64 p] 53 (0, 0))) (hp : p < n) (k k' : Nat) :
    Rd (((w.drewN k).setCell ⟨g, 1, none⟩ (.int .i64 ((p : Int) + 1))).drewN k') g a n cap bs := by
  refine ⟨⟨p + 1, hp, ?_⟩, h.row.touch h.sep (.inl (Nat.le_refl _)) (rd_step_touch w g k k' _), h.sep, h.len⟩
  have := heap_setCell_same (w.drewN k) g 1 #[.slice a n cap, .int .i64 p] 53 (.int .i64 ((p : Int) + 1)) hb
  exact this

set_option maxHeartbeats 1000000 in
theorem next_any (g : Nat) (a : Option Addr) (n cap : Nat) (bs : List Int) (w : World) (h : Rd w g a n cap bs) :
    Calls Try.prog 24 #[.pointer (some ⟨g, 0, none⟩)] w fun e w' => ∃ v : Int, e = .returned (.int .i64 v) ∧ 0 ≤ v ∧ v ≤ 255 ∧ Rd w' g a n cap bs ∧ Touch g (g + 1) w w' := by
  obtain ⟨p, hp, hb⟩ := h.blk
  have hn := h.len
  have c0 := rd_cell0 hb
  have c1 := rd_cell1 hb
  have f1 := rd_frozen hb 1
  have H : Hid (Rd w g a n cap bs) := h
  have HBk : Hid (w.heap[g]? = some (.cells #[.slice a n cap, .int .i64 p] 53 (0, 0))) := hb
  clear h hb
  by_cases hlt : p < n
  · obtain ⟨b, off, rfl, hbb, hc⟩ := H.out.row.get p hlt
    have hbg : b < g := (H.out.sep b off rfl (by omega)).2
    have hbne : b ≠ g := by omega
    obtain ⟨x, hx⟩ : ∃ x, x = bs.getD p 0 := ⟨_, rfl⟩
    have hxb := H.out.row.byte p
    rw [← hx] at hc hxb
    obtain ⟨hx0, hx1⟩ := hxb
    clear hx
    have hlti : (p : Int) < (n : Int) := by omega
    go_enter Try.func24, Try.ntmps24
    go_wp2
    go_quiet (fail)
    go_wp2
    go_quiet (fail)
    go_wp2
    go_ret
    exact ⟨x, rfl, hx0, hx1, rd_step H.out HBk.out hlt _ _, rd_step_touch _ _ _ _ _⟩
  · have hge : (n : Int) ≤ (p : Int) := by omega
    go_enter Try.func24, Try.ntmps24
    go_wp2
    go_quiet (fail)
    go_wp2
    go_ret
    exact ⟨0, rfl, by decide, by decide, H.out.kept (below_drewN (Below.refl _ _) nq), (Touch.same _ _ _).drewN nq⟩

/-- What a reader's methods leave. -/
def RdPost (w : World) (g : Nat) (a : Option Addr) (n cap : Nat) (bs : List Int) (w' : World) : Prop := Rd w' g a n cap bs ∧ Touch g (g + 1) w w'

set_option maxHeartbeats 1000000 in
theorem below_any (g : Nat) (a : Option Addr) (n cap : Nat) (bs : List Int) (m : Int) (w : World) (h : Rd w g a n cap bs) (hm : m ≤ 100000) :
    Calls Try.prog 13 #[.pointer (some ⟨g, 0, none⟩), .int .i64 m] w fun e w' => ∃ v : Int, e = .returned (.int .i64 v) ∧ 0 ≤ v ∧ (v < m ∨ v = 0) ∧ RdPost w g a n cap bs w' := by
  have H : Hid (Rd w g a n cap bs) := h
  clear h
  by_cases h1 : m ≤ 1
  · go_enter Try.func13, Try.ntmps13
    go_wp2
    go_ret
    exact ⟨0, rfl, by decide, .inr rfl, H.out, Touch.same _ _ _⟩
  · by_cases h2 : m ≤ 256
    · go_enter Try.func13, Try.ntmps13
      go_wp2_with fail
      refine (next_any g a n cap bs _ H.out).mono ?_
      rintro e w1 ⟨v, rfl, hv0, hv1, hr1, ht1⟩
      go_wp2
      go_ret
      exact ⟨v % m, rfl, Int.emod_nonneg _ (by omega), .inl (Int.emod_lt_of_pos _ (by omega)), hr1, ht1⟩
    · go_enter Try.func13, Try.ntmps13
      go_wp2_with fail
      refine (next_any g a n cap bs _ H.out).mono ?_
      rintro e w1 ⟨v, rfl, hv0, hv1, hr1, ht1⟩
      go_wp2_with fail
      refine (next_any g a n cap bs _ hr1).mono ?_
      rintro e w2 ⟨v2, rfl, hv20, hv21, hr2, ht2⟩
      go_wp2
      go_ret
      exact ⟨(v * 256 + v2) % m, rfl, Int.emod_nonneg _ (by omega), .inl (Int.emod_lt_of_pos _ (by omega)), hr2, ht1.trans ht2⟩

theorem bits_u64_range (op : BinOp) (x y : Int) : 0 ≤ bits op .u64 x y ∧ bits op .u64 x y ≤ 18446744073709551615 := by
  unfold bits
  simp only [IntKind.wrap_u64]
  omega

theorem RdPost.step {w w1 w2 : World} {g : Nat} {a : Option Addr} {n cap : Nat} {bs : List Int} (h : RdPost w g a n cap bs w1) (k : RdPost w1 g a n cap bs w2) : RdPost w g a n cap bs w2 := ⟨k.1, h.2.trans k.2⟩
theorem RdPost.alloc {w w1 : World} {g : Nat} {a : Option Addr} {n cap : Nat} {bs : List Int} (h : RdPost w g a n cap bs w1) (o : Obj) : RdPost w g a n cap bs (w1.alloc o) :=
  have hb : Below w1.heap.size w1 (w1.alloc o) := (Below.refl _ _).alloc (Nat.le_refl _) o
  ⟨h.1.kept hb, h.2.trans (Touch.of_below hb)⟩

def edges : List Int := [0, 1, -1, 127, 128, 16383, 16384, 4611686018427387903, 4611686018427387904, 9223372036854775807, -9223372036854775808, 2147483648]
theorem edges_range (k : Nat) : -9223372036854775808 ≤ edges.getD k 0 ∧ edges.getD k 0 ≤ 9223372036854775807 := by
  match k with
  | 0 | 1 | 2 | 3 | 4 | 5 | 6 | 7 | 8 | 9 | 10 | 11 => decide
  | k + 12 => simp [edges]
theorem wrap64_range (n : Int) : -9223372036854775808 ≤ wrap64 n ∧ wrap64 n ≤ 9223372036854775807 := by unfold wrap64; omega
theorem edge_cell (w : World) (k : Nat) (h : k < 12) : (w.alloc (.cells #[.int .i64 0, .int .i64 1, .int .i64 (-1), .int .i64 127, .int .i64 128, .int .i64 16383, .int .i64 16384, .int .i64 4611686018427387903, .int .i64 4611686018427387904, .int .i64 9223372036854775807, .int .i64 (-9223372036854775808), .int .i64 2147483648] 2)).cell? ⟨w.heap.size, k, none⟩ = some (.int .i64 (edges.getD k 0)) := by
  rw [cell_of_row _ w.heap.size k _ 2 (0, 0) (heap_alloc_new w _)]
  have hc : k = 0 ∨ k = 1 ∨ k = 2 ∨ k = 3 ∨ k = 4 ∨ k = 5 ∨ k = 6 ∨ k = 7 ∨ k = 8 ∨ k = 9 ∨ k = 10 ∨ k = 11 := by omega
  rcases hc with rfl | rfl | rfl | rfl | rfl | rfl | rfl | rfl | rfl | rfl | rfl | rfl <;> rfl

set_option maxHeartbeats 400000 in
theorem open_any (a : Option Addr) (n cap : Nat) (bs : List Int) (w : World) (h : Row w a n bs) (hn : n ≤ 1000000000) :
    Calls Try.prog 11 #[.slice a n cap] w fun e w' => e = .returned (.pointer (some ⟨w.heap.size, 0, none⟩)) ∧ Rd w' w.heap.size a n cap bs ∧ Below w.heap.size w w' := by
  have H : Hid (Row w a n bs) := h
  clear h
  go_enter Try.func11, Try.ntmps11
  go_wp2
  go_ret
  have hb : Below w.heap.size w (w.alloc (.cells #[.slice a n cap, .int .i64 0] 53)) := (Below.refl _ _).alloc (Nat.le_refl _) _
  exact ⟨rfl, ⟨⟨0, Nat.zero_le _, heap_alloc_new w _⟩, H.out.kept hb, H.out.in_, hn⟩, hb⟩

/-- A reader opened behind w: what it has touched is new. -/
theorem RdPost.below {w w1 w2 : World} {a : Option Addr} {n cap : Nat} {bs : List Int} (hb : Below w.heap.size w w1) (h : RdPost w1 w.heap.size a n cap bs w2) : Below w.heap.size w w2 :=
  hb.trans (h.2.below (Nat.le_refl _) hb.size)

end Go.Proofs.Ytflioloegppnmaa

namespace Go.Proofs.Ytflioloegppnmaa
open Go.RowKit

set_option maxHeartbeats 400000 in
theorem once_any (g : Nat) (a : Option Addr) (n cap : Nat) (bs : List Int) (m : Int) (w : World) (h : Rd w g a n cap bs) (hm0 : 0 ≤ m) (hm : m ≤ 100000) :
    Calls Try.prog 14 #[.pointer (some ⟨g, 0, none⟩), .int .i64 m] w fun e w' => ∃ v : Bool, e = .returned (.bool v) ∧ RdPost w g a n cap bs w' := by
  have H : Hid (Rd w g a n cap bs) := h
  clear h
  go_enter Try.func14, Try.ntmps14
  go_wp2_with fail
  refine (below_any g a n cap bs m _ H.out hm).mono ?_
  rintro e w1 ⟨v, rfl, hv0, hv1, hp⟩
  go_wp2
  go_ret
  exact ⟨_, rfl, hp⟩

theorem RdPost.grown {w w1 w2 : World} {g : Nat} {a : Option Addr} {n cap : Nat} {bs : List Int} {lo hi : Nat} (h : RdPost w g a n cap bs w1) (ht : Touch lo hi w1 w2) (hg : g < lo) (hlo : w.heap.size ≤ lo) : RdPost w g a n cap bs w2 :=
  ⟨h.1.touch ht hg, ⟨ht.os.trans h.2.os, ht.tape.trans h.2.tape, ht.output.trans h.2.output, Nat.le_trans h.2.size ht.size, fun k hk ho => (ht.block k (Nat.lt_of_lt_of_le hk h.2.size) (.inl (by omega))).trans (h.2.block k hk ho)⟩⟩

theorem owns_touch {w w' : World} {B e s n lo hi : Nat} {v : Value} {xs : List Value} (h : w.ownsRow B e s v n xs) (ht : Touch lo hi w w') (hd : hi ≤ B) : w'.ownsRow B e s v n xs := by
  refine ⟨h.1, ?_⟩
  rcases h.2 with hn | ⟨g, cap, cur, rfl, hb, hg, rest⟩
  · exact .inl hn
  · exact .inr ⟨g, cap, cur, rfl, hb, (ht.block g (Array.getElem?_eq_some_iff.1 hg).1 (.inr (by omega))).trans hg, rest⟩
theorem Own.touched {w w' : World} {B lo hi : Nat} {a : Option Addr} {n cap : Nat} {bs : List Int} (h : Own B w a n cap bs) (ht : Touch lo hi w w') (hd : hi ≤ B) : Own B w' a n cap bs := ⟨owns_touch h.row ht hd, h.byte⟩
theorem touch_grown {w w' : World} {r : Option Nat} {lo hi : Nat} (hg : w.grownBy w' r) (hr : ∀ k, r = some k → lo ≤ k ∧ k < hi) : Touch lo hi w w' :=
  ⟨hg.os, hg.tape, hg.output, hg.size, fun k hk ho => hg.block k hk (fun e => by have := hr k e.symm; omega)⟩

end Go.Proofs.Ytflioloegppnmaa

namespace Go.Proofs.Ytflioloegppnmaa
open Go.RowKit Go.Sort

theorem OwnU.touched {w w' : World} {B lo hi : Nat} {a : Option Addr} {n cap : Nat} {zs : List Int} (h : OwnU B w a n cap zs) (ht : Touch lo hi w w') (hd : hi ≤ B) : OwnU B w' a n cap zs := ⟨owns_touch h.row ht hd, h.rng⟩
theorem OwnU.caps {B : Nat} {w : World} {a : Option Addr} {n cap : Nat} {zs : List Int} (h : OwnU B w a n cap zs) : n ≤ cap ∧ cap ≤ 9223372036854775807 := by
  rcases h.row.2 with ⟨hv, h0⟩ | ⟨g, cap', cur, hv, _, _, h1, h2, _⟩
  · simp only [Value.slice.injEq] at hv
    omega
  · simp only [Value.slice.injEq] at hv
    unfold maxLen at h2
    omega
theorem OwnU.lit0 (B : Nat) (w : World) (hB : B ≤ w.heap.size) : OwnU B (w.alloc (.cells #[] 27)) (some ⟨w.heap.size, 0, none⟩) 0 0 [] :=
  ⟨World.ownsRow_lit w #[] 0 hB (Nat.zero_le _) rfl, by simp [U64]⟩
theorem u64_small {v : Int} (h0 : 0 ≤ v) (h1 : v ≤ 1000) : U64 v := by unfold U64; omega

set_option maxHeartbeats 2000000 in
theorem drawRow_any (g : Nat) (a : Option Addr) (n cap : Nat) (bs : List Int) (m : Int) (w : World) (h : Rd w g a n cap bs) (hm0 : 0 ≤ m) (hm : m ≤ 100) :
    Calls Try.prog 12 #[.pointer (some ⟨g, 0, none⟩), .int .i64 m] w fun e w' => ∃ (a' : Option Addr) (k c' : Nat) (xs : List Int), e = .returned (.slice a' k c') ∧ k ≤ 201 ∧ OwnU w.heap.size w' a' k c' xs ∧ RdPost w g a n cap bs w' := by
  obtain ⟨i0, hi, hz0, hz1, hz2⟩ := info_parts Try.infoU
  have H : Hid (Rd w g a n cap bs) := h
  have hgw := h.lt
  clear h
  have H1 : Hid (Rd (w.alloc (.cells #[] 27)) g a n cap bs) := H.out.kept ((Below.refl _ _).alloc (Nat.le_refl _) _)
  go_enter Try.func12, Try.ntmps12
  go_wp2_with fail
  refine (below_any g a n cap bs (m + 1) _ H1.out (by omega)).mono ?_
  rintro e w1 ⟨v, rfl, hv0, hv1, hp1⟩
  obtain ⟨u, rfl⟩ := Int.eq_ofNat_of_zero_le hv0
  have hum : u ≤ 100 := by omega
  have hs0 : (w.alloc (.cells #[] 27)).heap.size = w.heap.size + 1 := by simp
  have hs1 := hp1.2.size
  have HOE : Hid (OwnU w.heap.size w1 (some ⟨w.heap.size, 0, none⟩) 0 0 []) := (OwnU.lit0 w.heap.size w (Nat.le_refl _)).touched hp1.2 (by omega)
  have HPE : Hid (RdPost w g a n cap bs w1) := ⟨hp1.1, (Touch.of_below ((Below.refl _ _).alloc (Nat.le_refl _) _)).trans hp1.2⟩
  have hs2 : w.heap.size ≤ w1.heap.size := by omega
  clear hp1 H1 hs0 hs1 hv1
  go_wp2
  go_loopw [5, 7] (fun o i wr => ∃ (k c' : Nat) (a' : Option Addr) (xs : List Int), k ≤ u ∧ i = .int .i64 k ∧ o = .slice a' k c' ∧ Hid (OwnU w.heap.size wr a' k c' xs) ∧ Hid (RdPost w g a n cap bs wr) ∧ w.heap.size ≤ wr.heap.size) (fun _ i _ => u - (intOf i).toNat)
  case atStart => exact ⟨0, 0, _, [], Nat.zero_le _, rfl, rfl, HOE, HPE, hs2⟩
  case round =>
    obtain ⟨k, c', a', xs, hk, rfl, rfl, HO, HR, hsr⟩ := hrel
    clear HOE HPE
    by_cases hlt : k < u
    · have hlti : (k : Int) < (u : Int) := by omega
      go_wp2_with fail
      refine (below_any g a n cap bs 9 _ HR.out.1 (by decide)).mono ?_
      rintro e w2 ⟨x, rfl, hx0, hx1, hp2⟩
      have hx9 : x ≤ 1000 := by omega
      have ho2 := HO.out.touched hp2.2 (by omega)
      have hpp := HR.out.step hp2
      have hs2' := hp2.2.size
      have ux : IntKind.u64.wrap x = x := by rw [IntKind.wrap_u64]; omega
      have hal : Below w2.heap.size w2 (w2.alloc (.cells #[.int .u64 x] 27)) := (Below.refl _ _).alloc (Nat.le_refl _) _
      have hor := ho2.kept hal
      have hcl := cell_oneU w2 x
      clear HO ho2 hal
      go_wp2_with (first | (at_builtin; refine wpList_append_own _ rfl (.tmp 18) (.tmp 22) 24 rfl w.heap.size 27 i0 _ 1 8 Try.underlying24 hi hz0 hz1 hz2 rfl (by decide) _ k _ rfl hor.row ⟨w2.heap.size, 0, none⟩ 1 1 ([x].map (Value.int .u64)) rfl rfl hcl (ints_oneCell .u64 [x]) (by unfold maxLen; omega) (by omega) (by simp; omega) ?_; intro v4 w4 hv4 hg4 _))
      rw [← List.map_append] at hv4
      obtain ⟨a4, c4, rfl, ho4⟩ := ownU_appended (u64_snoc hor.rng (u64_small hx0 hx9)) hv4
      have hT : Touch w.heap.size (w2.heap.size + 1) (w2.alloc (.cells #[.int .u64 x] 27)) w4 := touch_grown hg4 (fun k hk => by have := (hor.row.lt k hk); simp at this; omega)
      have HR4 : Hid (RdPost w g a n cap bs w4) := (hpp.alloc (.cells #[.int .u64 x] 27)).grown hT hgw (Nat.le_refl _)
      have HO4 : Hid (OwnU w.heap.size w4 a4 (k + 1) c4 (xs ++ [x])) := ho4
      have hs4 : w.heap.size ≤ w4.heap.size := by have := hg4.size; simp at this; omega
      clear hv4 hg4 hor hcl hT ho4 hpp hp2 HR
      go_roundw
      case rel => exact ⟨k + 1, c4, a4, _, by omega, by go_num, rfl, HO4, HR4, hs4⟩
      case measure => simp [intOf]; omega
    · obtain rfl : k = u := by omega
      go_wp2_with fail
      refine (once_any g a n cap bs 20 _ HR.out.1 (by decide) (by decide)).mono ?_
      rintro e w2 ⟨b, rfl, hp2⟩
      have HO2 : Hid (OwnU w.heap.size w2 a' k c' xs) := HO.out.touched hp2.2 (by omega)
      have HR2 : Hid (RdPost w g a n cap bs w2) := HR.out.step hp2
      have hs2' : w.heap.size ≤ w2.heap.size := by have := hp2.2.size; omega
      clear HO HR hp2
      cases b with
      | false =>
        go_wp2
        go_ret
        exact ⟨a', k, c', xs, rfl, by omega, HO2.out, HR2.out⟩
      | true =>
        go_wp2
        go_loopw [5] (fun o wr => ∃ (q c' : Nat) (a' : Option Addr) (xs : List Int), q ≤ 201 ∧ o = .slice a' q c' ∧ Hid (OwnU w.heap.size wr a' q c' xs) ∧ Hid (RdPost w g a n cap bs wr) ∧ w.heap.size ≤ wr.heap.size) (fun o _ => match o with | .slice _ q _ => 201 - q | _ => 0)
        case atStart => exact ⟨k, c', a', xs, by omega, rfl, HO2, HR2, hs2'⟩
        case round =>
          obtain ⟨q, c2, a2, ys, hq, rfl, HO, HR, hsr3⟩ := hrel
          clear HO2 HR2
          go_wp2_with fail
          refine (below_any g a n cap bs 2 _ HR.out.1 (by decide)).mono ?_
          rintro e w3 ⟨x, rfl, hx0, hx1, hp3⟩
          have HO3 : Hid (OwnU w.heap.size w3 a2 q c2 ys) := HO.out.touched hp3.2 (by omega)
          have HR3 : Hid (RdPost w g a n cap bs w3) := HR.out.step hp3
          have hs3 := hp3.2.size
          clear HO HR hp3
          by_cases hqx : (q : Int) < 200 + x
          · have hq2 : q ≤ 200 := by omega
            have hal : Below w3.heap.size w3 (w3.alloc (.cells #[.int .u64 5] 27)) := (Below.refl _ _).alloc (Nat.le_refl _) _
            have hor := HO3.out.kept hal
            have hcl := cell_oneU w3 5
            go_wp2_with (first | (at_builtin; refine wpList_append_own _ rfl (.tmp 32) (.tmp 33) 24 rfl w.heap.size 27 i0 _ 1 8 Try.underlying24 hi hz0 hz1 hz2 rfl (by decide) _ q _ rfl hor.row ⟨w3.heap.size, 0, none⟩ 1 1 ([5].map (Value.int .u64)) rfl rfl hcl (ints_oneCell .u64 [5]) (by unfold maxLen; omega) (by omega) (by simp; omega) ?_; intro v4 w4 hv4 hg4 _))
            rw [← List.map_append] at hv4
            obtain ⟨a4, c4, rfl, ho4⟩ := ownU_appended (u64_snoc hor.rng (u64_small (v := 5) (by decide) (by decide))) hv4
            have hT : Touch w.heap.size (w3.heap.size + 1) (w3.alloc (.cells #[.int .u64 5] 27)) w4 := touch_grown hg4 (fun k hk => by have := (hor.row.lt k hk); simp at this; omega)
            have HR4 : Hid (RdPost w g a n cap bs w4) := (HR3.out.alloc (.cells #[.int .u64 5] 27)).grown hT hgw (Nat.le_refl _)
            have HO4 : Hid (OwnU w.heap.size w4 a4 (q + 1) c4 (ys ++ [5])) := ho4
            have hs4 : w.heap.size ≤ w4.heap.size := by have := hg4.size; simp at this; omega
            clear hv4 hg4 hor hcl hT ho4
            go_roundw
            case rel => exact ⟨q + 1, c4, a4, _, by omega, rfl, HO4, HR4, hs4⟩
            case measure => simp; omega
          · go_wp2
            go_ret
            exact ⟨a2, q, c2, ys, rfl, hq, HO3.out, HR3.out⟩

end Go.Proofs.Ytflioloegppnmaa

namespace Go.Proofs.Ytflioloegppnmaa
open Go.RowKit Go.Sort

set_option maxHeartbeats 4000000 in
theorem implTile_any (a : Option Addr) (n c : Nat) (zs : List Int) (lv ix : Int) (w : World) (h : RowU w a n zs) (hn : n ≤ 1048576) (hc : n ≤ c) (hcm : c ≤ 9223372036854775807) :
    Calls Try.prog 10 #[.slice a n c, .int .i64 lv, .int .i64 ix] w fun e w' => ∃ a' c', e = .returned (.tuple #[.slice a' (tileR zs lv ix).1.length c', .bool (tileR zs lv ix).2]) ∧ OwnU w.heap.size w' a' (tileR zs lv ix).1.length c' (tileR zs lv ix).1 ∧ Below w.heap.size w w' := by
  obtain ⟨i0, hi, hz0, hz1, hz2⟩ := info_parts Try.infoU
  have H0 : Hid (RowU w a n zs) := h
  have HL : Hid (zs.length = n) := h.len
  have HRG : Hid (∀ k, U64 (zs.getD k 0)) := h.rng
  clear h
  by_cases hg : n ≤ 200 ∧ 0 ≤ lv ∧ lv ≤ 3 ∧ 0 ≤ ix ∧ ix ≤ 200
  · obtain ⟨l, rfl⟩ := Int.eq_ofNat_of_zero_le (show 0 ≤ lv by omega)
    obtain ⟨x, rfl⟩ := Int.eq_ofNat_of_zero_le (show 0 ≤ ix by omega)
    obtain ⟨p, hp⟩ : ∃ p, p = 4 ^ l := ⟨_, rfl⟩
    have hpb := pow4_le l (by omega)
    have HV : Hid (tileR zs l x = (tlF zs p x 4, decide (0 < (tlF zs p x 4).length))) := by show _ = _; unfold tileR; rw [if_pos (by rw [HL.out]; exact hg), Int.toNat_natCast, Int.toNat_natCast, hp]
    have HPP : Hid (p = 4 ^ l) := hp
    rw [← hp] at hpb
    clear hp
    have hn2 : n ≤ 200 := hg.1
    have hl3 : l ≤ 3 := by omega
    have hx2 : x ≤ 200 := by omega
    have hg1 : ¬ (200 : Int) < (n : Int) := by omega
    have hbe0 : Below w.heap.size w (w.alloc (.cells #[] 27)) := (Below.refl _ _).alloc (Nat.le_refl _) _
    go_enter Try.func10, Try.ntmps10
    go_wp2_with fail
    refine (inBounds_t (l : Int) 0 3 _ (by omega)).mono ?_
    rintro e w1 ⟨rfl, hw⟩
    have hw2 := hw.symm
    subst hw2
    go_wp2_with fail
    refine (inBounds_t (x : Int) 0 200 _ (by omega)).mono ?_
    rintro e w1 ⟨rfl, hw⟩
    have hw2 := hw.symm
    subst hw2
    go_wp2_with fail
    refine (partSize_any l _ (by omega)).mono ?_
    rintro e w1 ⟨rfl, hw⟩
    have hw2 := hw.symm
    subst hw2
    rw [← HPP.out]
    go_wp2
    go_loopw [9, 27] (fun o i wr => ∃ (k q cc : Nat) (ao : Option Addr), k ≤ 4 ∧ q ≤ k ∧ i = .int .i64 k ∧ o = .slice ao q cc ∧ Hid ((tlF zs p x k).length = q) ∧ Hid (OwnU w.heap.size wr ao q cc (tlF zs p x k)) ∧ Below w.heap.size w wr) (fun _ i _ => 4 - (intOf i).toNat)
    case atStart => exact ⟨0, 0, 0, none, Nat.zero_le _, Nat.zero_le _, rfl, rfl, rfl, ownU_none _ _, Below.refl _ _⟩
    case round =>
      obtain ⟨k, q, cc, ao, hk, hqk, rfl, rfl, HQ, HO, hbr⟩ := hrel
      by_cases hlt : k < 4
      · have hlti : (k : Int) < 4 := by omega
        obtain ⟨Fr, hFr⟩ : ∃ Fr, Fr = (4 * x + k) * p := ⟨_, rfl⟩
        have HFr : Hid (Fr = (4 * x + k) * p) := hFr
        have hFb : Fr ≤ 100000 := by
          have h1 : (4 * x + k) * p ≤ 804 * 64 := Nat.mul_le_mul (by omega) hpb.2
          omega
        have hFi : (4 * (x : Int) + (k : Int)) * (p : Int) = (Fr : Int) := by rw [hFr]; push_cast; rfl
        clear hFr
        have u1 : IntKind.i64.wrap (Fr : Int) = (Fr : Int) := by rw [IntKind.wrap_i64]; omega
        have hws := hbr.size
        by_cases hcond : Fr + p ≤ n
        · have hci : (Fr : Int) + (p : Int) ≤ (n : Int) := by omega
          have hci2 : ¬ (n : Int) < (Fr : Int) + (p : Int) := by omega
          have hi2 : (Fr : Int) + (p : Int) ≤ (c : Int) := by omega
          have hi3 : (Fr : Int) ≤ (Fr : Int) + (p : Int) := by omega
          have hi4 : ¬ c = Fr := by omega
          have hi5 : ¬ (Fr : Int) = (c : Int) := by omega
          have t1 : ((Fr : Int) + (p : Int) - (Fr : Int)).toNat = p := by omega
          have t2 : ((Fr : Int) + (p : Int)).toNat = Fr + p := by omega
          have t3 : (Fr : Int) + (p : Int) - (Fr : Int) = (p : Int) := by omega
          have t4 : Fr + p - Fr = p := by omega
          obtain ⟨b, off, rfl, hlb, _⟩ := H0.out.get 0 (by omega)
          obtain ⟨r, hr⟩ : ∃ r, r = rootL ((zs.drop Fr).take p) := ⟨_, rfl⟩
          have HR : Hid (r = rootL ((zs.drop Fr).take p)) := hr
          have HRB : Hid (U64 r) := by show U64 r; rw [hr]; exact rootL_bd _ (u64_take (u64_drop HRG.out _) _)
          have HN : Hid (tlF zs p x (k + 1) = tlF zs p x k ++ [r]) := by show _ = _; rw [tlF_next zs p x k (by rw [HL.out, ← HFr.out]; exact hcond), ← HFr.out, hr]
          have HRW : Hid (RowU wr (some ⟨b, off + Fr, none⟩) p ((zs.drop Fr).take p)) := by
            have h1 := (H0.out.kept hbr).drop Fr (by omega)
            exact h1.take p (by omega)
          clear hr
          go_wp2_with fail
          refine (rootOf_any (some ⟨b, off + Fr, none⟩) p (c - Fr) ((zs.drop Fr).take p) _ HRW.out (by omega)).mono ?_
          rintro e w2 ⟨rfl, hb2⟩
          rw [← HR.out]
          have hal : Below w2.heap.size w2 (w2.alloc (.cells #[.int .u64 r] 27)) := (Below.refl _ _).alloc (Nat.le_refl _) _
          have hb3 := keepT (keepT hbr hb2) hal
          have hor := HO.out.kept (keepT hb2 hal)
          have hcl := cell_oneU w2 r
          go_wp2_with (first | (at_builtin; refine wpList_append_own _ rfl (.tmp 42) (.tmp 50) 24 rfl w.heap.size 27 i0 _ 1 8 Try.underlying24 hi hz0 hz1 hz2 rfl (by decide) _ q _ rfl hor.row ⟨w2.heap.size, 0, none⟩ 1 1 ([r].map (Value.int .u64)) rfl rfl hcl (ints_oneCell .u64 [r]) (by unfold maxLen; omega) (by omega) (by have := hb3.size; exact this) ?_; intro v4 w4 hv4 hg4 _))
          rw [← List.map_append] at hv4
          obtain ⟨a4, c4, rfl, ho4⟩ := ownU_appended (u64_snoc hor.rng HRB.out) hv4
          have hb4 : Below w.heap.size w w4 := hb3.grown hg4 hb3.size (fun k hk => (hor.row.lt k hk).1)
          have HO4 : Hid (OwnU w.heap.size w4 a4 (q + 1) c4 (tlF zs p x (k + 1))) := by show OwnU _ _ _ _ _ _; rw [HN.out]; exact ho4
          have HQ4 : Hid ((tlF zs p x (k + 1)).length = q + 1) := by show _ = _; rw [HN.out, List.length_append, HQ.out]; rfl
          clear hv4 hg4 hor ho4 hcl HO HN
          go_roundw
          case rel => exact ⟨k + 1, q + 1, c4, a4, by omega, by omega, by go_num, rfl, HQ4, HO4, hb4⟩
          case measure => simp [intOf]; omega
        · have hci2 : (n : Int) < (Fr : Int) + (p : Int) := by omega
          have HST : Hid (tlF zs p x 4 = tlF zs p x k) := by show _ = _; rw [show tlF zs p x 4 = tlF zs p x (k + (4 - k)) by rw [Nat.add_sub_cancel' hk]]; exact tlF_stop zs p x k (by rw [HL.out, ← HFr.out]; exact hcond) _
          clear HRG
          by_cases hq0 : q = 0
          · subst hq0
            go_wp2
            go_ret2
            exact ⟨_, _, by rw [HV.out, HST.out, HQ.out]; rfl, by rw [HV.out, HST.out, HQ.out]; exact HO.out, hbr⟩
          · have hqi : (0 : Int) < (q : Int) := by omega
            go_wp2
            go_ret2
            exact ⟨_, _, by rw [HV.out, HST.out, HQ.out, decide_eq_true (by omega)]; rfl, by rw [HV.out, HST.out, HQ.out]; exact HO.out, hbr⟩
      · obtain rfl : k = 4 := by omega
        by_cases hq0 : q = 0
        · subst hq0
          go_wp2
          go_ret2
          exact ⟨_, _, by rw [HV.out, HQ.out]; rfl, by rw [HV.out, HQ.out]; exact HO.out, hbr⟩
        · have hqi : (0 : Int) < (q : Int) := by omega
          go_wp2
          go_ret2
          exact ⟨_, _, by rw [HV.out, HQ.out, decide_eq_true (by omega)]; rfl, by rw [HV.out, HQ.out]; exact HO.out, hbr⟩
  · have HV : Hid (tileR zs lv ix = ([], false)) := by show _ = _; unfold tileR; rw [if_neg (by rw [HL.out]; exact hg)]
    have hoe := ownU_none w.heap.size w
    have hbe := Below.refl w.heap.size w
    by_cases hb : (200 : Int) < (n : Int)
    · go_enter Try.func10, Try.ntmps10
      go_wp2
      go_ret2
      exact ⟨_, _, by rw [HV.out]; rfl, by rw [HV.out]; exact hoe, hbe⟩
    · by_cases hb2 : 0 ≤ lv ∧ lv ≤ 3
      · have hb3 : ¬ (0 ≤ ix ∧ ix ≤ 200) := by omega
        go_enter Try.func10, Try.ntmps10
        go_wp2_with fail
        refine (inBounds_t lv 0 3 _ hb2).mono ?_
        rintro e w1 ⟨rfl, hw⟩
        have hw2 := hw.symm
        subst hw2
        go_wp2_with fail
        refine (inBounds_f ix 0 200 _ hb3).mono ?_
        rintro e w1 ⟨rfl, hw⟩
        have hw2 := hw.symm
        subst hw2
        go_wp2
        go_ret2
        exact ⟨_, _, by rw [HV.out]; rfl, by rw [HV.out]; exact hoe, hbe⟩
      · go_enter Try.func10, Try.ntmps10
        go_wp2_with fail
        refine (inBounds_f lv 0 3 _ hb2).mono ?_
        rintro e w1 ⟨rfl, hw⟩
        have hw2 := hw.symm
        subst hw2
        go_wp2
        go_ret2
        exact ⟨_, _, by rw [HV.out]; rfl, by rw [HV.out]; exact hoe, hbe⟩

end Go.Proofs.Ytflioloegppnmaa

namespace Go.Proofs.Ytflioloegppnmaa
open Go.RowKit Go.Sort

/-- The cells of tiles, each with the slice that holds its digests. -/
def flT (its : List (TP × Option Addr × Nat × Nat)) : List Value := its.flatMap fun p => [.int .i64 p.1.lv, .int .i64 p.1.ix, .slice p.2.1 p.2.2.1 p.2.2.2]
theorem flT_cons (p : TP × Option Addr × Nat × Nat) (r : List (TP × Option Addr × Nat × Nat)) : flT (p :: r) = Value.int .i64 p.1.lv :: .int .i64 p.1.ix :: .slice p.2.1 p.2.2.1 p.2.2.2 :: flT r := rfl
theorem flT_append (a b : List (TP × Option Addr × Nat × Nat)) : flT (a ++ b) = flT a ++ flT b := by simp [flT, List.flatMap_append]
theorem flT_len (ps : List (TP × Option Addr × Nat × Nat)) : (flT ps).length = ps.length * 3 := by
  induction ps with
  | nil => rfl
  | cons p r ih => rw [flT_cons]; simp [ih]; omega
theorem flT_get (ps : List (TP × Option Addr × Nat × Nat)) : ∀ k (h : k < ps.length), (flT ps)[k * 3]? = some (.int .i64 ps[k].1.lv) ∧ (flT ps)[k * 3 + 1]? = some (.int .i64 ps[k].1.ix) ∧ (flT ps)[k * 3 + 2]? = some (.slice ps[k].2.1 ps[k].2.2.1 ps[k].2.2.2) := by
  induction ps with
  | nil => intro k h; simp at h
  | cons p r ih =>
    intro k h
    cases k with
    | zero => simp [flT_cons]
    | succ k =>
      have := ih k (by simpa using h)
      rw [flT_cons, show (k + 1) * 3 = k * 3 + 1 + 1 + 1 by omega]
      simpa using this
theorem flT_one (ps : List (TP × Option Addr × Nat × Nat)) : ∀ u ∈ flT ps, u.oneCell' = true := by
  induction ps with
  | nil => intro u hu; simp [flT] at hu
  | cons p r ih =>
    intro u hu
    rw [flT_cons] at hu
    simp only [List.mem_cons] at hu
    rcases hu with rfl | rfl | rfl | hu
    · rfl
    · rfl
    · rfl
    · exact ih u hu
/-- A row of tiles of our own, each with digests of our own. -/
def OwnTl (B : Nat) (w : World) (a : Option Addr) (n cap : Nat) (xs : List TP) : Prop :=
  ∃ its : List (TP × Option Addr × Nat × Nat), its.map Prod.fst = xs ∧ w.ownsRow B 37 3 (.slice a n cap) n (flT its) ∧ ∀ p ∈ its, OwnU B w p.2.1 p.2.2.1 p.2.2.2 p.1.hs ∧ p.2.2.1 ≤ 4
theorem OwnTl.len {B : Nat} {w : World} {a : Option Addr} {n cap : Nat} {xs : List TP} (h : OwnTl B w a n cap xs) : xs.length = n := by
  obtain ⟨its, rfl, hr, _⟩ := h
  have := hr.1
  rw [flT_len] at this
  simp; omega
theorem OwnTl.kept {B : Nat} {w w' : World} {a : Option Addr} {n cap : Nat} {xs : List TP} (h : OwnTl B w a n cap xs) (hb : Below w.heap.size w w') : OwnTl B w' a n cap xs := by
  obtain ⟨its, e, hr, hall⟩ := h
  exact ⟨its, e, ownsRow_below hr hb, fun p hp => ⟨(hall p hp).1.kept hb, (hall p hp).2⟩⟩
theorem own_shape {w : World} {B e s n cap : Nat} {a : Option Addr} {xs : List Value} (h : w.ownsRow B e s (.slice a n cap) n xs) (hn : 0 < n) : ∃ g, a = some ⟨g, 0, none⟩ ∧ B ≤ g ∧ g < w.heap.size := by
  rcases h.2 with ⟨_, h0⟩ | ⟨g, cap', cur, hv, hb, hg, _⟩
  · omega
  · simp only [Value.slice.injEq] at hv
    exact ⟨g, hv.1, hb, (Array.getElem?_eq_some_iff.1 hg).1⟩
theorem own_kind {w : World} {B e s n : Nat} {v : Value} {xs : List Value} (h : w.ownsRow B e s v n xs) (k : Nat) (hk : v.ownBlock = some k) : ∃ cur, w.heap[k]? = some (.cells cur e (0, 0)) := by
  rcases h.2 with ⟨rfl, _⟩ | ⟨g, cap', cur, rfl, hb, hg, _⟩
  · simp [Value.ownBlock] at hk
  · simp [Value.ownBlock] at hk
    subst hk
    exact ⟨cur, hg⟩
theorem OwnU.grownBy {B : Nat} {w w' : World} {a : Option Addr} {n cap : Nat} {zs : List Int} {r : Option Nat} (h : OwnU B w a n cap zs) (hg : w.grownBy w' r) (hr : ∀ k, r = some k → ∃ cur, w.heap[k]? = some (.cells cur 37 (0, 0))) : OwnU B w' a n cap zs := by
  refine ⟨⟨h.row.1, ?_⟩, h.rng⟩
  rcases h.row.2 with hv | ⟨g, cap', cur, hv, hb, hg2, rest⟩
  · exact .inl hv
  · refine .inr ⟨g, cap', cur, hv, hb, (hg.block g (Array.getElem?_eq_some_iff.1 hg2).1 (fun e => ?_)).trans hg2, rest⟩
    obtain ⟨cur2, h2⟩ := hr g e.symm
    rw [h2] at hg2
    simp at hg2
theorem ownTl_appended {B m : Nat} {w w' : World} {v : Value} {its : List (TP × Option Addr × Nat × Nat)} {r : Option Nat} (hv : w'.ownsRow B 37 3 v m (flT its)) (hall : ∀ p ∈ its, OwnU B w p.2.1 p.2.2.1 p.2.2.2 p.1.hs ∧ p.2.2.1 ≤ 4) (hg : w.grownBy w' r)
    (hr : ∀ k, r = some k → ∃ cur, w.heap[k]? = some (.cells cur 37 (0, 0))) : ∃ a c, v = .slice a m c ∧ OwnTl B w' a m c (its.map Prod.fst) := by
  have hall' : ∀ p ∈ its, OwnU B w' p.2.1 p.2.2.1 p.2.2.2 p.1.hs ∧ p.2.2.1 ≤ 4 := fun p hp => ⟨(hall p hp).1.grownBy hg hr, (hall p hp).2⟩
  rcases hv.2 with ⟨rfl, rfl⟩ | ⟨g, cap, cur, rfl, _⟩
  · exact ⟨_, _, rfl, its, rfl, hv, hall'⟩
  · exact ⟨_, _, rfl, its, rfl, hv, hall'⟩
theorem OwnTl.tls {B : Nat} {w : World} {a : Option Addr} {n cap : Nat} {xs : List TP} (h : OwnTl B w a n cap xs) (hm : n ≤ 9223372036854775807) : Tls w a n xs := by
  have hl := h.len
  obtain ⟨its, rfl, hr, hall⟩ := h
  refine ⟨hl, hm, fun k hk => ?_⟩
  have hki : k < its.length := by simp at hl; omega
  obtain ⟨g, rfl, _, hg⟩ := own_shape hr (by omega)
  have e : (its.map Prod.fst).getD k default = its[k].1 := by simp [hki]
  obtain ⟨f0, f1, f2⟩ := flT_get its k hki
  have h4 := hall its[k] (List.getElem_mem hki)
  rw [e]
  refine ⟨g, 0, its[k].2.1, its[k].2.2.1, its[k].2.2.2, rfl, hg, ⟨?_, ?_, ?_⟩, h4.1.toRow, by omega⟩
  · rw [Nat.zero_add, World.ownsRow.cellAt hr _ (by omega)]; exact f0
  · rw [Nat.zero_add, World.ownsRow.cellAt hr _ (by omega)]; exact f1
  · rw [Nat.zero_add, World.ownsRow.cellAt hr _ (by omega)]; exact f2
theorem own_news {w : World} {B e s n cap g : Nat} {xs : List Value} (h : w.ownsRow B e s (.slice (some ⟨g, 0, none⟩) n cap) n xs) : ∀ j u, xs[j]? = some u → w.cell? ((⟨g, 0, none⟩ : Addr).add j) = some u := by
  intro j u hj
  have hl : xs.length = n * s := h.1
  have hlt : j < xs.length := by
    rcases Nat.lt_or_ge j xs.length with h1 | h1
    · exact h1
    · rw [List.getElem?_eq_none h1] at hj; cases hj
  have := World.ownsRow.cellAt h j (by omega)
  have e : (⟨g, 0, none⟩ : Addr).add j = ⟨g, j, none⟩ := by simp [Addr.add]; exact fun h => h.symm
  rw [e, this]
  exact hj
theorem cell_tile (w : World) (lv ix : Int) (a : Option Addr) (n c : Nat) : ∀ j u, (flT [(⟨lv, ix, []⟩, a, n, c)])[j]? = some u → (w.alloc (.cells #[.int .i64 lv, .int .i64 ix, .slice a n c] 37)).cell? ((⟨w.heap.size, 0, none⟩ : Addr).add j) = some u := by
  intro j u hj
  have e : (⟨w.heap.size, 0, none⟩ : Addr).add j = ⟨w.heap.size, j, none⟩ := by simp [Addr.add]; exact fun h => h.symm
  rw [e, cell_of_row _ w.heap.size j _ 37 _ (heap_alloc_new w _)]
  match j, hj with
  | 0, hj => simpa [flT] using hj
  | 1, hj => simpa [flT] using hj
  | 2, hj => simpa [flT] using hj
  | j + 3, hj => simp [flT] at hj
theorem results_threeT {fn : Func} {t0 t1 t2 : Tmp} (h : fn.results = #[.tmp t0, .tmp t1, .tmp t2]) (tmps : Array Value) (v0 v1 v2 : Value) (h0 : tmps.getD t0 undef = v0) (h1 : tmps.getD t1 undef = v1) (h2 : tmps.getD t2 undef = v2) (w : World) : (results fn tmps).run Try.prog w = .ok (.tuple #[v0, v1, v2]) w := by
  have e0 : tmps[t0]?.getD undef = v0 := by rw [← h0]; simp
  have e1 : tmps[t1]?.getD undef = v1 := by rw [← h1]; simp
  have e2 : tmps[t2]?.getD undef = v2 := by rw [← h2]; simp
  simp [results, h, go_sem, e0, e1, e2]
/-- What DrawTile draws. -/
def DtR (w : World) (e : Ending) (w' : World) : Prop :=
  ∃ (a' : Option Addr) (k c' : Nat) (xs : List Int) (x y : Int), e = .returned (.tuple #[.slice a' k c', .int .i64 x, .int .i64 y]) ∧ k ≤ 201 ∧ OwnU w.heap.size w' a' k c' xs ∧ Below w.heap.size w w'

set_option maxHeartbeats 400000 in
theorem big_anyQ (a : Option Addr) (n cap : Nat) (w : World) (hn : n ≤ 9223372036854775807) :
    Calls Try.prog 4 #[.slice a n cap] w fun r w' => r = .returned (.bool (decide (1048576 < n))) ∧ w' = w := by
  have e : decide (1048576 < n) = decide ((1048576 : Int) < (n : Int)) := by simp; omega
  rw [e]
  go_enter Try.func4, Try.ntmps4
  go_wp2
  go_ret
  exact ⟨rfl, rfl⟩

set_option maxHeartbeats 2000000 in
theorem drawTile_any (a : Option Addr) (n cap : Nat) (bs : List Int) (w : World) (h : Row w a n bs) (hn : n ≤ 1000000000) :
    Calls Try.prog 5 #[.slice a n cap] w (DtR w) := by
  have H : Hid (Row w a n bs) := h
  clear h
  go_enter Try.func5, Try.ntmps5
  go_wp2_with fail
  refine (open_any a n cap bs _ H.out hn).mono ?_
  rintro e w1 ⟨rfl, hr, hb⟩
  have hs1 := hb.size
  have hlt := hr.lt
  go_wp2_with fail
  refine (drawRow_any _ a n cap bs 80 _ hr (by decide) (by decide)).mono ?_
  rintro e w2 ⟨a', k, c', xs, rfl, hk, ho, hp⟩
  have HB : Hid (Below w.heap.size w w1) := hb
  clear hb
  go_wp2_with fail
  refine (below_any _ a n cap bs 4 _ hp.1 (by decide)).mono ?_
  rintro e w3 ⟨i3, rfl, hi0, hi1, hp3⟩
  have HO3 : Hid (OwnU w1.heap.size w3 a' k c' xs) := ho.touched hp3.2 (by omega)
  have HP3 : Hid (RdPost w1 w.heap.size a n cap bs w3) := hp.step hp3
  clear ho hp hp3 hr hi0 hi1
  go_wp2_with fail
  refine (once_any _ a n cap bs 12 _ HP3.out.1 (by decide) (by decide)).mono ?_
  rintro e w4 ⟨b4, rfl, hp4⟩
  have HO4 : Hid (OwnU w1.heap.size w4 a' k c' xs) := HO3.out.touched hp4.2 (by omega)
  have HP4 : Hid (RdPost w1 w.heap.size a n cap bs w4) := HP3.out.step hp4
  clear HO3 HP3 hp4
  have tail : ∀ (W : World) (e : Ending) (x y : Int), e = .returned (.tuple #[.slice a' k c', .int .i64 x, .int .i64 y]) → Hid (OwnU w1.heap.size W a' k c' xs) → Hid (RdPost w1 w.heap.size a n cap bs W) → DtR w e W := fun W e x y he h1 h2 =>
    ⟨a', k, c', xs, x, y, he, hk, h1.out.mono hs1, RdPost.below HB.out h2.out⟩
  have TAIL : Hid (_) := tail
  clear tail HB
  cases b4 with
  | true =>
    go_wp2_with fail
    refine (below_any _ a n cap bs 6 _ HP4.out.1 (by decide)).mono ?_
    rintro e w5 ⟨i5, rfl, hi50, hi51, hp5⟩
    have h5i : i5 ≤ 6 := by omega
    have HO5 : Hid (OwnU w1.heap.size w5 a' k c' xs) := HO4.out.touched hp5.2 (by omega)
    have HP5 : Hid (RdPost w1 w.heap.size a n cap bs w5) := HP4.out.step hp5
    clear HO4 HP4 hp5 hi51
    go_wp2_with fail
    refine (below_any _ a n cap bs 6 _ HP5.out.1 (by decide)).mono ?_
    rintro e w6 ⟨i6, rfl, hi60, hi61, hp6⟩
    have HO6 : Hid (OwnU w1.heap.size w6 a' k c' xs) := HO5.out.touched hp6.2 (by omega)
    have HP6 : Hid (RdPost w1 w.heap.size a n cap bs w6) := HP5.out.step hp6
    clear HO5 HP5 hp6 hi61
    go_wp2_with fail
    refine (once_any _ a n cap bs 12 _ HP6.out.1 (by decide) (by decide)).mono ?_
    rintro e w7 ⟨b7, rfl, hp7⟩
    have HO7 : Hid (OwnU w1.heap.size w7 a' k c' xs) := HO6.out.touched hp7.2 (by omega)
    have HP7 : Hid (RdPost w1 w.heap.size a n cap bs w7) := HP6.out.step hp7
    clear HO6 HP6 hp7
    cases b7 with
    | false =>
      go_wp2
      try simp only [Exit.inBlock, Exit.then]
      exact bodyPost_ret (results_threeT rfl _ _ _ _ rfl rfl rfl _) rfl (TAIL.out _ _ _ _ rfl HO7 HP7)
    | true =>
      have HO8 : Hid (OwnU w1.heap.size (w7.alloc (.cells #[.int .i64 (-1), .int .i64 200, .int .i64 201] 2)) a' k c' xs) := HO7.out.kept ((Below.refl _ _).alloc (Nat.le_refl _) _)
      have HP8 : Hid (RdPost w1 w.heap.size a n cap bs (w7.alloc (.cells #[.int .i64 (-1), .int .i64 200, .int .i64 201] 2))) := HP7.out.alloc _
      have HC : Hid ((w7.alloc (.cells #[.int .i64 (-1), .int .i64 200, .int .i64 201] 2)).heap[w7.heap.size]? = some (.cells #[.int .i64 (-1), .int .i64 200, .int .i64 201] 2 (0, 0))) := heap_alloc_new w7 _
      have hg7 : w.heap.size < w7.heap.size := by have := HP7.out.1.lt; exact this
      clear HO7 HP7
      go_wp2_with fail
      refine (below_any _ a n cap bs 3 _ HP8.out.1 (by decide)).mono ?_
      rintro e w9 ⟨i9, rfl, hi90, hi91, hp9⟩
      have HO9 : Hid (OwnU w1.heap.size w9 a' k c' xs) := HO8.out.touched hp9.2 (by omega)
      have HP9 : Hid (RdPost w1 w.heap.size a n cap bs w9) := HP8.out.step hp9
      have hbk : w9.heap[w7.heap.size]? = some (.cells #[.int .i64 (-1), .int .i64 200, .int .i64 201] 2 (0, 0)) := (hp9.2.block _ (by simp) (by omega)).trans HC.out
      have c0 : w9.cell? ⟨w7.heap.size, 0, none⟩ = some (.int .i64 (-1)) := (cell_of_row _ _ 0 _ 2 (0, 0) hbk).trans rfl
      have c1 : w9.cell? ⟨w7.heap.size, 1, none⟩ = some (.int .i64 200) := (cell_of_row _ _ 1 _ 2 (0, 0) hbk).trans rfl
      have c2 : w9.cell? ⟨w7.heap.size, 2, none⟩ = some (.int .i64 201) := (cell_of_row _ _ 2 _ 2 (0, 0) hbk).trans rfl
      clear HO8 HP8 hp9 hbk HC
      rcases (show i9 = 0 ∨ i9 = 1 ∨ i9 = 2 by omega) with rfl | rfl | rfl
      · go_wp2
        try simp only [Exit.inBlock, Exit.then]
        exact bodyPost_ret (results_threeT rfl _ _ _ _ rfl rfl rfl _) rfl (TAIL.out _ _ _ _ rfl HO9 HP9)
      · go_wp2
        try simp only [Exit.inBlock, Exit.then]
        exact bodyPost_ret (results_threeT rfl _ _ _ _ rfl rfl rfl _) rfl (TAIL.out _ _ _ _ rfl HO9 HP9)
      · go_wp2
        try simp only [Exit.inBlock, Exit.then]
        exact bodyPost_ret (results_threeT rfl _ _ _ _ rfl rfl rfl _) rfl (TAIL.out _ _ _ _ rfl HO9 HP9)
  | false =>
    go_wp2_with fail
    refine (below_any _ a n cap bs 6 _ HP4.out.1 (by decide)).mono ?_
    rintro e w6 ⟨i6, rfl, hi60, hi61, hp6⟩
    have HO6 : Hid (OwnU w1.heap.size w6 a' k c' xs) := HO4.out.touched hp6.2 (by omega)
    have HP6 : Hid (RdPost w1 w.heap.size a n cap bs w6) := HP4.out.step hp6
    clear HO4 HP4 hp6 hi61
    go_wp2_with fail
    refine (once_any _ a n cap bs 12 _ HP6.out.1 (by decide) (by decide)).mono ?_
    rintro e w7 ⟨b7, rfl, hp7⟩
    have HO7 : Hid (OwnU w1.heap.size w7 a' k c' xs) := HO6.out.touched hp7.2 (by omega)
    have HP7 : Hid (RdPost w1 w.heap.size a n cap bs w7) := HP6.out.step hp7
    clear HO6 HP6 hp7
    cases b7 with
    | false =>
      go_wp2
      try simp only [Exit.inBlock, Exit.then]
      exact bodyPost_ret (results_threeT rfl _ _ _ _ rfl rfl rfl _) rfl (TAIL.out _ _ _ _ rfl HO7 HP7)
    | true =>
      have HO8 : Hid (OwnU w1.heap.size (w7.alloc (.cells #[.int .i64 (-1), .int .i64 200, .int .i64 201] 2)) a' k c' xs) := HO7.out.kept ((Below.refl _ _).alloc (Nat.le_refl _) _)
      have HP8 : Hid (RdPost w1 w.heap.size a n cap bs (w7.alloc (.cells #[.int .i64 (-1), .int .i64 200, .int .i64 201] 2))) := HP7.out.alloc _
      have HC : Hid ((w7.alloc (.cells #[.int .i64 (-1), .int .i64 200, .int .i64 201] 2)).heap[w7.heap.size]? = some (.cells #[.int .i64 (-1), .int .i64 200, .int .i64 201] 2 (0, 0))) := heap_alloc_new w7 _
      have hg7 : w.heap.size < w7.heap.size := by have := HP7.out.1.lt; exact this
      clear HO7 HP7
      go_wp2_with fail
      refine (below_any _ a n cap bs 3 _ HP8.out.1 (by decide)).mono ?_
      rintro e w9 ⟨i9, rfl, hi90, hi91, hp9⟩
      have HO9 : Hid (OwnU w1.heap.size w9 a' k c' xs) := HO8.out.touched hp9.2 (by omega)
      have HP9 : Hid (RdPost w1 w.heap.size a n cap bs w9) := HP8.out.step hp9
      have hbk : w9.heap[w7.heap.size]? = some (.cells #[.int .i64 (-1), .int .i64 200, .int .i64 201] 2 (0, 0)) := (hp9.2.block _ (by simp) (by omega)).trans HC.out
      have c0 : w9.cell? ⟨w7.heap.size, 0, none⟩ = some (.int .i64 (-1)) := (cell_of_row _ _ 0 _ 2 (0, 0) hbk).trans rfl
      have c1 : w9.cell? ⟨w7.heap.size, 1, none⟩ = some (.int .i64 200) := (cell_of_row _ _ 1 _ 2 (0, 0) hbk).trans rfl
      have c2 : w9.cell? ⟨w7.heap.size, 2, none⟩ = some (.int .i64 201) := (cell_of_row _ _ 2 _ 2 (0, 0) hbk).trans rfl
      clear HO8 HP8 hp9 hbk HC
      rcases (show i9 = 0 ∨ i9 = 1 ∨ i9 = 2 by omega) with rfl | rfl | rfl
      · go_wp2
        try simp only [Exit.inBlock, Exit.then]
        exact bodyPost_ret (results_threeT rfl _ _ _ _ rfl rfl rfl _) rfl (TAIL.out _ _ _ _ rfl HO9 HP9)
      · go_wp2
        try simp only [Exit.inBlock, Exit.then]
        exact bodyPost_ret (results_threeT rfl _ _ _ _ rfl rfl rfl _) rfl (TAIL.out _ _ _ _ rfl HO9 HP9)
      · go_wp2
        try simp only [Exit.inBlock, Exit.then]
        exact bodyPost_ret (results_threeT rfl _ _ _ _ rfl rfl rfl _) rfl (TAIL.out _ _ _ _ rfl HO9 HP9)

end Go.Proofs.Ytflioloegppnmaa

namespace Go.Proofs.Ytflioloegppnmaa
open Go.RowKit

theorem bytes5 : ∀ k, 0 ≤ ([108, 105, 118, 101, 115] : List Int).getD k 0 ∧ ([108, 105, 118, 101, 115] : List Int).getD k 0 ≤ 255 := by
  intro k
  match k with
  | 0 | 1 | 2 | 3 | 4 => decide
  | k + 5 => simp
theorem lives_hash : (hashL [108, 105, 118, 101, 115] != 0) = true := by decide +kernel

theorem row_lives (w : World) : Row (w.alloc (.cells #[.int .u8 108, .int .u8 105, .int .u8 118, .int .u8 101, .int .u8 115] 5 (5, 6))) (some ⟨w.heap.size, 0, none⟩) 5 [108, 105, 118, 101, 115] := by
  refine ⟨rfl, fun k hk => ⟨w.heap.size, 0, rfl, by simp, ?_⟩, bytes5⟩
  rw [Nat.zero_add, cell_of_row _ w.heap.size k _ 5 (5, 6) (heap_alloc_new w _)]
  have hc : k = 0 ∨ k = 1 ∨ k = 2 ∨ k = 3 ∨ k = 4 := by omega
  rcases hc with rfl | rfl | rfl | rfl | rfl <;> rfl

set_option maxHeartbeats 400000 in
theorem lives_any (w : World) : Calls Try.prog 9 #[] w fun e w' => e = .returned (.bool true) ∧ Below w.heap.size w w' := by
  obtain ⟨h, hh⟩ : ∃ h, h = hashL [108, 105, 118, 101, 115] := ⟨_, rfl⟩
  have hl := lives_hash
  rw [← hh] at hl
  have HH : Hid (h = hashL [108, 105, 118, 101, 115]) := hh
  clear hh
  have hcv := Lib.run_convert_bytes_const (P := Try.prog) w 22 5 #[.int .u8 108, .int .u8 105, .int .u8 118, .int .u8 101, .int .u8 115] 5 5 Try.underlying22 Try.underlying5
  have e1 : (h == h) = true := by simp
  go_enter Try.func9, Try.ntmps9
  have ho := row_lives w
  have hb0 : Below w.heap.size w (w.alloc (.cells #[.int .u8 108, .int .u8 105, .int .u8 118, .int .u8 101, .int .u8 115] 5 (5, 6))) := (Below.refl _ _).alloc (Nat.le_refl _) _
  have HO : Hid (Row (w.alloc (.cells #[.int .u8 108, .int .u8 105, .int .u8 118, .int .u8 101, .int .u8 115] 5 (5, 6))) (some ⟨w.heap.size, 0, none⟩) 5 [108, 105, 118, 101, 115]) := ho
  clear ho
  go_wp2_with fail
  refine (implHash_any _ 5 5 _ _ HO.out (by decide)).mono ?_
  rintro e w1 ⟨rfl, hb1⟩
  rw [← HH.out]
  go_wp2_with fail
  refine (specHash_any _ 5 5 _ _ (HO.out.kept hb1) (by decide)).mono ?_
  rintro e w2 ⟨rfl, hw2⟩
  subst hw2
  rw [← HH.out]
  go_wp2_with fail
  refine (implHash_any _ 5 5 _ _ (HO.out.kept hb1) (by decide)).mono ?_
  rintro e w3 ⟨rfl, hb3⟩
  rw [← HH.out]
  go_wp2_with fail
  go_ret
  have z1 := hb0.size
  have z2 := hb1.size
  exact ⟨rfl, hb0.trans ((hb1.mono z1).trans (hb3.mono (by omega)))⟩

end Go.Proofs.Ytflioloegppnmaa

