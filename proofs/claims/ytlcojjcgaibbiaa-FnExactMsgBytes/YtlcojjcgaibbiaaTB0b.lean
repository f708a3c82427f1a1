import Derived.Test.YtlcojjcgaibbiaaHW3
import Derived.Test.YtlcojjcgaibbiaaTT2
import Derived.Test.YtlcojjcgaibbiaaGB
import Derived.Deep.RegionHeld3
import Derived.Deep.DeepCutAuto
import Derived.BigQuiet
import Derived.Deep.RegionWith
import Derived.Lib.QuietBelow
namespace Go.Proofs.Ytlcojjcgaibbiaa
open Go.RowKit

theorem keepT {w w1 w2 : World} (h : Below w.heap.size w w1) (k : Below w1.heap.size w1 w2) : Below w.heap.size w w2 := h.trans (k.mono h.size)
theorem alloc_oldT (w : World) (o : Obj) (g : Nat) (hg : g < w.heap.size) : (w.alloc o).heap[g]? = w.heap[g]? := ((Below.refl w.heap.size w).alloc (Nat.le_refl _) o).block g hg
theorem two_blocks (w : World) (o0 o1 : Obj) : ((w.alloc o0).alloc o1).heap[w.heap.size]? = some o0 ∧ ((w.alloc o0).alloc o1).heap[w.heap.size + 1]? = some o1 := by
  have s1 : (w.alloc o0).heap.size = w.heap.size + 1 := by simp
  exact ⟨(alloc_oldT _ o1 _ (by simp)).trans (heap_alloc_new w o0), by rw [← s1]; exact heap_alloc_new _ o1⟩

set_option maxRecDepth 10000 in
set_option maxHeartbeats 1000000 in
theorem implItemBytes_any (d : Nat) (x : It) (ab : Option Addr) (nb cb : Nat) (ak : Option Addr) (nk ck : Nat) (w : World) (hrow : Row w ab nb x.body) (hnil : ab = none → cb = 0) (hnb : nb ≤ 9223372036854775807) (hk : Kids d w ak nk x.kids) :
    Calls Try.prog 23 #[itv x ab nb cb ak nk ck] w fun e w' => Ans w.heap.size (enc 12 x) e w' ∧ Below w.heap.size w w' := by
  have hbl : Below w.heap.size w (w.alloc (.cells #[.int .i64 x.cls, .int .i64 x.tag, .bool x.cons, .slice ab nb cb, .slice ak nk ck] 43)) := (Below.refl _ _).alloc (Nat.le_refl _) _
  have HS : Hid (_) := bytesAt_all d 12 1 x ab nb cb ak nk ck _ (by decide) (by decide) (hrow.kept hbl) hnil hnb (hk.kept hbl)
  clear hrow hk hnb hnil
  unfold itv
  go_enter Try.func23, Try.ntmps23
  go_wp2_with fail
  refine Calls.mono HS.out ?_
  rintro e w1 ⟨hans, hb1⟩
  have hb1' : Below w.heap.size w w1 := hbl.trans (hb1.mono hbl.size)
  clear hb1
  rcases hans with ⟨a2, n2, c2, bs2, rfl, he2, ho2⟩ | ⟨rfl, he2⟩
  · have HO : Hid (Own w.heap.size w1 a2 n2 c2 bs2) := ho2.mono hbl.size
    clear ho2
    go_wp2
    go_ret2
    exact ⟨.inl ⟨a2, n2, c2, bs2, rfl, he2, HO⟩, hb1'⟩
  · go_wp2
    go_ret2
    exact ⟨.inr ⟨rfl, he2⟩, hb1'⟩

theorem numberItem_agg (n : Int) (w : World) (h0 : -9223372036854775808 ≤ n) (h1 : n ≤ 9223372036854775807) :
    Calls Try.prog 48 #[.int .i64 n] w fun e w' => ∃ g k, e = .returned (.agg #[.int .i64 0, .int .i64 2, .bool false, .slice (some ⟨g, k, none⟩) (wsz n) (wsz n), .slice none 0 0]) ∧ w.heap.size ≤ g ∧ Row w' (some ⟨g, k, none⟩) (wsz n) (wbL n) ∧ Below w.heap.size w w' := numberItem_any n w h0 h1

theorem digestItem_agg (v : Int) (w : World) (h0 : 0 ≤ v) (h1 : v ≤ 18446744073709551615) :
    Calls Try.prog 47 #[.int .u64 v] w fun e w' => ∃ g, e = .returned (.agg #[.int .i64 0, .int .i64 4, .bool false, .slice (some ⟨g, 0, none⟩) 8 8, .slice none 0 0]) ∧ w.heap.size ≤ g ∧ Row w' (some ⟨g, 0, none⟩) 8 (eightI v) ∧ Below w.heap.size w w' := digestItem_any v w h0 h1

theorem ownItem_agg (tag : Int) (a : Option Addr) (n c : Nat) (w : World) :
    Calls Try.prog 24 #[.int .i64 tag, .slice a n c] w fun e w' => e = .returned (.agg #[.int .i64 1, .int .i64 tag, .bool true, .slice none 0 0, .slice a n c]) ∧ Below w.heap.size w w' := ownItem_any tag a n c [] w

theorem l9Num_agg (n : Int) (w : World) : Calls Try.prog 56 #[.int .i64 n] w fun e w' => ∃ a c, e = .returned (.agg #[.int .i64 0, .int .i64 2, .bool false, .slice a (wsz n) c, .slice none 0 0]) ∧ Own (w.heap.size + 1) w' a (wsz n) c (wbL n) ∧ Below w.heap.size w w' := l9Num_any n w

theorem l9Bytes_agg (a : Option Addr) (n c : Nat) (bs : List Int) (w : World) (h : Row w a n bs) (hc : a = none → c = 0) (hn : n ≤ 1000) : Calls Try.prog 35 #[.slice a n c] w fun e w' => ∃ a c, e = .returned (.agg #[.int .i64 0, .int .i64 4, .bool false, .slice a n c, .slice none 0 0]) ∧ Own (w.heap.size + 1) w' a n c bs ∧ Below w.heap.size w w' := l9Bytes_any a n c bs w h hc hn

theorem l2Box_agg (tag : Int) (a : Option Addr) (n c : Nat) (w : World) :
    Calls Try.prog 36 #[.int .i64 1, .int .i64 tag, .slice a n c] w fun e w' => e = .returned (.agg #[.int .i64 1, .int .i64 tag, .bool true, .slice none 0 0, .slice a n c]) ∧ Below w.heap.size w w' := l2Box_any tag a n c [] w

def timP (x : Int) : Prop := 0 ≤ x ∧ x ≤ 253402300799
instance (x : Int) : Decidable (timP x) := by unfold timP; infer_instance

set_option maxRecDepth 10000 in
set_option maxHeartbeats 1000000 in
theorem inBd_any (x lo hi : Int) (w : World) : Calls Try.prog 68 #[.int .i64 x, .int .i64 lo, .int .i64 hi] w fun e w' => e = .returned (.bool (decide (lo ≤ x ∧ x ≤ hi))) ∧ w' = w := by
  by_cases h : lo ≤ x ∧ x ≤ hi
  · rw [decide_eq_true h]; exact inBounds_t x lo hi w h
  · rw [decide_eq_false h]; exact inBounds_f x lo hi w h

set_option maxRecDepth 10000 in
set_option maxHeartbeats 1000000 in
theorem l1Bd_any (x lo hi : Int) (w : World) : Calls Try.prog 65 #[.int .i64 x, .int .i64 lo, .int .i64 hi] w fun e w' => e = .returned (.bool (decide (lo ≤ x ∧ x ≤ hi))) ∧ w' = w := by
  by_cases h : lo ≤ x ∧ x ≤ hi
  · rw [decide_eq_true h]; exact l1In_t x lo hi w h
  · rw [decide_eq_false h]; exact l1In_f x lo hi w h

set_option maxRecDepth 10000 in
set_option maxHeartbeats 1000000 in
theorem isTim_any (x : Int) (w : World) : Calls Try.prog 59 #[.int .i64 x] w fun e w' => e = .returned (.bool (decide (timP x))) ∧ w' = w := by
  go_enter Try.func59, Try.ntmps59
  go_wp2_with fail
  refine (inBd_any x 0 253402300799 _).mono ?_
  rintro e w1 ⟨rfl, hw⟩
  have hw2 := hw.symm
  subst hw2
  obtain ⟨q, hq⟩ : ∃ q, q = decide (0 ≤ x ∧ x ≤ 253402300799) := ⟨_, rfl⟩
  have HQ : Hid (q = decide (timP x)) := hq
  rw [← hq]
  clear hq
  go_wp2
  go_ret
  exact ⟨by rw [← HQ.out]; rfl, rfl⟩

set_option maxRecDepth 10000 in
set_option maxHeartbeats 1000000 in
theorem l10Tim_any (x : Int) (w : World) : Calls Try.prog 50 #[.int .i64 x] w fun e w' => e = .returned (.bool (decide (timP x))) ∧ w' = w := by
  go_enter Try.func50, Try.ntmps50
  go_wp2_with fail
  refine (l1Bd_any x 0 253402300799 _).mono ?_
  rintro e w1 ⟨rfl, hw⟩
  have hw2 := hw.symm
  subst hw2
  obtain ⟨q, hq⟩ : ∃ q, q = decide (0 ≤ x ∧ x ≤ 253402300799) := ⟨_, rfl⟩
  have HQ : Hid (q = decide (timP x)) := hq
  rw [← hq]
  clear hq
  go_wp2
  go_ret
  exact ⟨by rw [← HQ.out]; rfl, rfl⟩

end Go.Proofs.Ytlcojjcgaibbiaa
