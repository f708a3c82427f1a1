import Derived.Test.YtaiflnccpgcklaaDoorSS0
import Derived.Test.YtaiflnccpgcklaaDoorStrs
import Derived.Test.YtaiflnccpgcklaaDoorShelf
import Derived.Lib.AppendIntMem
namespace Go.Proofs.YtaiflnccpgcklaaDoor
open Go.RowKit

def PowW (w : World) : Prop := Lib.TabIs Tryd.prog w "internal/strconv.uint64pow10" .u64 Lib.pow10Tab
theorem PowW.kept {w w' : World} (h : PowW w) (hb : Below w.heap.size w w') : PowW w' := Lib.tabBelow_of_tabIs h w' hb
/-- The table of the kinds' words. -/
structure FormW (w : World) : Prop where
  word : ∀ k, k ≤ 9 → w.cell? ⟨0, k * 3, none⟩ = some (.string (kword k))
  lo : ∀ k, k ≤ 9 → w.cell? ⟨0, k * 3 + 1, none⟩ = some (.bool (kLo k))
  hi : ∀ k, k ≤ 9 → w.cell? ⟨0, k * 3 + 2, none⟩ = some (.bool (kHi k))
theorem FormW.lt {w : World} (h : FormW w) : 0 < w.heap.size := World.block_lt_of_cell? w _ (h.word 0 (by decide))
theorem FormW.kept {w w' : World} (h : FormW w) (hb : Below w.heap.size w w') : FormW w' :=
  ⟨fun k hk => (hb.cell (p := ⟨0, k * 3, none⟩) h.lt).trans (h.word k hk), fun k hk => (hb.cell (p := ⟨0, k * 3 + 1, none⟩) h.lt).trans (h.lo k hk), fun k hk => (hb.cell (p := ⟨0, k * 3 + 2, none⟩) h.lt).trans (h.hi k hk)⟩

set_option maxHeartbeats 1000000 in
theorem showNumber_any (n : Int) (w : World) (hP : PowW w) (h0 : -4611686018427387904 ≤ n) (h1 : n ≤ 4611686018427387904) :
    Calls Tryd.prog 29 #[.int .i64 n] w fun e w' => e = .returned (.string (num n)) ∧ Below w.heap.size w w' := by
  have HW : Hid (PowW w) := hP
  clear hP
  go_enter Tryd.func29, Tryd.ntmps29
  go_wp2_with fail
  refine (Tryd.strconv_FormatInt_10 n (by omega) (by omega) _ HW.out).mono ?_
  rintro e w1 ⟨rfl, kk, os, hw1⟩
  have hb1 : Below w.heap.size w w1 := by rw [hw1]; exact Lib.below_grow _ w (Nat.le_refl _) kk os
  clear hw1
  go_wp2
  go_ret
  exact ⟨rfl, hb1⟩
theorem itoa_any (n : Nat) (w : World) (hP : PowW w) (h1 : n ≤ 4611686018427387904) :
    Calls Tryd.prog 28 #[.int .i64 n] w fun e w' => e = .returned (.string (num n)) ∧ Below w.heap.size w w' := by
  refine (Tryd.strconv_Itoa n (by omega) (by omega) w hP).mono ?_
  rintro e w1 ⟨rfl, kk, os, hw1⟩
  refine ⟨rfl, ?_⟩
  rw [hw1]
  exact Lib.below_grow _ w (Nat.le_refl _) kk os

/-- A variable that holds a type. -/
structure BoxT (t b : Nat) (W : World) (x : ST) (a : Option Addr) (n c : Nat) : Prop where
  heap : W.heap[b]? = some (.cells #[.int .i64 x.kind, .int .i64 x.lo, .int .i64 x.hi, .bool x.ext, .bool x.opt, .slice a n c] t (0, 0))
theorem BoxT.cells {t b : Nat} {W : World} {x : ST} {a : Option Addr} {n c : Nat} (h : BoxT t b W x a n c) :
    W.cell? ⟨b, 0, none⟩ = some (.int .i64 x.kind) ∧ W.cell? ⟨b, 1, none⟩ = some (.int .i64 x.lo) ∧ W.cell? ⟨b, 2, none⟩ = some (.int .i64 x.hi) ∧ W.cell? ⟨b, 3, none⟩ = some (.bool x.ext) ∧ W.cell? ⟨b, 4, none⟩ = some (.bool x.opt) ∧ W.cell? ⟨b, 5, none⟩ = some (.slice a n c) :=
  ⟨(cell_of_row _ b 0 _ t (0, 0) h.heap).trans rfl, (cell_of_row _ b 1 _ t (0, 0) h.heap).trans rfl, (cell_of_row _ b 2 _ t (0, 0) h.heap).trans rfl, (cell_of_row _ b 3 _ t (0, 0) h.heap).trans rfl, (cell_of_row _ b 4 _ t (0, 0) h.heap).trans rfl, (cell_of_row _ b 5 _ t (0, 0) h.heap).trans rfl⟩
theorem BoxT.kept {t b : Nat} {W W' : World} {x : ST} {a : Option Addr} {n c : Nat} (h : BoxT t b W x a n c) (hb : Below W.heap.size W W') : BoxT t b W' x a n c := ⟨(hb.block _ (Array.getElem?_eq_some_iff.1 h.heap).1).trans h.heap⟩
theorem boxT_new (t : Nat) (w : World) (x : ST) (a : Option Addr) (n c : Nat) : BoxT t w.heap.size (w.alloc (.cells #[.int .i64 x.kind, .int .i64 x.lo, .int .i64 x.hi, .bool x.ext, .bool x.opt, .slice a n c] t)) x a n c := ⟨heap_alloc_new w _⟩

end Go.Proofs.YtaiflnccpgcklaaDoor
