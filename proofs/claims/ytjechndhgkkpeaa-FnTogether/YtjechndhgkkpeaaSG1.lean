import Derived.Test.YtjechndhgkkpeaaRG1
import Derived.Test.YtjechndhgkkpeaaGH3
import Derived.Test.YtjechndhgkkpeaaWRd2
import Derived.Test.YtjechndhgkkpeaaWL1
namespace Go.Proofs.Ytjechndhgkkpeaa
open Go.RowKit

set_option maxHeartbeats 400000 in
theorem in_t (x lo hi : Int) (w : World) (h : lo ≤ x ∧ x ≤ hi) : Calls Try.prog 16 #[.int .i64 x, .int .i64 lo, .int .i64 hi] w fun e w' => e = .returned (.bool true) ∧ w' = w := by
  obtain ⟨h1, h2⟩ := h
  go_enter Try.func16, Try.ntmps16
  go_wp2
  go_ret
  exact ⟨by simp [*], rfl⟩

set_option maxHeartbeats 400000 in
theorem in_f (x lo hi : Int) (w : World) (h : ¬ (lo ≤ x ∧ x ≤ hi)) : Calls Try.prog 16 #[.int .i64 x, .int .i64 lo, .int .i64 hi] w fun e w' => e = .returned (.bool false) ∧ w' = w := by
  by_cases h1 : lo ≤ x
  · have h2 : hi < x := by omega
    clear h
    go_enter Try.func16, Try.ntmps16
    go_wp2
    go_ret
    exact ⟨by simp [*], rfl⟩
  · have h2 : x < lo := by omega
    clear h h1
    go_enter Try.func16, Try.ntmps16
    go_wp2
    go_ret
    exact ⟨by simp [*], rfl⟩

def exps : List Int := [-1, 0, 1, 500000002, 500000003, 1000000007]
theorem exps_range (k : Nat) : -1 ≤ exps.getD k 0 ∧ exps.getD k 0 ≤ 1000000007 := by
  match k with
  | 0 | 1 | 2 | 3 | 4 | 5 => decide
  | k + 6 => simp [exps]
theorem exps_cell (w : World) (k : Nat) (h : k < 6) : (w.alloc (.cells #[.int .i64 (-1), .int .i64 0, .int .i64 1, .int .i64 500000002, .int .i64 500000003, .int .i64 1000000007] 2)).cell? ⟨w.heap.size, k, none⟩ = some (.int .i64 (exps.getD k 0)) := by
  rw [cell_of_row _ w.heap.size k _ 2 (0, 0) (heap_alloc_new w _)]
  have hc : k = 0 ∨ k = 1 ∨ k = 2 ∨ k = 3 ∨ k = 4 ∨ k = 5 := by omega
  rcases hc with rfl | rfl | rfl | rfl | rfl | rfl <;> rfl

set_option maxHeartbeats 1000000 in
theorem drawExp_any (g : Nat) (a : Option Addr) (n cap : Nat) (bs : List Int) (w : World) (h : Rd w g a n cap bs) :
    Calls Try.prog 20 #[.pointer (some ⟨g, 0, none⟩)] w fun e w' => ∃ v : Int, e = .returned (.int .i64 v) ∧ -1 ≤ v ∧ v ≤ 1000000007 ∧ RdPost w g a n cap bs w' := by
  have H : Hid (Rd w g a n cap bs) := h
  clear h
  go_enter Try.func20, Try.ntmps20
  go_wp2_with fail
  refine (once_any g a n cap bs 12 _ H.out (by decide) (by decide)).mono ?_
  rintro e w1 ⟨c, rfl, hp1⟩
  cases c
  · go_wp2_with fail
    refine (word_any g a n cap bs _ hp1.1).mono ?_
    rintro e w2 ⟨v, rfl, hv0, hv1, hp2⟩
    have hm0 : 0 ≤ v % 500000003 := by omega
    have hm1 : v % 500000003 ≤ 500000002 := by omega
    go_wp2
    go_ret
    exact ⟨v % 500000003, rfl, by omega, by omega, hp1.step hp2⟩
  · go_wp2_with fail
    refine (below_any g a n cap bs 6 _ (hp1.alloc _).1 (by decide)).mono ?_
    rintro e w2 ⟨v, rfl, hv0, hv1, hp2⟩
    obtain ⟨k, rfl⟩ := Int.eq_ofNat_of_zero_le hv0
    have hk : k < 6 := by omega
    have hki : (k : Int) < 6 := by omega
    have hgl : g < w1.heap.size := hp1.1.lt
    have hcell : w2.cell? ⟨w1.heap.size, k, none⟩ = some (.int .i64 (exps.getD k 0)) :=
      (World.cell?_of_block (a := ⟨w1.heap.size, k, none⟩) (hp2.2.block w1.heap.size (by simp) (.inr (by omega)))).trans (exps_cell w1 k hk)
    obtain ⟨y, hy⟩ : ∃ y, y = exps.getD k 0 := ⟨_, rfl⟩
    have hyr := exps_range k
    rw [← hy] at hcell hyr
    clear hy
    go_wp2
    go_ret
    exact ⟨y, rfl, hyr.1, hyr.2, (hp1.alloc _).step hp2⟩

end Go.Proofs.Ytjechndhgkkpeaa
