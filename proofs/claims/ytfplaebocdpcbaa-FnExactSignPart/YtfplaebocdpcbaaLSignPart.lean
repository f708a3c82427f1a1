import Derived.Test.YtfplaebocdpcbaaGJ3
import Derived.Deep.RegionHeldLaw
namespace Go.Proofs.Ytfplaebocdpcbaa
open Go.RowKit

set_option maxHeartbeats 4000000 in
theorem lawSignPart_walk (p : Int × Int) (a : Option Addr) (n c : Nat) (zs : List Int) (k e : Int) (w : World) (h : Row64 w a n zs) (hmax : n ≤ 9223372036854775807) :
    Calls Try.prog 5 #[sigv p, .slice a n c, .int .i64 k, .int .i64 e] w fun r w' => r = .returned (.bool true) ∧ Below w.heap.size w w' := by
  have H0 : Hid (Row64 w a n zs) := h
  clear h
  have hb0 : Below w.heap.size w (w.alloc (.cells #[.int .i64 p.1, .int .i64 p.2] 36)) := (Below.refl _ _).alloc (Nat.le_refl _) _
  have hbx : BoxS 36 w.heap.size (w.alloc (.cells #[.int .i64 p.1, .int .i64 p.2] 36)) p := boxS_new 36 w p.1 p.2
  rw [sigv]
  by_cases hbig : 1048576 < n
  · go_enter Try.func5, Try.ntmps5
    go_wp2
    go_ret
    exact ⟨rfl, hb0⟩
  · have hn : n ≤ 1048576 := by omega
    obtain ⟨w1, hw1⟩ : ∃ w1, w1 = w.alloc (.cells #[.int .i64 p.1, .int .i64 p.2] 36) := ⟨_, rfl⟩
    rw [← hw1] at hbx hb0
    have HW1 : Hid (_ = _) := hw1
    clear hw1
    go_enter Try.func5, Try.ntmps5
    go_wp2_with fail
    rw [← HW1.out]
    clear HW1
    refine (toShare_any p _).mono ?_
    rintro r w2 ⟨rfl, hb2⟩
    have B2 := keep3 hb0 hb2
    have hbx2 := hbx.kept hb2
    clear hb0 hbx hb2
    go_wp2_with fail
    refine (toInt64S_any a n c zs _ (H0.out.kept B2) hn).mono ?_
    rintro r w3 ⟨a3, rfl, ho3, hb3⟩
    have B3 := keep3 B2 hb3
    have hbx3 := hbx2.kept hb3
    clear B2 hbx2 hb3
    go_wp2_with fail
    refine (specSignPart_any p a3 n n zs k e _ ho3.toRow (Nat.le_refl _) (by omega)).mono ?_
    rintro r w4 ⟨rfl, hb4⟩
    have B4 := keep3 B3 hb4
    have hbx4 := hbx3.kept hb4
    clear B3 hbx3 hb4 ho3
    obtain ⟨t, ht⟩ : ∃ t, t = partR p zs k e := ⟨_, rfl⟩
    have HT : Hid (t = partR p zs k e) := ht
    rw [← ht, pair]
    clear ht
    obtain ⟨v, ok⟩ := t
    go_wp2_with fail
    refine (toInt64S_any a n c zs _ (H0.out.kept B4) hn).mono ?_
    rintro r w5 ⟨a5, rfl, ho5, hb5⟩
    have B5 := keep3 B4 hb5
    have hbx5 := hbx4.kept hb5
    have HO5 : Hid (Row64 w5 a5 n zs) := ho5.toRow
    have q0 := hbx5.c0
    have q1 := hbx5.c1
    clear B4 hbx4 hb5 ho5
    go_wp2_with fail
    refine (toShare_any p _).mono ?_
    rintro r w6 ⟨rfl, hb6⟩
    have B6 := keep3 B5 hb6
    have HO6 : Hid (Row64 w6 a5 n zs) := HO5.out.kept hb6
    clear B5 hb6 HO5 hbx5 q0 q1
    go_wp2_with fail
    refine (implSignPart_any p a5 n n zs k e _ HO6.out (Nat.le_refl _) (by omega)).mono ?_
    rintro r w7 ⟨rfl, hb7⟩
    have B7 := keep3 B6 hb7
    have HO7 : Hid (Row64 w7 a5 n zs) := HO6.out.kept hb7
    rw [← HT.out, pair]
    clear B6 hb7 HO6
    have z1 : (v != v) = false := by simp
    have z2 : (ok != ok) = false := by simp
    go_wp2_with fail
    refine (toInt64S_any a n c zs _ (H0.out.kept B7) hn).mono ?_
    rintro r w8 ⟨a8, rfl, ho8, hb8⟩
    have B8 := keep3 B7 hb8
    go_wp2_with fail
    refine (eqInt64S_same a5 a8 n n n zs _ (HO7.out.kept hb8) ho8.toRow (by omega)).mono ?_
    rintro r w9 ⟨rfl, hb9⟩
    have B9 := keep3 B8 hb9
    go_wp2
    go_ret
    exact ⟨rfl, B9⟩

end Go.Proofs.Ytfplaebocdpcbaa
