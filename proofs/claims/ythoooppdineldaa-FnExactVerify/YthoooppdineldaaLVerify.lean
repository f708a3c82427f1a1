import Derived.Test.YthoooppdineldaaGH3
import Derived.Deep.DeepCutAuto
namespace Go.Proofs.Ythoooppdineldaa
open Go.RowKit

set_option maxHeartbeats 4000000 in
theorem lawVerify_walk (y : Int) (a : Option Addr) (n c : Nat) (ms : List Int) (p : Int × Int) (w : World) (h : Row w a n ms) (hmax : n ≤ 9223372036854775807) :
    Calls Try.prog 8 #[.int .i64 y, .slice a n c, sigv p] w fun e w' => e = .returned (.bool true) ∧ Below w.heap.size w w' := by
  have H0 : Hid (Row w a n ms) := h
  clear h
  have hb0 : Below w.heap.size w (w.alloc (.cells #[.int .i64 p.1, .int .i64 p.2] 40)) := (Below.refl _ _).alloc (Nat.le_refl _) _
  have hbx : BoxS 40 w.heap.size (w.alloc (.cells #[.int .i64 p.1, .int .i64 p.2] 40)) p := boxS_new 40 w p.1 p.2
  rw [sigv]
  by_cases hbig : 1048576 < n
  · go_enter Try.func8, Try.ntmps8
    go_wp2
    go_ret
    exact ⟨rfl, hb0⟩
  · have hn : n ≤ 1048576 := by omega
    obtain ⟨w1, hw1⟩ : ∃ w1, w1 = w.alloc (.cells #[.int .i64 p.1, .int .i64 p.2] 40) := ⟨_, rfl⟩
    rw [← hw1] at hbx hb0
    have HW1 : Hid (_ = _) := hw1
    clear hw1
    go_enter Try.func8, Try.ntmps8
    go_upto_region 3 with fail
    rw [← HW1.out]
    clear HW1
    have HXD : ∀ (w7 : World), Below w1.heap.size w1 w7 → w7.cell? ⟨w.heap.size, 0, none⟩ = some (.int .i64 p.1) ∧ w7.cell? ⟨w.heap.size, 1, none⟩ = some (.int .i64 p.2) := fun w7 h7 =>
      have hk := hbx.kept h7
      ⟨hk.c0, hk.c1⟩
    have HK3 : Hid (∀ w', Below w1.heap.size w1 w' → Row w' a n ms) := fun w' hw' => H0.out.kept (keep_first hb0 hw')
    have hcur : Below w1.heap.size w1 w1.drew := (Below.refl _ _).drew
    have SS := HXD w1.drew hcur
    go_region_held_law (fun w' => w'.cell? ⟨w.heap.size, 0, none⟩ = some (.int .i64 p.1) ∧ w'.cell? ⟨w.heap.size, 1, none⟩ = some (.int .i64 p.2)) (first | assumption | exact SS | exact SS1 | exact SS2 | exact SS3)
      (first
        | (go_at_call 16; refine (toByteS_any a n c ms _ (HK3.out _ hcur) hn).mono ?_; rintro e wa ⟨a1, rfl, ho1, hb_a⟩; have hr1 := ho1.toRow; have hn1 := ho1.nil; clear ho1; replace hcur := hcur.trans (hb_a.mono hcur.size); have SS1 := HXD _ hcur; clear hb_a)
        | (go_at_call 23; refine (toSig_any p _).mono ?_; rintro e wb ⟨rfl, hb_b⟩; (try replace hr1 := hr1.kept hb_b); replace hcur := hcur.trans (hb_b.mono hcur.size); have SS2 := HXD _ hcur; clear hb_b)
        | (go_at_call 22; refine (specVerify_any y a1 n n ms p _ hr1 hn hn1).mono ?_; rintro e wc ⟨rfl, hb_c⟩; replace hcur := hcur.trans (hb_c.mono hcur.size); have SS3 := HXD _ hcur; clear hb_c hr1))
    all_goals (
      clear SS SS1 SS2
      obtain ⟨q0, q1⟩ := SS3
      go_wp2_with fail
      refine (toByteS_any a n c ms _ (HK3.out _ hcur) hn).mono ?_
      rintro e w4 ⟨a4, rfl, ho4, hb4⟩
      have hn4 := ho4.nil
      have HR4 : Hid (Row w4 a4 n ms) := ho4.toRow
      replace hcur := hcur.trans (hb4.mono hcur.size)
      clear q0 q1 hb4 ho4
      obtain ⟨q0, q1⟩ := HXD _ hcur
      go_wp2_with fail
      refine (toSig_any p _).mono ?_
      rintro e w5 ⟨rfl, hb5⟩
      have HR5 : Hid (Row w5 a4 n ms) := HR4.out.kept hb5
      replace hcur := hcur.trans (hb5.mono hcur.size)
      clear q0 q1 hb5 HR4
      go_wp2_with fail
      refine (implVerify_any y a4 n n ms p _ HR5.out hn hn4).mono ?_
      rintro e w6 ⟨rfl, hb6⟩
      have HR6 : Hid (Row w6 a4 n ms) := HR5.out.kept hb6
      replace hcur := hcur.trans (hb6.mono hcur.size)
      clear hb6 HR5
      have zz : (decide (verP y ms p) != decide (verP y ms p)) = false := by simp
      go_wp2_with fail
      refine (toByteS_any a n c ms _ (HK3.out _ hcur) hn).mono ?_
      rintro e w7 ⟨a7, rfl, ho7, hb7⟩
      replace hcur := hcur.trans (hb7.mono hcur.size)
      go_wp2_with fail
      refine (eqByteS_any a4 a7 n n n n ms ms _ (HR6.out.kept hb7) ho7.toRow (by unfold maxLen; omega) (by unfold maxLen; omega)).mono ?_
      rintro e w8 ⟨rfl, hb8⟩
      rw [decide_eq_true (rfl : ms = ms)]
      replace hcur := hcur.trans (hb8.mono hcur.size)
      go_wp2
      go_ret
      exact ⟨rfl, keep_first hb0 hcur⟩)

end Go.Proofs.Ythoooppdineldaa
