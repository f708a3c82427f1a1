import Derived.Test.YthoooppdineldabD2
namespace Go.Proofs.Ythoooppdineldab
open Go.RowKit

theorem Shs.of_touch {lo hi : Nat} {w w' : World} {B : Nat} {a : Option Addr} {n cap : Nat} {ps : List (Int × Int)} (h : OwnSh B w a n cap ps) (hq : w.heap.size ≤ lo) {w2 : World} (hk : Shs w2 a n ps) (ht : Touch lo hi w2 w') : Shs w' a n ps :=
  hk.touch h.toShs.under hq ht

set_option maxRecDepth 10000 in
set_option maxHeartbeats 4000000 in
theorem lawDeal_walk (s : Int) (a : Option Addr) (n c : Nat) (ms : List Int) (t : Int) (w : World) (h : Row64 w a n ms) (hmax : n ≤ 9223372036854775807) :
    Calls Try.prog 6 #[.int .i64 s, .slice a n c, .int .i64 t] w fun e w' => e = .returned (.bool true) ∧ Below w.heap.size w w' := by
  have H0 : Hid (Row64 w a n ms) := h
  clear h
  by_cases hbig : 1048576 < n
  · go_enter Try.func6, Try.ntmps6
    go_wp2
    go_ret
    exact ⟨rfl, Below.refl _ _⟩
  · have hn : n ≤ 1048576 := by omega
    obtain ⟨ok, hok⟩ : ∃ ok, ok = decide (dealP s ms t) := ⟨_, rfl⟩
    have HOK : Hid (decide (dealP s ms t) = ok) := hok.symm
    obtain ⟨ps, hps⟩ : ∃ ps, ps = dealR s ms t := ⟨_, rfl⟩
    have HPS : Hid (dealR s ms t = ps) := hps.symm
    clear hok hps
    have zo : (ok != ok) = false := by simp
    go_enter Try.func6, Try.ntmps6
    go_wp2_with fail
    refine (toInt64S_any a n c ms _ H0.out hn).mono ?_
    rintro e w1 ⟨a1, rfl, ho1, hb1⟩
    go_wp2_with fail
    refine (specDeal_any s a1 n n ms t _ ho1.toRow (by omega)).mono ?_
    rintro e w2 ⟨aw, nw, cw, rfl, how, hlw, hb2⟩
    rw [HOK.out]
    rw [HPS.out] at how
    have B2 : Below w.heap.size w w2 := hb1.trans (hb2.mono hb1.size)
    have HOW : Hid (OwnSh w1.heap.size w2 aw nw cw ps) := how
    clear ho1 hb1 hb2 how
    go_wp2_with fail
    refine (toInt64S_any a n c ms _ (H0.out.kept B2) hn).mono ?_
    rintro e w3 ⟨a3, rfl, ho3, hb3⟩
    have B3 : Below w.heap.size w w3 := B2.trans (hb3.mono B2.size)
    have hs3 := hb3.size
    have HO3 : Hid (Own64 w2.heap.size w3.heap.size w3 a3 n n ms) := ho3
    have HB3 : Hid (Below w2.heap.size w2 w3) := hb3
    clear ho3 hb3
    go_wp2_with fail
    refine (implDeal_any s a3 n n ms t _ HO3.out.toRow (by omega)).mono ?_
    rintro e w4 ⟨ag, ng, cg, rfl, hog, hlg, hb4⟩
    rw [HOK.out]
    rw [HPS.out] at hog
    have hl1 := HOW.out.len
    have hl2 := hog.len
    have hnn : ng = nw := by omega
    subst hnn
    clear hl1 hl2
    have B4 : Below w.heap.size w w4 := B3.trans (hb4.mono B3.size)
    have D4 : Below w2.heap.size w2 w4 := HB3.out.trans (hb4.mono hs3)
    have HO4 : Hid (Own64 w2.heap.size w3.heap.size w4 a3 n n ms) := HO3.out.kept hb4
    have HG4 : Hid (OwnSh w3.heap.size w4 ag ng cg ps) := hog
    have hs4 := hb4.size
    clear HO3 hb4 hog
    go_wp2_with fail
    refine (eqShareS_same ag aw ng cg cw ps _ HG4.out.toShs (HOW.out.kept D4).toShs).mono ?_
    rintro e w5 ⟨rfl, hb5⟩
    have B5 : Below w.heap.size w w5 := B4.trans (hb5.mono B4.size)
    have hs5 := hb5.size
    go_wp2_with fail
    refine (toInt64S_any a n c ms _ (H0.out.kept B5) hn).mono ?_
    rintro e w6 ⟨a6, rfl, ho6, hb6⟩
    have D6 : Below w4.heap.size w4 w6 := hb5.trans (hb6.mono hs5)
    have HO6 : Hid (Row64 w6 a6 n ms) := ho6.toRow
    clear ho6 hb5 hb6
    go_wp2_with fail
    refine (eqInt64S_same a3 a6 n n n ms _ (HO4.out.kept D6).toRow HO6.out (by omega)).mono ?_
    rintro e w7 ⟨rfl, hb7⟩
    have D7 : Below w4.heap.size w4 w7 := D6.trans (hb7.mono D6.size)
    have B7 : Below w.heap.size w w7 := B4.trans (D7.mono B4.size)
    have hs7 := D7.size
    clear D6 hb7 HO6
    go_wp2_with fail
    refine (markInt64S_any w2.heap.size w3.heap.size a3 n n 1 ms _ (HO4.out.kept D7) (by omega) (by decide)).mono ?_
    rintro e w8 ⟨rfl, ht8⟩
    have hsw2 := B2.size
    have hs8 := ht8.size
    have B8 : Below w.heap.size w w8 := B7.trans (ht8.below (by omega) (by omega))
    have HG8 : Hid (OwnSh w3.heap.size w8 ag ng cg ps) := (HG4.out.kept D7).touch ht8 (Nat.le_refl _)
    have HW8 : Hid (Shs w8 aw ng ps) := Shs.of_touch HOW.out (Nat.le_refl _) ((HOW.out.kept D4).kept D7).toShs ht8
    clear HG4 D4 D7 ht8 HO4
    have k0 : ¬ (((1 + n : Nat) : Int) < 0) := by omega
    obtain ⟨kk, hkk⟩ : ∃ kk : Int, kk = ((1 + n : Nat) : Int) := ⟨_, rfl⟩
    rw [← hkk] at k0 ⊢
    clear hkk
    go_wp2_with fail
    refine (eqShareS_same ag aw ng cg cw ps _ HG8.out.toShs HW8.out).mono ?_
    rintro e w9 ⟨rfl, hb9⟩
    have B9 : Below w.heap.size w w9 := B8.trans (hb9.mono B8.size)
    have hs9 := hb9.size
    have ho9 := HG8.out.kept hb9
    have HW9 : Hid (Shs w9 aw ng ps) := HW8.out.kept hb9
    clear HG8 HW8 hb9
    go_wp2_with fail
    refine (markShareS_any w3.heap.size ag ng cg 1 ps _ ho9 (by omega) (by decide)).mono ?_
    rintro e w10 ⟨rfl, ho10, ht10⟩
    obtain ⟨mm, hmm⟩ : ∃ mm : Int, mm = ((1 + 2 * ng : Nat) : Int) := ⟨_, rfl⟩
    have m0 : ¬ mm < 0 := by omega
    have HMM : Hid (((1 + 2 * ng : Nat) : Int) = mm) := hmm.symm
    rw [← hmm]
    clear hmm
    have t1 : (mm != mm) = false := by simp
    have hr10 : Shs w10 aw ng ps := HW9.out.touch (q := w2.heap.size) HOW.out.toShs.under hs3 ht10
    have hsz10 := ht10.size
    have B10 : Below w.heap.size w w10 := B9.trans (ht10.below (by have := B3.size; omega) (by have := B9.size; omega))
    have HM10 : Hid (_) := ho10.toShs
    have HW10 : Hid (_) := hr10
    clear hr10 ho10 ht10 ho9 HW9
    go_wp2_with fail
    refine (heldShareS_any ag ng cg 1 _ HM10.out (by omega) (by decide)).mono ?_
    rintro e w11 ⟨rfl, hw11⟩
    subst hw11
    rw [HMM.out]
    go_wp2_with fail
    refine (toInt64S_any a n c ms _ (H0.out.kept B10) hn).mono ?_
    rintro e w12 ⟨a12, rfl, ho12, hb12⟩
    go_wp2_with fail
    refine (implDeal_any s a12 n n ms t _ ho12.toRow (by omega)).mono ?_
    rintro e w13 ⟨ar, nr, cr, rfl, hor, hlr, hb13⟩
    rw [HOK.out]
    rw [HPS.out] at hor
    have hl1 := HOW.out.len
    have hl2 := hor.len
    have hnn : nr = ng := by omega
    subst hnn
    have D13 : Below w11.heap.size w11 w13 := hb12.trans (hb13.mono hb12.size)
    clear hl1 hl2 hb12 hb13 ho12
    go_wp2_with fail
    refine (eqShareS_same ar aw nr cr cw ps _ hor.toShs (HW10.out.kept D13)).mono ?_
    rintro e w14 ⟨rfl, hb14⟩
    have D14 : Below w11.heap.size w11 w14 := D13.trans (hb14.mono D13.size)
    go_wp2_with fail
    refine (heldShareS_any ag nr cg 1 _ (HM10.out.kept D14) (by omega) (by decide)).mono ?_
    rintro e w15 ⟨rfl, hw15⟩
    subst hw15
    rw [HMM.out]
    go_wp2_with fail
    go_ret
    exact ⟨rfl, B10.trans (D14.mono B10.size)⟩

end Go.Proofs.Ythoooppdineldab
