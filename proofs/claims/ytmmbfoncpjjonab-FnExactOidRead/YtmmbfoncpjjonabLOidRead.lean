import Derived.Test.YtmmbfoncpjjonabR3
import Derived.Test.YtmmbfoncpjjonabWMark
namespace Go.Proofs.Ytmmbfoncpjjonab
open Go.RowKit

theorem Row64.touch' {p q lo hi : Nat} {w w' : World} {a : Option Addr} {n : Nat} {zs : List Int} (h : Row64 w a n zs) (hd : ∀ x, a = some x → p ≤ x.block ∧ x.block < q) (hh : q ≤ lo ∨ hi ≤ p) (ht : Touch lo hi w w') : Row64 w' a n zs := by
  refine ⟨h.len, fun k hk => ?_⟩
  obtain ⟨b, off, ha, hlt, hc⟩ := h.get k hk
  have hb := hd _ ha
  simp at hb
  exact ⟨b, off, ha, Nat.lt_of_lt_of_le hlt ht.size, (World.cell?_of_block (a := ⟨b, off + k, none⟩) (ht.block b hlt (by omega))).trans hc⟩
theorem Own64.lo {lo hi : Nat} {w : World} {a : Option Addr} {n cap : Nat} {zs : List Int} (h : Own64 lo hi w a n cap zs) : ∀ x, a = some x → lo ≤ x.block ∧ x.block < hi := fun x hx => by
  subst hx
  exact ⟨(h.row.lt x.block rfl).1, h.lt x rfl⟩

set_option maxRecDepth 10000 in
set_option maxHeartbeats 4000000 in
theorem lawOidRead_walk (a : Option Addr) (n c : Nat) (zz : List Int) (w : World) (hr : IsRow .u8 w a n c zz) :
    Calls Try.prog 4 #[.slice a n c] w fun e w' => e = .returned (.bool true) ∧ Below w.heap.size w w' := by
  obtain ⟨hrow, hmax⟩ := hr.row
  obtain ⟨bs, hbs⟩ : ∃ bs, bs = zz.take n := ⟨_, rfl⟩
  rw [← hbs] at hrow
  clear hbs hr
  unfold maxLen at hmax
  have H0 : Hid (Row w a n bs) := hrow
  clear hrow
  by_cases hbig : 1048576 < n
  · go_enter Try.func4, Try.ntmps4
    go_wp2
    go_ret
    exact ⟨rfl, Below.refl _ _⟩
  · have hn : n ≤ 1048576 := by omega
    have hm : n ≤ maxLen := by unfold maxLen; omega
    go_enter Try.func4, Try.ntmps4
    go_wp2_with fail
    refine (toByteS_any a n c bs _ H0.out hn).mono ?_
    rintro e w1 ⟨a1, rfl, ho1, hb1⟩
    go_wp2_with fail
    refine (specOidRead_any a1 n n bs _ ho1.toRow hn).mono ?_
    rintro e w2 ⟨aw, nw, cw, zs, ok, rfl, hr1, hlw, how, hb2⟩
    have B2 : Below w.heap.size w w2 := hb1.trans (hb2.mono hb1.size)
    have HR1 : Hid (oidR bs zs ok) := hr1
    have HOW : Hid (Own64 w1.heap.size w2.heap.size w2 aw nw cw zs) := how
    clear hr1 ho1 hb1 hb2 how
    go_wp2_with fail
    refine (toByteS_any a n c bs _ (H0.out.kept B2) hn).mono ?_
    rintro e w3 ⟨a3, rfl, ho3, hb3⟩
    have B3 : Below w.heap.size w w3 := B2.trans (hb3.mono B2.size)
    have hs3 := hb3.size
    have HO3 : Hid (Own w2.heap.size w3 a3 n n bs) := ho3
    have HI3 : Hid (In a3 n w2.heap.size w3.heap.size) := ho3.in_
    have HB3 : Hid (Below w2.heap.size w2 w3) := hb3
    clear ho3 hb3
    go_wp2_with fail
    refine (implOidRead_any a3 n n bs _ HO3.out.toRow hn).mono ?_
    rintro e w4 ⟨ag, ng, cg, zs2, ok2, rfl, hr2, hlg, hog, hb4⟩
    obtain ⟨e1, e2⟩ := oidR_one hr2 HR1.out
    subst e1
    subst e2
    have hl1 := HOW.out.toRow.len
    have hl2 := hog.toRow.len
    have hnn : ng = nw := by omega
    subst hnn
    clear hl1 hl2 hr2
    have B4 : Below w.heap.size w w4 := B3.trans (hb4.mono B3.size)
    have D4 : Below w2.heap.size w2 w4 := HB3.out.trans (hb4.mono hs3)
    have HO4 : Hid (Own w2.heap.size w4 a3 n n bs) := HO3.out.kept hb4
    have HG4 : Hid (Own64 w3.heap.size w4.heap.size w4 ag ng cg zs2) := hog
    have hs4 := hb4.size
    clear HO3 hb4 hog
    have t0 : (ok2 != ok2) = false := by simp
    go_wp2_with fail
    refine (eqInt64S_same ag aw ng cg cw zs2 _ HG4.out.toRow (HOW.out.kept D4).toRow (by omega)).mono ?_
    rintro e w5 ⟨rfl, hb5⟩
    have B5 : Below w.heap.size w w5 := B4.trans (hb5.mono B4.size)
    have hs5 := hb5.size
    go_wp2_with fail
    refine (toByteS_any a n c bs _ (H0.out.kept B5) hn).mono ?_
    rintro e w6 ⟨a6, rfl, ho6, hb6⟩
    have D6 : Below w4.heap.size w4 w6 := hb5.trans (hb6.mono hs5)
    have HO6 : Hid (Row w6 a6 n bs) := ho6.toRow
    clear ho6 hb5 hb6
    go_wp2_with fail
    refine (eqByteS_any a3 a6 n n n n bs bs _ (HO4.out.kept D6).toRow HO6.out hm hm).mono ?_
    rintro e w7 ⟨rfl, hb7⟩
    rw [decide_eq_true (rfl : bs = bs)]
    have D7 : Below w4.heap.size w4 w7 := D6.trans (hb7.mono D6.size)
    have B7 : Below w.heap.size w w7 := B4.trans (D7.mono B4.size)
    have hs7 := D7.size
    clear D6 hb7 HO6
    go_wp2_with fail
    have ho7 := HO4.out.kept D7
    refine (markByteS_t w2.heap.size a3 n n 1 bs _ (fun _ => ho7) (by omega) (by decide) (by decide)).mono ?_
    rintro e w8 ⟨rfl, _, _, hT8⟩
    have ht8 : Touch w2.heap.size w3.heap.size w7 w8 := hT8 _ _ HI3.out
    have hsw2 := B2.size
    have hs8 := ht8.size
    have B8 : Below w.heap.size w w8 := B7.trans (ht8.below (by omega) (by omega))
    have HG8 : Hid (Own64 w3.heap.size w4.heap.size w8 ag ng cg zs2) := (HG4.out.kept D7).touch (.inr (Nat.le_refl _)) ht8
    have HW8 : Hid (Row64 w8 aw ng zs2) := ((HOW.out.kept D4).kept D7).toRow.touch' HOW.out.lo (.inl (Nat.le_refl _)) ht8
    clear HG4 D4 D7 ht8 hT8 ho7 HO4
    have k0 : ¬ ((1 : Int) + (n : Int) < 0) := by omega
    obtain ⟨kk, hkk⟩ : ∃ kk : Int, kk = (1 : Int) + (n : Int) := ⟨_, rfl⟩
    rw [← hkk] at k0 ⊢
    clear hkk
    go_wp2_with fail
    refine (eqInt64S_same ag aw ng cg cw zs2 _ HG8.out.toRow HW8.out (by omega)).mono ?_
    rintro e w9 ⟨rfl, hb9⟩
    have B9 : Below w.heap.size w w9 := B8.trans (hb9.mono B8.size)
    have hs9 := hb9.size
    have HG9 : Hid (Own64 w3.heap.size w4.heap.size w9 ag ng cg zs2) := HG8.out.kept hb9
    have HW9 : Hid (Row64 w9 aw ng zs2) := HW8.out.kept hb9
    clear HG8 HW8 hb9
    go_wp2_with fail
    refine (markInt64S_own w3.heap.size w4.heap.size ag ng cg 1 zs2 _ HG9.out (by omega) (by decide)).mono ?_
    rintro e w10 ⟨rfl, ho10, ht10⟩
    have HW10 : Hid (Row64 w10 aw ng zs2) := HW9.out.touch' HOW.out.lo (.inl (by omega)) ht10
    have B10 : Below w.heap.size w w10 := B9.trans (ht10.below (by omega) (by have := B9.size; omega))
    have HM10 : Hid (Row64 w10 ag ng (mk64 1 ng)) := ho10.toRow
    clear ho10 ht10 HG9 HW9
    have m0 : ¬ (((1 + ng : Nat) : Int) < 0) := by omega
    obtain ⟨mm, hmm⟩ : ∃ mm : Int, mm = ((1 + ng : Nat) : Int) := ⟨_, rfl⟩
    have HMM : Hid (mm = ((1 + ng : Nat) : Int)) := hmm
    have t1 : (mm != mm) = false := by simp
    rw [← hmm] at m0 ⊢
    clear hmm
    go_wp2_with fail
    refine (heldInt64S_any ag ng cg 1 _ HM10.out (by omega) (by decide)).mono ?_
    rintro e w11 ⟨rfl, hw11⟩
    subst hw11
    rw [← HMM.out]
    go_wp2_with fail
    refine (toByteS_any a n c bs _ (H0.out.kept B10) hn).mono ?_
    rintro e w12 ⟨a12, rfl, ho12, hb12⟩
    go_wp2_with fail
    refine (implOidRead_any a12 n n bs _ ho12.toRow hn).mono ?_
    rintro e w13 ⟨ar, nr, cr, zs3, ok3, rfl, hr3, hlr, hor, hb13⟩
    obtain ⟨e1, e2⟩ := oidR_one hr3 HR1.out
    subst e1
    subst e2
    have hl1 := HOW.out.toRow.len
    have hl2 := hor.toRow.len
    have hnn : nr = ng := by omega
    subst hnn
    have D13 : Below w11.heap.size w11 w13 := hb12.trans (hb13.mono hb12.size)
    clear hl1 hl2 hr3 hb12 hb13 ho12
    go_wp2_with fail
    refine (eqInt64S_same ar aw nr cr cw zs3 _ hor.toRow (HW10.out.kept D13) (by omega)).mono ?_
    rintro e w14 ⟨rfl, hb14⟩
    have D14 : Below w11.heap.size w11 w14 := D13.trans (hb14.mono D13.size)
    go_wp2_with fail
    refine (heldInt64S_any ag nr cg 1 _ (HM10.out.kept D14) (by omega) (by decide)).mono ?_
    rintro e w15 ⟨rfl, hw15⟩
    subst hw15
    rw [← HMM.out]
    go_wp2_with fail
    go_ret
    exact ⟨rfl, B10.trans (D14.mono B10.size)⟩

end Go.Proofs.Ytmmbfoncpjjonab
