import Derived.Test.YtifdcfchliaipaaQL12i
import Derived.Test.YtifdcfchliaipaaQL12s
namespace Go.Proofs.Ytifdcfchliaipaa
open Go.RowKit Go.Sort

set_option maxRecDepth 10000 in
set_option maxHeartbeats 4000000 in
theorem lawTile_walk (a : Option Addr) (n c : Nat) (zs : List Int) (lv : Int) (ix : Int) (w : World) (h : RowU w a n zs ∧ n ≤ 9223372036854775807) :
    Calls Try.prog 9 #[.slice a n c, .int .i64 lv, .int .i64 ix] w fun e w' => e = .returned (.bool true) ∧ Below w.heap.size w w' := by
  have H0 : Hid (RowU w a n zs) := h.1
  have hmx := h.2
  clear h
  by_cases hbig : 1048576 < n
  · go_enter Try.func9, Try.ntmps9
    go_wp2
    go_ret
    exact ⟨rfl, Below.refl _ _⟩
  · have hn : n ≤ 1048576 := by omega
    obtain ⟨t, ht⟩ : ∃ t, t = tileR zs lv ix := ⟨_, rfl⟩
    obtain ⟨L, hL⟩ : ∃ L, L = t.1.length := ⟨_, rfl⟩
    have hLb : L ≤ 1002 := by rw [hL, ht]; exact tileR_le zs lv ix
    have SP := fun (a1 : Option Addr) (W : World) (hr : RowU W a1 n zs) => specTile_any a1 n n zs lv ix W hr hn (Nat.le_refl _) (by omega)
    have IM := fun (a1 : Option Addr) (W : World) (hr : RowU W a1 n zs) => implTile_any a1 n n zs lv ix W hr hn (Nat.le_refl _) (by omega)
    rw [← ht] at SP IM
    rw [← hL] at SP IM
    have HSP : Hid (_) := SP
    have HIM : Hid (_) := IM
    obtain ⟨ls, ok⟩ := t
    clear hL ht SP IM
    go_enter Try.func9, Try.ntmps9
    go_wp2_with fail
    refine (toUint64S_any a n c zs _ H0.out hn).mono ?_
    rintro e w1 ⟨a1, rfl, ho1, hb1⟩
    go_wp2_with fail
    refine (HSP.out a1 _ ho1.toRow).mono ?_
    rintro e w2 ⟨aw, cw, rfl, how, hb2⟩
    have B2 : Below w.heap.size w w2 := keepT hb1 hb2
    have HOW : Hid (RowU w2 aw L ls) := how.toRow
    have HWB : Hid (∀ x, aw = some x → x.block < w2.heap.size) := fun x hx => (how.blk x hx).2
    clear ho1 hb1 hb2 how
    go_wp2_with fail
    refine (toUint64S_any a n c zs _ (H0.out.kept B2) hn).mono ?_
    rintro e w3 ⟨a3, rfl, ho3, hb3⟩
    have B3 : Below w.heap.size w w3 := keepT B2 hb3
    have hs3 := hb3.size
    have HO3 : Hid (OwnU w2.heap.size w3 a3 n n zs) := ho3
    have HI3 : Hid (∀ x, a3 = some x → w2.heap.size ≤ x.block ∧ x.block < w3.heap.size) := ho3.blk
    have HB3 : Hid (Below w2.heap.size w2 w3) := hb3
    clear ho3 hb3
    go_wp2_with fail
    refine (HIM.out a3 _ HO3.out.toRow).mono ?_
    rintro e w4 ⟨ag, cg, rfl, hog, hb4⟩
    have B4 : Below w.heap.size w w4 := keepT B3 hb4
    have D4 : Below w2.heap.size w2 w4 := keepT HB3.out hb4
    have HO4 : Hid (OwnU w2.heap.size w4 a3 n n zs) := HO3.out.kept hb4
    have HG4 : Hid (OwnU w3.heap.size w4 ag L cg ls) := hog
    have HGB : Hid (∀ x, ag = some x → w3.heap.size ≤ x.block ∧ x.block < w4.heap.size) := hog.blk
    have hs4 := hb4.size
    clear HO3 hb4 hog
    have t0 : (ok != ok) = false := by simp
    go_wp2_with fail
    refine (eqUint64S_same ag aw L cg cw ls _ HG4.out.toRow (HOW.out.kept D4) (by omega)).mono ?_
    rintro e w5 ⟨rfl, hb5⟩
    have B5 : Below w.heap.size w w5 := keepT B4 hb5
    have hs5 := hb5.size
    go_wp2_with fail
    refine (toUint64S_any a n c zs _ (H0.out.kept B5) hn).mono ?_
    rintro e w6 ⟨a6, rfl, ho6, hb6⟩
    have D6 : Below w4.heap.size w4 w6 := keepT hb5 hb6
    have HO6 : Hid (RowU w6 a6 n zs) := ho6.toRow
    clear ho6 hb5 hb6
    go_wp2_with fail
    refine (eqUint64S_same a3 a6 n n n zs _ (HO4.out.kept D6).toRow HO6.out (by omega)).mono ?_
    rintro e w7 ⟨rfl, hb7⟩
    have D7 : Below w4.heap.size w4 w7 := keepT D6 hb7
    have B7 : Below w.heap.size w w7 := keepT B4 D7
    have hs7 := D7.size
    clear D6 hb7 HO6
    go_wp2_with fail
    have ho7 := HO4.out.kept D7
    refine (markU_any w2.heap.size a3 n n 1 zs _ ho7 (by omega) (by decide)).mono ?_
    rintro e w8 ⟨rfl, _, hg8⟩
    have hsw2 := B2.size
    have hs8 := hg8.size
    have B8 : Below w.heap.size w w8 := below_grownU B7 (by omega) hg8 (fun x hx => by have := (HI3.out x hx).1; omega)
    have HG8 : Hid (OwnU w3.heap.size w8 ag L cg ls) := (HG4.out.kept D7).grownU hg8 (fun x y hx hy => by have h1 := HI3.out x hx; have h2 := HGB.out y hy; omega)
    have HW8 : Hid (RowU w8 aw L ls) := (HOW.out.kept (keepT D4 D7)).grownU hg8 (fun x y hx hy => by have h1 := HI3.out x hx; have h2 := HWB.out y hy; omega)
    clear HG4 D4 D7 hg8 ho7 HO4
    have k0 : ¬ (((1 + n : Nat) : Int) < 0) := by omega
    obtain ⟨kk, hkk⟩ : ∃ kk : Int, kk = ((1 + n : Nat) : Int) := ⟨_, rfl⟩
    rw [← hkk] at k0 ⊢
    clear hkk
    go_wp2_with fail
    refine (eqUint64S_same ag aw L cg cw ls _ HG8.out.toRow HW8.out (by omega)).mono ?_
    rintro e w9 ⟨rfl, hb9⟩
    have B9 : Below w.heap.size w w9 := keepT B8 hb9
    have hs9 := hb9.size
    have HG9 : Hid (OwnU w3.heap.size w9 ag L cg ls) := HG8.out.kept hb9
    have HW9 : Hid (RowU w9 aw L ls) := HW8.out.kept hb9
    clear HG8 HW8 hb9
    go_wp2_with fail
    refine (markU_any w3.heap.size ag L cg 1 ls _ HG9.out (by omega) (by decide)).mono ?_
    rintro e w10 ⟨rfl, ho10, hg10⟩
    have HW10 : Hid (RowU w10 aw L ls) := HW9.out.grownU hg10 (fun x y hx hy => by have h1 := HGB.out x hx; have h2 := HWB.out y hy; omega)
    have B10 : Below w.heap.size w w10 := below_grownU B9 (by have := B9.size; omega) hg10 (fun x hx => by have := (HGB.out x hx).1; omega)
    have HM10 : Hid (RowU w10 ag L (marksU 1 L)) := ho10.toRow
    clear ho10 hg10 HG9 HW9
    have m0 : ¬ (((1 + L : Nat) : Int) < 0) := by omega
    obtain ⟨mm, hmm⟩ : ∃ mm : Int, mm = ((1 + L : Nat) : Int) := ⟨_, rfl⟩
    have HMM : Hid (mm = ((1 + L : Nat) : Int)) := hmm
    have t1 : (mm != mm) = false := by simp
    rw [← hmm] at m0 ⊢
    clear hmm
    go_wp2_with fail
    refine (heldU_any ag L cg 1 _ HM10.out (by omega) (by decide)).mono ?_
    rintro e w11 ⟨rfl, hw11⟩
    subst hw11
    rw [← HMM.out]
    go_wp2_with fail
    refine (toUint64S_any a n c zs _ (H0.out.kept B10) hn).mono ?_
    rintro e w12 ⟨a12, rfl, ho12, hb12⟩
    go_wp2_with fail
    refine (HIM.out a12 _ ho12.toRow).mono ?_
    rintro e w13 ⟨ar, cr, rfl, hor, hb13⟩
    have D13 : Below w11.heap.size w11 w13 := keepT hb12 hb13
    clear hb12 hb13 ho12
    go_wp2_with fail
    refine (eqUint64S_same ar aw L cr cw ls _ hor.toRow (HW10.out.kept D13) (by omega)).mono ?_
    rintro e w14 ⟨rfl, hb14⟩
    have D14 : Below w11.heap.size w11 w14 := keepT D13 hb14
    go_wp2_with fail
    refine (heldU_any ag L cg 1 _ (HM10.out.kept D14) (by omega) (by decide)).mono ?_
    rintro e w15 ⟨rfl, hw15⟩
    subst hw15
    rw [← HMM.out]
    go_wp2_with fail
    go_ret
    exact ⟨rfl, keepT B10 D14⟩

end Go.Proofs.Ytifdcfchliaipaa
