import Derived.Test.YtpnaopmpiobemaaM2
namespace Go.Proofs.Ytpnaopmpiobemaa
open Go.RowKit

def rcRes (bs : List Int) (bss : List (List Int)) (code : Int) : Prop := (code = 0 ∧ rcF bs bss) ∨ (code = 1 ∧ (∀ b, ¬ rcF bs b) ∧ bss = [])
theorem rcRes_one {bs : List Int} {b1 b2 : List (List Int)} {c1 c2 : Int} (h : rcRes bs b1 c1) (g : rcRes bs b2 c2) : b1 = b2 ∧ c1 = c2 := by
  rcases h with ⟨a, b⟩ | ⟨a, b, c⟩ <;> rcases g with ⟨d, e⟩ | ⟨d, e, f⟩
  · exact ⟨rcF_one b e, a.trans d.symm⟩
  · exact absurd b (e _)
  · exact absurd e (b _)
  · exact ⟨c.trans f.symm, a.trans d.symm⟩
theorem RcR.form {bs : List Int} {w w' : World} {e : Ending} (h : RcR bs w e w') : ∃ (n cap : Nat) (a : Option Addr) (qs : List Rw) (bss : List (List Int)) (code : Int), e = .returned (.tuple #[.agg #[.slice a n cap], .int .i64 code]) ∧ rcRes bs bss code ∧ n ≤ 30 ∧ total bss ≤ 160000 ∧ OwnC w.heap.size w' a n cap qs bss ∧ Below w.heap.size w w' := by
  rcases h with ⟨h1, rfl, h3⟩ | ⟨n, cap, a, qs, bss, h1, h2, h3, rfl, h5, h6⟩
  · exact ⟨0, 0, none, [], [], 1, rfl, .inr ⟨rfl, h1, rfl⟩, by decide, by decide, ownC_none _ _, h3⟩
  · exact ⟨n, cap, a, qs, bss, 0, rfl, .inl ⟨rfl, h1⟩, h2, h3, h5, h6⟩

set_option maxRecDepth 10000 in
set_option maxHeartbeats 8000000 in
theorem readCascade_law (a : Option Addr) (n c : Nat) (bs : List Int) (w : World) (h : Row w a n bs) (hmax : n ≤ 9223372036854775807) :
    Calls Try.prog 6 #[.slice a n c] w fun e w' => e = .returned (.bool true) ∧ Below w.heap.size w w' := by
  have H0 : Hid (Row w a n bs) := h
  clear h
  by_cases hbig : 1048576 < n
  · go_enter Try.func6, Try.ntmps6
    go_wp2
    go_ret
    exact ⟨rfl, Below.refl _ _⟩
  · have hn : n ≤ 1048576 := by omega
    have hml : n ≤ maxLen := by unfold maxLen; omega
    go_enter Try.func6, Try.ntmps6
    go_wp2_with fail
    refine (toByteS_any a n c bs _ H0.out hn).mono ?_
    rintro e w1 ⟨a1, rfl, ho1, hb1⟩
    go_wp2_with fail
    refine (specReadCascade_any w.heap.size a1 n bs _ ho1 hn).mono ?_
    intro e w2 hrc
    obtain ⟨nw, cw, aw, qw, bss, code, rfl, hres, hnw, htw, how, hb2⟩ := hrc.form
    have HRES : Hid (rcRes bs bss code) := hres
    have HTW : Hid (total bss ≤ 160000) := htw
    have HOW : Hid (OwnC w1.heap.size w2 aw nw cw qw bss) := how
    have B2 : Below w.heap.size w w2 := keepT hb1 hb2
    obtain ⟨w3, hw3⟩ : ∃ w3, w3 = w2.alloc (.cells #[.slice aw nw cw] 25) := ⟨_, rfl⟩
    have hb3 : Below w2.heap.size w2 w3 := by rw [hw3]; exact (Below.refl _ _).alloc (Nat.le_refl _) _
    have x3 : w3.heap[w2.heap.size]? = some (.cells #[.slice aw nw cw] 25) := by rw [hw3]; exact heap_alloc_new w2 _
    have s3 : w2.heap.size < w3.heap.size := (Array.getElem?_eq_some_iff.1 x3).1
    have HK3 : Hid (w3.cell? ⟨w2.heap.size, 0, none⟩ = some (.slice aw nw cw)) := (cell_of_row _ _ 0 _ 25 (0, 0) x3).trans rfl
    have HW3 : Hid (_ = _) := hw3
    have HRW : Hid (Rows2 w2 aw nw bss) := how.rows
    have HB3 : Hid (Below w.heap.size w w3) := keepT B2 hb3
    have HLB : Hid (bss.length = nw) := how.len
    clear hw3 x3 hres htw how hb1 hb2 ho1 hrc B2
    go_upto_region 4 with fail
    rw [← HW3.out]
    clear HW3
    go_wp2_with fail
    refine (toByteS_any a n c bs _ (H0.out.kept HB3.out) hn).mono ?_
    rintro e w4 ⟨a4, rfl, ho4, hb4⟩
    have HO4 : Hid (Own w3.heap.size w4 a4 n n bs) := ho4
    have s4 := hb4.size
    clear ho4
    go_wp2_with fail
    refine (implReadCascade_any w3.heap.size a4 n bs _ HO4.out hn).mono ?_
    intro e w5 hrc
    obtain ⟨ng, cg, ag, qg, bs2, code2, rfl, hres2, hng, htg, hog, hb5⟩ := hrc.form
    obtain ⟨e1, e2⟩ := rcRes_one hres2 HRES.out
    subst e1
    subst e2
    obtain rfl : ng = nw := by rw [← HLB.out]; exact hog.len.symm
    have HOG : Hid (OwnC w4.heap.size w5 ag ng cg qg bs2) := hog
    have HHI : Hid (∀ j l, j < ng → (rwv (qg.getD j rw0)).ownBlock = some l → l < w5.heap.size) := fun j l hj hl => (rows_lt hog hj hl).2
    have s5 := hb5.size
    obtain ⟨w6, hw6⟩ : ∃ w6, w6 = w5.alloc (.cells #[.slice ag ng cg] 25) := ⟨_, rfl⟩
    have hb6 : Below w5.heap.size w5 w6 := by rw [hw6]; exact (Below.refl _ _).alloc (Nat.le_refl _) _
    have x6 : w6.heap[w5.heap.size]? = some (.cells #[.slice ag ng cg] 25) := by rw [hw6]; exact heap_alloc_new w5 _
    have s6 : w5.heap.size < w6.heap.size := (Array.getElem?_eq_some_iff.1 x6).1
    have HX6 : Hid (w6.heap[w5.heap.size]? = some (.cells #[.slice ag ng cg] 25)) := x6
    have HW6 : Hid (_ = _) := hw6
    have F6 : Below w3.heap.size w3 w6 := keepT hb4 (keepT hb5 hb6)
    have E6 : Below w4.heap.size w4 w6 := keepT hb5 hb6
    have HOG6 : Hid (OwnC w4.heap.size w6 ag ng cg qg bs2) := hog.kept hb6
    have E26 : Below w2.heap.size w2 w6 := keepT hb3 F6
    have k63 : w6.cell? ⟨w2.heap.size, 0, none⟩ = some (.slice aw ng cw) := (F6.cell (p := ⟨w2.heap.size, 0, none⟩) s3).trans HK3.out
    have k66 : w6.cell? ⟨w5.heap.size, 0, none⟩ = some (.slice ag ng cg) := (cell_of_row _ _ 0 _ 25 (0, 0) x6).trans rfl
    have s26 : w2.heap.size < w6.heap.size := by have := E26.size; omega
    have t0 : (code2 != code2) = false := by simp
    have hcc : ¬ (code2 ≠ code2) := by simp
    clear hw6 x6 hres2 hog hrc hb5 hb6
    go_upto_region 6 with fail
    rw [← HW6.out]
    clear HW6
    go_wp2_with fail
    refine (eqCascade_same ag aw ng cg cw bs2 _ HOG6.out.rows (HRW.out.kept E26) (by omega) (Nat.le_trans HTW.out (by decide))).mono ?_
    rintro e w7 ⟨rfl, hb7⟩
    have F7 : Below w3.heap.size w3 w7 := keepT F6 hb7
    have E7 : Below w4.heap.size w4 w7 := keepT E6 hb7
    have G7 : Below w6.heap.size w6 w7 := hb7
    clear hb7 k63 k66
    go_wp2_with fail
    refine (toByteS_any a n c bs _ (H0.out.kept (keepT HB3.out F7)) hn).mono ?_
    rintro e w8 ⟨a8, rfl, ho8, hb8⟩
    have R8 : Hid (Row w8 a8 n bs) := ho8.toRow
    have E8 : Below w4.heap.size w4 w8 := keepT E7 hb8
    have F8 : Below w3.heap.size w3 w8 := keepT F7 hb8
    have G8 : Below w6.heap.size w6 w8 := keepT G7 hb8
    clear ho8 hb8 F7 E7 G7
    go_wp2_with fail
    refine (eqByteS_any a4 a8 n n n n bs bs _ (HO4.out.kept E8).toRow R8.out hml hml).mono ?_
    rintro e w9 ⟨rfl, hb9⟩
    rw [decide_eq_true (rfl : bs = bs)]
    have E9 : Below w4.heap.size w4 w9 := keepT E8 hb9
    have F9 : Below w3.heap.size w3 w9 := keepT F8 hb9
    have G9 : Below w6.heap.size w6 w9 := keepT G8 hb9
    have s9 := E9.size
    clear hb9 E8 F8 G8 R8
    go_wp2_with fail
    refine (markByteS_int w3.heap.size a4 n n 1 bs _ (HO4.out.kept E9) (by omega) (by decide) (by decide)).mono ?_
    rintro e w10 ⟨rfl, _, hg10⟩
    have T10 : Touch w3.heap.size w4.heap.size w9 w10 := touch_grownM hg10 fun l hl => HO4.out.row.lt l hl
    have F10 : Below w3.heap.size w3 w10 := F9.trans (T10.below (Nat.le_refl _) (by omega))
    have HOG10 : Hid (OwnC w4.heap.size w10 ag ng cg qg bs2) := (HOG6.out.kept G9).touch T10 (Nat.le_refl _)
    have HX10 : Hid (w10.heap[w5.heap.size]? = some (.cells #[.slice ag ng cg] 25)) := (T10.block _ (by have := G9.size; omega) (.inr (by omega))).trans ((G9.block _ s6).trans HX6.out)
    have s10 : w5.heap.size < w10.heap.size := (Array.getElem?_eq_some_iff.1 HX10.out).1
    have k103 : w10.cell? ⟨w2.heap.size, 0, none⟩ = some (.slice aw ng cw) := (F10.cell (p := ⟨w2.heap.size, 0, none⟩) s3).trans HK3.out
    have k106 : w10.cell? ⟨w5.heap.size, 0, none⟩ = some (.slice ag ng cg) := (cell_of_row _ _ 0 _ 25 (0, 0) HX10.out).trans rfl
    have s210 : w2.heap.size < w10.heap.size := by omega
    obtain ⟨kk, hkk⟩ : ∃ kk : Int, kk = 1 + (n : Int) := ⟨_, rfl⟩
    have kk0 : ¬ (kk < 0) := by omega
    rw [← hkk]
    clear hkk hg10 T10 E9 F9 G9 HOG6
    go_wp2_with fail
    refine (eqCascade_same ag aw ng cg cw bs2 _ HOG10.out.rows (HRW.out.kept (keepT hb3 F10)) (by omega) (Nat.le_trans HTW.out (by decide))).mono ?_
    rintro e w11 ⟨rfl, hb11⟩
    have F11 : Below w3.heap.size w3 w11 := keepT F10 hb11
    have HX11 : Hid (w11.heap[w5.heap.size]? = some (.cells #[.slice ag ng cg] 25)) := (hb11.block _ s10).trans HX10.out
    have HOG11 : Hid (OwnC w4.heap.size w11 ag ng cg qg bs2) := HOG10.out.kept hb11
    have s11 : w5.heap.size < w11.heap.size := (Array.getElem?_eq_some_iff.1 HX11.out).1
    have k11 : w11.cell? ⟨w5.heap.size, 0, none⟩ = some (.slice ag ng cg) := (cell_of_row _ _ 0 _ 25 (0, 0) HX11.out).trans rfl
    clear hb11 F10 HOG10 HX10 k103 k106
    go_wp2_with fail
    refine (markCascadeC_any w4.heap.size w5.heap.size ag ng cg qg bs2 _ HOG11.out hnw HTW.out HHI.out).mono ?_
    rintro e w12 ⟨rfl, ho12, ht12⟩
    have F12 : Below w3.heap.size w3 w12 := F11.trans (ht12.below (by omega) (by omega))
    have HX12 : Hid (w12.heap[w5.heap.size]? = some (.cells #[.slice ag ng cg] 25)) := (ht12.block _ s11 (.inr (Nat.le_refl _))).trans HX11.out
    have s12 : w5.heap.size < w12.heap.size := (Array.getElem?_eq_some_iff.1 HX12.out).1
    have HM12 : Hid (Rows2 w12 ag ng (mkK bs2 ng)) := ho12.rows
    have k12 : w12.cell? ⟨w5.heap.size, 0, none⟩ = some (.slice ag ng cg) := (cell_of_row _ _ 0 _ 25 (0, 0) HX12.out).trans rfl
    obtain ⟨mm, hmm⟩ : ∃ mm : Int, mm = ((1 + total bs2 : Nat) : Int) := ⟨_, rfl⟩
    have HMM : Hid (mm = ((1 + total bs2 : Nat) : Int)) := hmm
    have mm0 : ¬ (mm < 0) := by omega
    rw [← hmm]
    clear hmm ho12 ht12 F11 HX11 HOG11 k11
    go_wp2_with fail
    refine (heldCascade_any ag ng cg bs2 _ HM12.out HLB.out hnw HTW.out).mono ?_
    rintro e w13 ⟨rfl, hb13⟩
    rw [← HMM.out]
    have F13 : Below w3.heap.size w3 w13 := keepT F12 hb13
    have t1 : (mm != mm) = false := by simp
    go_wp2_with fail
    refine (toByteS_any a n c bs _ (H0.out.kept (keepT HB3.out F13)) hn).mono ?_
    rintro e w14 ⟨a14, rfl, ho14, hb14⟩
    go_wp2_with fail
    refine (implReadCascade_any w13.heap.size a14 n bs _ ho14 hn).mono ?_
    intro e w15 hrc
    obtain ⟨nr, cr, ar, qr, bs3, code3, rfl, hres3, hnr, htr, hor, hb15⟩ := hrc.form
    obtain ⟨e1, e2⟩ := rcRes_one hres3 HRES.out
    subst e1
    subst e2
    obtain rfl : nr = ng := by rw [← HLB.out]; exact hor.len.symm
    obtain ⟨w16, hw16⟩ : ∃ w16, w16 = w15.alloc (.cells #[.slice ar nr cr] 25) := ⟨_, rfl⟩
    have hb16 : Below w15.heap.size w15 w16 := by rw [hw16]; exact (Below.refl _ _).alloc (Nat.le_refl _) _
    have x16 : w16.heap[w15.heap.size]? = some (.cells #[.slice ar nr cr] 25) := by rw [hw16]; exact heap_alloc_new w15 _
    have s16 : w15.heap.size < w16.heap.size := (Array.getElem?_eq_some_iff.1 x16).1
    have k16 : w16.cell? ⟨w15.heap.size, 0, none⟩ = some (.slice ar nr cr) := (cell_of_row _ _ 0 _ 25 (0, 0) x16).trans rfl
    have HW16 : Hid (_ = _) := hw16
    have D16 : Below w12.heap.size w12 w16 := keepT hb13 (keepT hb14 (keepT hb15 hb16))
    have F16 : Below w3.heap.size w3 w16 := keepT F12 D16
    have k163 : w16.cell? ⟨w2.heap.size, 0, none⟩ = some (.slice aw nr cw) := (F16.cell (p := ⟨w2.heap.size, 0, none⟩) s3).trans HK3.out
    have s216 : w2.heap.size < w16.heap.size := by have := F16.size; omega
    have HOR16 : Hid (Rows2 w16 ar nr bs3) := hor.rows.kept hb16
    have t2 : (code3 != code3) = false := by simp
    clear hw16 x16 hres3 hor hrc hb15 hb16 hb13 hb14 ho14 F13
    go_upto_region 23 with fail
    rw [← HW16.out]
    clear HW16
    go_wp2_with fail
    refine (eqCascade_same ar aw nr cr cw bs3 _ HOR16.out (HRW.out.kept (keepT hb3 F16)) (by omega) (Nat.le_trans HTW.out (by decide))).mono ?_
    rintro e w17 ⟨rfl, hb17⟩
    have D17 : Below w12.heap.size w12 w17 := keepT D16 hb17
    have k17 : w17.cell? ⟨w5.heap.size, 0, none⟩ = some (.slice ag nr cg) := (D17.cell (p := ⟨w5.heap.size, 0, none⟩) s12).trans k12
    have s17 : w5.heap.size < w17.heap.size := by have := D17.size; omega
    clear D16 hb17 k163 k16 F16
    go_wp2_with fail
    refine (heldCascade_any ag nr cg bs3 _ (HM12.out.kept D17) HLB.out hnw HTW.out).mono ?_
    rintro e w18 ⟨rfl, hb18⟩
    rw [← HMM.out]
    go_wp2_with fail
    go_ret
    exact ⟨rfl, keepT HB3.out (keepT F12 (keepT D17 hb18))⟩

end Go.Proofs.Ytpnaopmpiobemaa
