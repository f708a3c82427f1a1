import Derived.Test.YtphhelhhploacaaSG1
import Derived.Deep.DeepCutAuto
namespace Go.Proofs.Ytphhelhhploacaa
open Go.RowKit

theorem not_key0 (ms : List Int) : decide (verP 0 ms (0, 0)) = false := decide_eq_false (fun h => by have := h.1.1.1; omega)

/-- All that a signature of a secret tells. -/
structure SgT (x : Int) (ms : List Int) (E S y r a b : Int) : Prop where
  sign : signR x ms = ((E, S), true)
  key : keyOf x = y
  yb : 1 ≤ y ∧ y ≤ 1000000006
  eb : 0 ≤ E ∧ E ≤ 500000002
  sb : 0 ≤ S ∧ S ≤ 500000002
  pa : powV 4 S 1000000007 = (a, true)
  pb : powV y (500000003 - E) 1000000007 = (b, true)
  ab : 0 ≤ a ∧ a < 1000000007
  bb : 0 ≤ b ∧ b < 1000000007
  rr : a * b % 1000000007 = r
  ch : chalN r y ms = E
  ver : decide (verP y ms (E, S)) = true
  oth : ∀ ys, decide (verP y ys (E, S)) = (chalN r y ys == E)
  one : ∀ ys, decide (verP y ys (E, (S + 1) % 500000003)) = (chalN (r * 4 % 1000000007) y ys == E)
theorem powV_gp (b e : Int) (hb : 0 ≤ b ∧ b ≤ 1000000006) (he : 0 ≤ e) : powV b e 1000000007 = (gp b e, true) := by
  unfold powV
  rw [if_pos (by unfold powOk; omega)]
  rfl
theorem verP_eq (y : Int) (ys : List Int) (E S r : Int) (hk : keyP y) (hE : expP E) (hS : expP S) (hr : movN 1 y S E = r) : decide (verP y ys (E, S)) = (chalN r y ys == E) := by
  have : verP y ys (E, S) ↔ chalN r y ys = E := by
    unfold verP
    constructor
    · rintro ⟨_, _, _, h⟩; rw [← hr]; exact h.symm
    · intro h; exact ⟨hk, hE, hS, by show E = chalN (movN 1 y S E) y ys; rw [hr]; exact h.symm⟩
  by_cases h : chalN r y ys = E
  · rw [decide_eq_true (this.2 h)]; exact (beq_iff_eq.2 h).symm
  · rw [decide_eq_false (fun c => h (this.1 c))]; exact (beq_eq_false_iff_ne.2 h).symm
theorem signed_tells (x : Int) (ms : List Int) (hs : secP x) : ∃ E S y r a b, SgT x ms E S y r a b := by
  have hk : keyOf x = gp 4 x := if_pos hs
  have hE : expP (sigE x ms) := chalN_bd _ _ _
  have hS : expP ((nonN x ms + sigE x ms * x) % 500000003) := ⟨Int.emod_nonneg _ (by decide), by have := Int.emod_lt_of_pos (nonN x ms + sigE x ms * x) (show (0 : Int) < 500000003 by decide); omega⟩
  have hn := nonN_bd x ms
  have hm := moved_back (nonN x ms) (sigE x ms) x (by omega) hE hs
  have hkp := keyP_of x hs
  have hch : chalN (gp 4 (nonN x ms)) (gp 4 x) ms = sigE x ms := by unfold sigE; rw [hk]
  have hb := hkp.1.1
  have h2 := hE
  have h3 := hS
  refine ⟨sigE x ms, (nonN x ms + sigE x ms * x) % 500000003, gp 4 x, gp 4 (nonN x ms), gp 4 ((nonN x ms + sigE x ms * x) % 500000003), gp (gp 4 x) (500000003 - sigE x ms), ?_⟩
  obtain ⟨h21, h22⟩ := h2
  obtain ⟨h31, h32⟩ := h3
  have hnx : expP (((nonN x ms + sigE x ms * x) % 500000003 + 1) % 500000003) := ⟨Int.emod_nonneg _ (by decide), by have := Int.emod_lt_of_pos ((nonN x ms + sigE x ms * x) % 500000003 + 1) (show (0 : Int) < 500000003 by decide); omega⟩
  exact ⟨if_pos hs, hk, hb, hE, hS, powV_gp 4 _ (by omega) h31, powV_gp _ _ (by omega) (by omega), gp_bd _ _, gp_bd _ _, by rw [← movN_one]; exact hm, hch,
    by rw [verP_eq _ ms _ _ _ hkp hE hS hm, hch]; simp,
    fun ys => verP_eq _ ys _ _ _ hkp hE hS hm,
    fun ys => verP_eq _ ys _ _ _ hkp hE hnx (by rw [moved_next _ _ _ hS, hm])⟩

set_option maxRecDepth 10000 in
set_option maxHeartbeats 4000000 in
theorem lawSigned_walk (a' b' : Option Addr) (n0 n1 ca cb : Nat) (z0 z1 : List Int) (w : World) (hr0 : IsRow .u8 w a' n0 ca z0) (hr1 : IsRow .u8 w b' n1 cb z1) :
    Calls Try.prog 4 #[.slice a' n0 ca, .slice b' n1 cb] w fun e w' => e = .returned (.bool true) ∧ Below w.heap.size w w' := by
  obtain ⟨hrow0, hmax0⟩ := hr0.row
  obtain ⟨hrow1, hmax1⟩ := hr1.row
  have NB : Hid (b' = none → cb = 0) := hr1.nil
  obtain ⟨xs, hxs⟩ : ∃ xs, xs = z0.take n0 := ⟨_, rfl⟩
  obtain ⟨ys, hys⟩ : ∃ ys, ys = z1.take n1 := ⟨_, rfl⟩
  rw [← hxs] at hrow0
  rw [← hys] at hrow1
  clear hxs hr0 hys hr1
  unfold maxLen at hmax0 hmax1
  have HX : Hid (Row w a' n0 xs) := hrow0
  have HY : Hid (Row w b' n1 ys) := hrow1
  clear hrow0 hrow1
  by_cases hbig : 20000 < n0
  · go_enter Try.func4, Try.ntmps4
    go_wp2
    go_ret
    exact ⟨rfl, Below.refl _ _⟩
  · by_cases hbig1 : 20000 < n1
    · go_enter Try.func4, Try.ntmps4
      go_wp2
      go_ret
      exact ⟨rfl, Below.refl _ _⟩
    · go_enter Try.func4, Try.ntmps4
      go_wp2_with fail
      refine (drawSign_any a' n0 ca xs _ HX.out (by omega)).mono ?_
      rintro r w1 ⟨x, am, k, cm, ms, rfl, hx0, hx1, hk, hrm, hnm, hb1⟩
      have HB1 : Hid (Below w.heap.size w w1) := hb1
      have HM1 : Hid (Row w1 am k ms) := hrm
      have NM : Hid (am = none → cm = 0) := hnm
      clear hb1 hrm hnm
      by_cases hs : secP x
      · obtain ⟨E, Z, y, R, A, B, hT⟩ := signed_tells x ms hs
        have HT : Hid (SgT x ms E Z y R A B) := hT
        obtain ⟨hy1, hy2⟩ := hT.yb
        obtain ⟨he1, he2⟩ := hT.eb
        obtain ⟨hz1, hz2⟩ := hT.sb
        obtain ⟨ha1, ha2⟩ := hT.ab
        obtain ⟨hb1, hb2⟩ := hT.bb
        clear hT
        have zy : (y != 0) = true := by simp; omega
        go_wp2_with fail
        refine (implSign_any x am k cm ms _ HM1.out (by omega) NM.out).mono ?_
        rintro r w2 ⟨rfl, hbw2⟩
        rw [HT.out.sign, sigv]
        have hbx := boxS_new 37 w2 E Z
        have hb2' : Below w1.heap.size w1 (w2.alloc (.cells #[.int .i64 E, .int .i64 Z] 37)) := hbw2.alloc hbw2.size _
        go_wp2_with fail
        obtain ⟨w3, hw3⟩ : ∃ w3, w3 = w2.alloc (.cells #[.int .i64 E, .int .i64 Z] 37) := ⟨_, rfl⟩
        obtain ⟨g, hg⟩ : ∃ g, g = w2.heap.size := ⟨_, rfl⟩
        rw [← hw3, ← hg] at hbx
        rw [← hw3] at hb2' ⊢
        rw [← hg]
        clear hw3 hg hbw2
        refine (implKeyOf_any x _).mono ?_
        rintro r w4 ⟨rfl, hw4⟩
        have hw5 := hw4.symm
        subst hw5
        clear hw4
        rw [HT.out.key]
        go_wp2_with fail
        refine (in_t x 1 500000002 _ hs).mono ?_
        rintro r w4 ⟨rfl, hw4⟩
        have hw5 := hw4.symm
        subst hw5
        clear hw4
        have q0 := hbx.c0
        have q1 := hbx.c1
        go_wp2_with fail
        refine (implVerify_any y am k cm ms (E, Z) _ (HM1.out.kept hb2') (by omega) NM.out).mono ?_
        rintro r w5 ⟨rfl, hb5⟩
        rw [HT.out.ver]
        have hb5' := keep_first hb2' hb5
        have hbx5 := hbx.kept hb5
        clear q0 q1 hb5 hbx hb2'
        have q0 := hbx5.c0
        have q1 := hbx5.c1
        go_wp2_with fail
        refine (in_t E 0 500000002 _ ⟨he1, he2⟩).mono ?_
        rintro r w4 ⟨rfl, hw4⟩
        have hw5 := hw4.symm
        subst hw5
        clear hw4
        go_wp2_with fail
        refine (in_t Z 0 500000002 _ ⟨hz1, hz2⟩).mono ?_
        rintro r w4 ⟨rfl, hw4⟩
        have hw5 := hw4.symm
        subst hw5
        clear hw4
        go_wp2_with fail
        refine (implPowMod_any 4 Z 1000000007 _ (by omega)).mono ?_
        rintro r w4 ⟨rfl, hw4⟩
        have hw5 := hw4.symm
        subst hw5
        clear hw4
        rw [HT.out.pa, pair]
        go_wp2_with fail
        refine (implPowMod_any y (500000003 - E) 1000000007 _ (by omega)).mono ?_
        rintro r w4 ⟨rfl, hw4⟩
        have hw5 := hw4.symm
        subst hw5
        clear hw4
        rw [HT.out.pb, pair]
        have hbd := prod_bd ha1 ha2 hb1 hb2 (by decide)
        obtain ⟨hbd0, hbd1⟩ := hbd
        have hR := HT.out.rr
        have hRb := mod_bd (A * B) (show (1 : Int) ≤ 1000000007 by decide)
        rw [hR] at hRb
        obtain ⟨hR0, hR1⟩ := hRb
        go_upto_region 17 with fail
        rw [hR]
        clear q0 q1
        obtain ⟨C, hC⟩ : ∃ C, C = chalN R y ys := ⟨_, rfl⟩
        obtain ⟨v, hv⟩ : ∃ v : Bool, (C == E) = v := ⟨_, rfl⟩
        have HC : Hid (chalN R y ys = C) := hC.symm
        have HV : Hid (decide (verP y ys (E, Z)) = v) := by show _ = _; rw [HT.out.oth, ← hC, hv]
        have zE : (E != E) = false := by simp
        have zv : (v != v) = false := by simp
        clear hC
        have HXD : ∀ (w7 : World), Below w5.heap.size w5 w7 → w7.cell? ⟨g, 0, none⟩ = some (.int .i64 E) ∧ w7.cell? ⟨g, 1, none⟩ = some (.int .i64 Z) := fun w7 h7 =>
          have hk := hbx5.kept h7
          ⟨hk.c0, hk.c1⟩
        have HKm : Hid (∀ w', Below w5.heap.size w5 w' → Row w' am k ms) := fun w' hw' => HM1.out.kept (keep_first hb5' hw')
        have HKy : Hid (∀ w', Below w5.heap.size w5 w' → Row w' b' n1 ys) := fun w' hw' => HY.out.kept (keep_first HB1.out (keep_first hb5' hw'))
        go_cut [124] from 104 to 123 (fun c wx => c = .bool false ∧ Below w5.heap.size w5 wx)
        case first =>
          have TOK : Hid True := trivial
          have hcur : Below w5.heap.size w5 w5.drew := (Below.refl _ _).drew
          have SS := HXD w5.drew hcur
          go_region_held_law (fun w' => w'.cell? ⟨g, 0, none⟩ = some (.int .i64 E) ∧ w'.cell? ⟨g, 1, none⟩ = some (.int .i64 Z)) (first | assumption | exact SS | exact SS1 | exact SS2 | exact SS3)
            (first
              | (go_at_call 21; have tk := TOK; refine (implChallenge_any R y am k cm ms _ (HKm.out _ hcur) (by omega) NM.out (by omega) (by omega)).mono ?_; rintro e wa ⟨rfl, hb_a⟩; rw [HT.out.ch]; clear TOK tk; replace hcur := hcur.trans (hb_a.mono hcur.size); have SS1 := HXD _ hcur; clear hb_a)
              | (go_at_call 21; refine (implChallenge_any R y b' n1 cb ys _ (HKy.out _ hcur) (by omega) NB.out (by omega) (by omega)).mono ?_; rintro e wb ⟨rfl, hb_b⟩; rw [HC.out]; replace hcur := hcur.trans (hb_b.mono hcur.size); have SS2 := HXD _ hcur; clear hb_b)
              | (go_at_call 20; refine (implVerify_any y b' n1 cb ys (E, Z) _ (HKy.out _ hcur) (by omega) NB.out).mono ?_; rintro e wc ⟨rfl, hb_c⟩; rw [HV.out]; replace hcur := hcur.trans (hb_c.mono hcur.size); have SS3 := HXD _ hcur; clear hb_c))
          all_goals (
            go_wp2_with fail
            go_meet
            exact ⟨rfl, hcur⟩)
        case rest =>
          obtain ⟨rfl, hbc⟩ := hcut
          have hbxc := hbx5.kept hbc
          have q0 := hbxc.c0
          have q1 := hbxc.c1
          have hgl : g < wc.heap.size := hbxc.lt
          have hgne : g ≠ wc.heap.size := by omega
          have hZ1 : 0 ≤ (Z + 1) % 500000003 := by omega
          have hZ2 : (Z + 1) % 500000003 ≤ 500000002 := by omega
          go_upto_region 22 with fail
          obtain ⟨D, hD⟩ : ∃ D, D = chalN (R * 4 % 1000000007) y ms := ⟨_, rfl⟩
          obtain ⟨u, hu⟩ : ∃ u : Bool, (D == E) = u := ⟨_, rfl⟩
          have HD : Hid (chalN (R * 4 % 1000000007) y ms = D) := hD.symm
          have HU : Hid (decide (verP y ms (E, (Z + 1) % 500000003)) = u) := by show _ = _; rw [HT.out.one, ← hD, hu]
          have zu : (u == u) = true := by simp
          clear hD hv zv
          have hR40 : 0 ≤ R * 4 % 1000000007 := by omega
          have hR41 : R * 4 % 1000000007 ≤ 1000000006 := by omega
          obtain ⟨Z', hZ'⟩ : ∃ Z', Z' = (Z + 1) % 500000003 := ⟨_, rfl⟩
          obtain ⟨R4, hR4⟩ : ∃ R4, R4 = R * 4 % 1000000007 := ⟨_, rfl⟩
          rw [← hZ'] at HU hZ1 hZ2 ⊢
          rw [← hR4] at HD hR40 hR41 ⊢
          clear hZ' hR4 q0 q1
          have hbn : Below wc.heap.size wc (wc.alloc (.cells #[.int .i64 E, .int .i64 Z'] 37)) := (Below.refl _ _).alloc (Nat.le_refl _) _
          have hbx1 := hbxc.kept hbn
          have hbxn := boxS_new 37 wc E Z'
          obtain ⟨g2, hg2⟩ : ∃ g2, g2 = wc.heap.size := ⟨_, rfl⟩
          obtain ⟨w9, hw9⟩ : ∃ w9, w9 = wc.alloc (.cells #[.int .i64 E, .int .i64 Z'] 37) := ⟨_, rfl⟩
          rw [← hw9] at hbx1 hbn hbxn ⊢
          have hb9 := keep_first hbc hbn
          rw [← hg2] at hbxn ⊢
          clear hw9 hg2 hgl hgne hbn hbxc
          have HXD2 : ∀ (w7 : World), Below w9.heap.size w9 w7 → (w7.cell? ⟨g, 0, none⟩ = some (.int .i64 E) ∧ w7.cell? ⟨g, 1, none⟩ = some (.int .i64 Z)) ∧ (w7.cell? ⟨g2, 0, none⟩ = some (.int .i64 E) ∧ w7.cell? ⟨g2, 1, none⟩ = some (.int .i64 Z')) := fun w7 h7 =>
            have hk := hbx1.kept h7
            have hk2 := hbxn.kept h7
            ⟨⟨hk.c0, hk.c1⟩, hk2.c0, hk2.c1⟩
          have HKm2 : Hid (∀ w', Below w9.heap.size w9 w' → Row w' am k ms) := fun w' hw' => HKm.out _ (keep_first hb9 hw')
          have hcur : Below w9.heap.size w9 w9.drew := (Below.refl _ _).drew
          have SS := HXD2 w9.drew hcur
          go_region_held_law (fun w' => (w'.cell? ⟨g, 0, none⟩ = some (.int .i64 E) ∧ w'.cell? ⟨g, 1, none⟩ = some (.int .i64 Z)) ∧ (w'.cell? ⟨g2, 0, none⟩ = some (.int .i64 E) ∧ w'.cell? ⟨g2, 1, none⟩ = some (.int .i64 Z'))) (first | assumption | exact SS | exact SS1 | exact SS2 | exact SS3)
            (first
              | (go_at_call 15; refine (lives_any _).mono ?_; rintro e wa ⟨rfl, hb_a⟩; replace hcur := hcur.trans (hb_a.mono hcur.size); have SS1 := HXD2 _ hcur; clear hb_a)
              | (go_at_call 21; refine (implChallenge_any R4 y am k cm ms _ (HKm2.out _ hcur) (by omega) NM.out (by omega) (by omega)).mono ?_; rintro e wb ⟨rfl, hb_b⟩; rw [HD.out]; replace hcur := hcur.trans (hb_b.mono hcur.size); have SS2 := HXD2 _ hcur; clear hb_b)
              | (go_at_call 20; refine (implVerify_any y am k cm ms (E, Z') _ (HKm2.out _ hcur) (by omega) NM.out).mono ?_; rintro e wc ⟨rfl, hb_c⟩; rw [HU.out]; replace hcur := hcur.trans (hb_c.mono hcur.size); have SS3 := HXD2 _ hcur; clear hb_c))
          all_goals (
            go_wp2
            go_ret
            exact ⟨rfl, keep_first HB1.out (keep_first hb5' (keep_first hb9 hcur))⟩)
      · have HS : Hid (signR x ms = ((0, 0), false)) := if_neg hs
        have HK : Hid (keyOf x = 0) := if_neg hs
        go_wp2_with fail
        refine (implSign_any x am k cm ms _ HM1.out (by omega) NM.out).mono ?_
        rintro r w2 ⟨rfl, hb2⟩
        rw [HS.out, sigv]
        have hbx := boxS_new 37 w2 0 0
        have hb2' : Below w1.heap.size w1 (w2.alloc (.cells #[.int .i64 0, .int .i64 0] 37)) := hb2.alloc hb2.size _
        go_wp2_with fail
        obtain ⟨w3, hw3⟩ : ∃ w3, w3 = w2.alloc (.cells #[.int .i64 0, .int .i64 0] 37) := ⟨_, rfl⟩
        rw [← hw3] at hbx hb2' ⊢
        clear hw3
        refine (implKeyOf_any x _).mono ?_
        rintro r w4 ⟨rfl, hw4⟩
        have hw5 := hw4.symm
        subst hw5
        rw [HK.out]
        go_wp2_with fail
        refine (in_f x 1 500000002 _ hs).mono ?_
        rintro r w4 ⟨rfl, hw4⟩
        have hw5 := hw4.symm
        subst hw5
        go_wp2_with fail
        refine (lives_any _).mono ?_
        rintro r w4 ⟨rfl, hb4⟩
        have hbx4 := hbx.kept hb4
        have q0 := hbx4.c0
        have q1 := hbx4.c1
        have hb4' := keep_first hb2' hb4
        go_wp2_with fail
        refine (implVerify_any 0 am k cm ms (0, 0) _ (HM1.out.kept hb4') (by omega) NM.out).mono ?_
        rintro r w5 ⟨rfl, hb5⟩
        rw [not_key0]
        go_wp2
        go_ret
        exact ⟨rfl, keep_first HB1.out (keep_first hb4' hb5)⟩

end Go.Proofs.Ytphhelhhploacaa
