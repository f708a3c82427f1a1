import Derived.Test.YtchkjdoakmoomaaPP6
import Derived.Test.YtchkjdoakmoomaaPP7
import Derived.Test.YtchkjdoakmoomaaMK64
namespace Go.Proofs.Ytchkjdoakmoomaa
open Go.RowKit

theorem own64_of {B : Nat} {w : World} {a : Option Addr} {n c : Nat} {zs : List Int} (h : OwnL B w a n c zs) : Own64 B w.heap.size w a n c zs := ⟨h.row, fun x hx => by subst hx; exact (h.row.lt x.block rfl).2⟩
theorem row64_touch {p q lo hi : Nat} {w w' : World} {a : Option Addr} {n : Nat} {zs : List Int} (h : Row64 w a n zs) (hd : ∀ x, a = some x → p ≤ x.block ∧ x.block < q) (hh : q ≤ lo ∨ hi ≤ p) (ht : Touch lo hi w w') : Row64 w' a n zs := by
  refine ⟨h.len, fun k hk => ?_⟩
  obtain ⟨b, off, ha, hlt, hc⟩ := h.get k hk
  have hb := hd _ ha
  simp at hb
  exact ⟨b, off, ha, Nat.lt_of_lt_of_le hlt ht.size, (World.cell?_of_block (a := ⟨b, off + k, none⟩) (ht.block b hlt (by omega))).trans hc⟩
theorem own64_lo {lo hi : Nat} {w : World} {a : Option Addr} {n cap : Nat} {zs : List Int} (h : Own64 lo hi w a n cap zs) : ∀ x, a = some x → lo ≤ x.block ∧ x.block < hi := fun x hx => by
  subst hx
  exact ⟨(h.row.lt x.block rfl).1, h.lt x rfl⟩

set_option maxRecDepth 10000 in
set_option maxHeartbeats 8000000 in
theorem lawPathPolicies_walk (a : Option Addr) (n c : Nat) (xs : List PC) (aq : Option Addr) (nq cq : Nat) (q : List Int) (need noMap noAny : Bool) (w : World) (h : Pcs w a n xs) (hq : Row64 w aq nq q) (_hmq : nq ≤ 9223372036854775807) :
    Calls Try.prog 6 #[.slice a n c, .slice aq nq cq, .bool need, .bool noMap, .bool noAny] w fun e w' => e = .returned (.bool true) ∧ Below w.heap.size w w' := by
  have HS : Hid (Pcs w a n xs) := h
  have HLN : Hid (xs.length = n) := h.len
  have HQ : Hid (Row64 w aq nq q) := hq
  clear h hq
  by_cases hbig : 1048576 < nq
  · have hbi : 1048576 < (nq : Int) := by omega
    go_enter Try.func6, Try.ntmps6
    go_wp2
    go_ret
    exact ⟨rfl, Below.refl _ _⟩
  have hbi : ¬ (1048576 < (nq : Int)) := by omega
  have hnq : nq ≤ 1048576 := by omega
  go_enter Try.func6, Try.ntmps6
  go_wp2_with fail
  refine (szPolCertS_any a n c xs 1048576 _ HS.out (by decide) (by decide)).mono ?_
  rintro e w1 ⟨r, rfl, hr, hb1⟩
  by_cases hneg : r < 0
  · clear hr
    go_wp2
    go_ret
    exact ⟨rfl, hb1⟩
  have hn : n ≤ 1048576 := by rcases hr with h | h; exact absurd h hneg; exact h.2.2.1
  have HK : Hid (∀ k, k < n → PcOk (xs.getD k default)) := by rcases hr with h | h; exact absurd h hneg; exact h.2.2.2
  have hr0 : ¬ r < 0 := hneg
  have HTO : Hid (∀ W, Below w.heap.size w W → Calls Try.prog 21 #[.slice a n c] W fun e w' => e = .returned (.slice (some ⟨W.heap.size, 0, none⟩) n n) ∧ PcM w' W.heap.size w'.heap.size n ∧ Pcs w' (some ⟨W.heap.size, 0, none⟩) n xs ∧ W.heap.size < w'.heap.size ∧ Below W.heap.size W w') := fun W hW => (toPolCertS_at a n c xs W (HS.out.kept hW) hn HK.out).mono (fun e w' h => ⟨h.1, pcM_of h.2.2.1 h.2.1 h.2.2.2.1 HK.out, h.2.2.1.pcs HLN.out (by omega) h.2.2.2.1, h.2.2.2.1, h.2.2.2.2⟩)
  have HTQ : Hid (∀ W, Below w.heap.size w W → Calls Try.prog 23 #[.slice aq nq cq] W fun e w' => ∃ a', e = .returned (.slice a' nq nq) ∧ Own64 W.heap.size w'.heap.size w' a' nq nq q ∧ Below W.heap.size W w') := fun W hW => toInt64S_any aq nq cq q W (HQ.out.kept hW) hnq
  have HB1 : Hid (Below w.heap.size w w1) := hb1
  clear hr hneg hb1
  go_wp2_with fail
  refine (HTO.out _ HB1.out).mono ?_
  rintro e w2 ⟨rfl, -, hp2, -, hb2⟩
  have B2 : Below w.heap.size w w2 := HB1.out.trans (hb2.mono HB1.out.size)
  go_wp2_with fail
  refine (HTQ.out _ B2).mono ?_
  rintro e w3 ⟨a3, rfl, ho3, hb3⟩
  have B3 : Below w.heap.size w w3 := B2.trans (hb3.mono B2.size)
  go_wp2_with fail
  refine (specPathPolicies_any _ n n xs a3 nq nq q need noMap noAny _ (hp2.kept hb3) ho3.toRow).mono ?_
  rintro e w4 ⟨aw, nw, cw, Lw, bw, rfl, hpw, how, hlw, hb4⟩
  have HPW : Hid (IsPp xs q need noMap noAny Lw bw) := hpw
  have HOW : Hid (Own64 w3.heap.size w4.heap.size w4 aw nw cw Lw) := own64_of how
  have HB4 : Hid (Below w.heap.size w w4) := B3.trans (hb4.mono B3.size)
  clear hp2 ho3 hb2 hb3 hb4 hpw how B2 B3 HB1
  go_wp2_with fail
  refine (HTO.out _ HB4.out).mono ?_
  rintro e w5 ⟨rfl, hM5, hp5, hs5, hb5⟩
  have B5 : Below w.heap.size w w5 := HB4.out.trans (hb5.mono HB4.out.size)
  go_wp2_with fail
  refine (HTQ.out _ B5).mono ?_
  rintro e w6 ⟨a6, rfl, ho6, hb6⟩
  have HB6 : Hid (Below w.heap.size w w6) := B5.trans (hb6.mono B5.size)
  have HM6 : Hid (PcM w6 w4.heap.size w5.heap.size n) := hM5.below hb6
  have HP6 : Hid (Pcs w6 (some ⟨w4.heap.size, 0, none⟩) n xs) := hp5.kept hb6
  have HO6 : Hid (Own64 w5.heap.size w6.heap.size w6 a6 nq nq q) := ho6
  have D6 : Hid (Below w4.heap.size w4 w6) := hb5.trans (hb6.mono hb5.size)
  have s5 := hb5.size
  have s6 := hb6.size
  clear hM5 hp5 hb5 ho6 hb6 B5
  go_wp2_with fail
  refine (implPathPolicies_any _ n n xs a6 nq nq q need noMap noAny _ HP6.out HO6.out.toRow (by omega)).mono ?_
  rintro e w7 ⟨ag, ng, cg, Lg, bg, rfl, hpg, hog, hlg, hb7⟩
  obtain ⟨e1, e2⟩ := hpg.same HPW.out
  subst e1
  subst e2
  have hl1 := HOW.out.toRow.len
  have hl2 := hog.len
  have hnn : ng = nw := by omega
  subst hnn
  have HB7 : Hid (Below w.heap.size w w7) := HB6.out.trans (hb7.mono HB6.out.size)
  have D7 : Below w4.heap.size w4 w7 := D6.out.trans (hb7.mono (by omega))
  have HG7 : Hid (Own64 w6.heap.size w7.heap.size w7 ag ng cg Lg) := own64_of hog
  have HW7 : Hid (Row64 w7 aw ng Lg) := (HOW.out.kept D7).toRow
  have HM7 : Hid (PcM w7 w4.heap.size w5.heap.size n) := HM6.out.below hb7
  have HP7 : Hid (Pcs w7 (some ⟨w4.heap.size, 0, none⟩) n xs) := HP6.out.kept hb7
  have HO7 : Hid (Own64 w5.heap.size w6.heap.size w7 a6 nq nq q) := HO6.out.kept hb7
  have HLO : Hid (∀ x, aw = some x → w3.heap.size ≤ x.block ∧ x.block < w4.heap.size) := own64_lo HOW.out
  have s7 := hb7.size
  have t0 : (bg != bg) = false := by simp
  clear hl1 hl2 hpg hog hb7 D7 HM6 HP6 HO6 D6 HOW HB6
  go_wp2_with fail
  refine (eqInt64S_same ag aw ng cg cw Lg _ HG7.out.toRow HW7.out (by omega)).mono ?_
  rintro e w8 ⟨rfl, hb8⟩
  have HB8 : Hid (Below w.heap.size w w8) := HB7.out.trans (hb8.mono HB7.out.size)
  have HD8 : Hid (Below w7.heap.size w7 w8) := hb8
  clear hb8
  go_wp2_with fail
  refine (HTO.out _ HB8.out).mono ?_
  rintro e w9 ⟨rfl, -, hp9, -, hb9⟩
  have HB9 : Hid (Below w.heap.size w w9) := HB8.out.trans (hb9.mono HB8.out.size)
  have HD9 : Hid (Below w7.heap.size w7 w9) := HD8.out.trans (hb9.mono HD8.out.size)
  clear hb9
  go_wp2_with fail
  refine (eqPolCertS_same _ _ n n n xs _ (HP7.out.kept HD9.out) hp9).mono ?_
  rintro e w10 ⟨rfl, hb10⟩
  have HB10 : Hid (Below w.heap.size w w10) := HB9.out.trans (hb10.mono HB9.out.size)
  have HD10 : Hid (Below w7.heap.size w7 w10) := HD9.out.trans (hb10.mono HD9.out.size)
  clear hb10 hp9 HB9 HD9 HB8 HD8 HP7
  go_wp2_with fail
  refine (HTQ.out _ HB10.out).mono ?_
  rintro e w11 ⟨a11, rfl, ho11, hb11⟩
  have HB11 : Hid (Below w.heap.size w w11) := HB10.out.trans (hb11.mono HB10.out.size)
  have HD11 : Hid (Below w7.heap.size w7 w11) := HD10.out.trans (hb11.mono HD10.out.size)
  clear hb11
  go_wp2_with fail
  refine (eqInt64S_same a6 a11 nq nq nq q _ (HO7.out.kept HD11.out).toRow ho11.toRow (by omega)).mono ?_
  rintro e w12 ⟨rfl, hb12⟩
  have HB12 : Hid (Below w.heap.size w w12) := HB11.out.trans (hb12.mono HB11.out.size)
  have HD12 : Hid (Below w7.heap.size w7 w12) := HD11.out.trans (hb12.mono HD11.out.size)
  clear hb12 ho11 HB10 HD10 HB11 HD11
  have hsw4 := HB4.out.size
  have s12 := HD12.out.size
  have HO12 : Hid (Own64 w5.heap.size w6.heap.size w12 a6 nq nq q) := HO7.out.kept HD12.out
  have HG12 : Hid (Own64 w6.heap.size w7.heap.size w12 ag ng cg Lg) := HG7.out.kept HD12.out
  have HW12 : Hid (Row64 w12 aw ng Lg) := HW7.out.kept HD12.out
  go_wp2_with fail
  refine (markPcs_any w4.heap.size w5.heap.size n 1 _ (HM7.out.below HD12.out) (by omega) hs5 hn (by decide)).mono ?_
  rintro e w13 ⟨⟨K, hKb, rfl⟩, ht13⟩
  have HB13 : Hid (Below w.heap.size w w13) := HB12.out.trans (ht13.below (by omega) HB12.out.size)
  have HO13 : Hid (Own64 w5.heap.size w6.heap.size w13 a6 nq nq q) := HO12.out.touch (.inr (Nat.le_refl _)) ht13
  have HG13 : Hid (Own64 w6.heap.size w7.heap.size w13 ag ng cg Lg) := HG12.out.touch (.inr (by omega)) ht13
  have HW13 : Hid (Row64 w13 aw ng Lg) := row64_touch HW12.out HLO.out (.inl (Nat.le_refl _)) ht13
  have s13 := ht13.size
  clear ht13 HO12 HG12 HW12 HB12 HD12 HM7 HO7 HG7 HW7
  go_wp2_with fail
  refine (markI_any w5.heap.size w6.heap.size a6 nq nq K _ (sr_owns HO13.out.row HO13.out.lt) (by omega) (by omega)).mono ?_
  rintro e w14 ⟨rfl, ht14, -⟩
  have HB14 : Hid (Below w.heap.size w w14) := HB13.out.trans (ht14.below (by omega) HB13.out.size)
  have HG14 : Hid (Own64 w6.heap.size w7.heap.size w14 ag ng cg Lg) := HG13.out.touch (.inr (Nat.le_refl _)) ht14
  have HW14 : Hid (Row64 w14 aw ng Lg) := row64_touch HW13.out HLO.out (.inl (by omega)) ht14
  have s14 := ht14.size
  obtain ⟨kk, hkk⟩ : ∃ kk : Int, kk = ((K + nq : Nat) : Int) := ⟨_, rfl⟩
  rw [← hkk]
  have k0 : ¬ (kk < 0) := by omega
  clear ht14 HO13 HG13 HW13 HB13 hkk
  go_wp2_with fail
  refine (eqInt64S_same ag aw ng cg cw Lg _ HG14.out.toRow HW14.out (by omega)).mono ?_
  rintro e w15 ⟨rfl, hb15⟩
  have HB15 : Hid (Below w.heap.size w w15) := HB14.out.trans (hb15.mono HB14.out.size)
  have HG15 : Hid (Own64 w6.heap.size w7.heap.size w15 ag ng cg Lg) := HG14.out.kept hb15
  have HW15 : Hid (Row64 w15 aw ng Lg) := HW14.out.kept hb15
  have s15 := hb15.size
  clear hb15 HG14 HW14 HB14
  go_wp2_with fail
  refine (markInt64S_own w6.heap.size w7.heap.size ag ng cg 1 Lg _ HG15.out (by omega) (by decide)).mono ?_
  rintro e w16 ⟨rfl, ho16, ht16⟩
  have HW16 : Hid (Row64 w16 aw ng Lg) := row64_touch HW15.out HLO.out (.inl (by omega)) ht16
  have HB16 : Hid (Below w.heap.size w w16) := HB15.out.trans (ht16.below (by omega) HB15.out.size)
  have HM16 : Hid (Row64 w16 ag ng (mk64 1 ng)) := ho16.toRow
  clear ho16 ht16 HG15 HW15 HB15
  obtain ⟨mm, hmm⟩ : ∃ mm : Int, mm = ((1 + ng : Nat) : Int) := ⟨_, rfl⟩
  have HMM : Hid (mm = ((1 + ng : Nat) : Int)) := hmm
  have m0 : ¬ (mm < 0) := by omega
  have t1 : (mm != mm) = false := by simp
  rw [← hmm]
  clear hmm
  go_wp2_with fail
  refine (heldInt64S_any ag ng cg 1 _ HM16.out (by omega) (by decide)).mono ?_
  rintro e w17 ⟨rfl, hw17⟩
  subst hw17
  rw [← HMM.out]
  go_wp2_with fail
  refine (HTO.out _ HB16.out).mono ?_
  rintro e w18 ⟨rfl, -, hp18, -, hb18⟩
  have B18 : Below w.heap.size w w18 := HB16.out.trans (hb18.mono HB16.out.size)
  go_wp2_with fail
  refine (HTQ.out _ B18).mono ?_
  rintro e w19 ⟨a19, rfl, ho19, hb19⟩
  have D19 : Below w17.heap.size w17 w19 := hb18.trans (hb19.mono hb18.size)
  go_wp2_with fail
  refine (implPathPolicies_any _ n n xs a19 nq nq q need noMap noAny _ (hp18.kept hb19) ho19.toRow (by omega)).mono ?_
  rintro e w20 ⟨ar, nr, cr, Lr, br, rfl, hpr, hor, hlr, hb20⟩
  obtain ⟨e1, e2⟩ := hpr.same HPW.out
  subst e1
  subst e2
  have hl1 := HW16.out.len
  have hl2 := hor.len
  have hnn : nr = ng := by omega
  subst hnn
  have HD20 : Hid (Below w17.heap.size w17 w20) := D19.trans (hb20.mono D19.size)
  have HR20 : Hid (Row64 w20 ar nr Lr) := hor.toRow
  clear hl1 hl2 hpr hb18 hb19 hb20 hp18 ho19 hor B18 D19
  go_wp2_with fail
  refine (eqInt64S_same ar aw nr cr cw Lr _ HR20.out (HW16.out.kept HD20.out) (by omega)).mono ?_
  rintro e w21 ⟨rfl, hb21⟩
  have HD21 : Hid (Below w17.heap.size w17 w21) := HD20.out.trans (hb21.mono HD20.out.size)
  clear hb21
  go_wp2_with fail
  refine (heldInt64S_any ag nr cg 1 _ (HM16.out.kept HD21.out) (by omega) (by decide)).mono ?_
  rintro e w22 ⟨rfl, hw22⟩
  subst hw22
  rw [← HMM.out]
  have HF : Hid (Below w.heap.size w w22) := HB16.out.trans (HD21.out.mono HB16.out.size)
  go_wp2_with fail
  go_ret
  exact ⟨rfl, HF.out⟩

end Go.Proofs.Ytchkjdoakmoomaa
