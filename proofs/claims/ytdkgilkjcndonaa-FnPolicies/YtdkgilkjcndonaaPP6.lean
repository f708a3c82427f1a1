import Derived.Test.YtdkgilkjcndonaaPP5
import Derived.Test.YtdkgilkjcndonaaPP2
namespace Go.Proofs.Ytdkgilkjcndonaa
open Go.RowKit Go.Maps

set_option maxRecDepth 10000 in
set_option maxHeartbeats 4000000 in
theorem implPathPolicies_any (ap : Option Addr) (np cp : Nat) (xs : List PC) (aq : Option Addr) (nq cq : Nat) (q : List Int) (need noMap noAny : Bool) (w : World) (h : Pcs w ap np xs) (hq : Row64 w aq nq q) (hnq : nq ≤ 9223372036854775807) :
    Calls Try.prog 15 #[.slice ap np cp, .slice aq nq cq, .bool need, .bool noMap, .bool noAny] w (PpR xs q need noMap noAny w) := by
  have H0 : Hid (Pcs w ap np xs) := h
  have HL : Hid (xs.length = np) := h.len
  have HQ : Hid (Row64 w aq nq q) := hq
  clear h hq
  go_enter Try.func15, Try.ntmps15
  go_wp2_with fail
  refine (polPathOk_any ap np cp xs _ H0.out).mono ?_
  rintro e w1 ⟨b1, rfl, HB, hb1⟩
  cases b1 with
  | false =>
    have HN : Hid (¬ ppP xs q need noMap noAny) := fun e => absurd (HB.out.2 e.1) (by decide)
    clear HB
    go_wp2
    go_ret2
    exact ppR_f HN.out (ownL_none _ _) hb1
  | true =>
    have HP : Hid (pathP xs) := HB.out.1 rfl
    have HB1 : Hid (Below w.heap.size w w1) := hb1
    clear HB hb1
    go_wp2_with fail
    refine (askedOk_any aq nq cq q _ (HQ.out.kept HB1.out) hnq).mono ?_
    rintro e w2 ⟨b2, rfl, HB, hb2⟩
    have HB2 : Hid (Below w.heap.size w w2) := keepP HB1.out hb2
    clear HB1 hb2
    cases b2 with
    | false =>
      have HN : Hid (¬ ppP xs q need noMap noAny) := fun e => absurd (HB.out.2 e.2.1) (by decide)
      clear HB
      go_wp2
      go_ret2
      exact ppR_f HN.out (ownL_none _ _) HB2.out
    | true =>
      have HK : Hid (askP q) := HB.out.1 rfl
      clear HB
      go_wp2_with fail
      refine (walkOf_any ap np cp xs need noMap noAny _ (H0.out.kept HB2.out) HP.out).mono ?_
      rintro e w3 ⟨ac, cc, bm, rfl, hC3, hM3, hbm, hb3⟩
      have HB3 : Hid (Below w.heap.size w w3) := keepP HB2.out hb3
      obtain ⟨w4, hw4⟩ : ∃ w4, w4 = w3.alloc (.cells #[.slice ap np cp, .slice ac (np + 1) cc, .map (some bm)] 61) := ⟨_, rfl⟩
      have hh4 : w4.heap[w3.heap.size]? = some (.cells #[.slice ap np cp, .slice ac (np + 1) cc, .map (some bm)] 61 (0, 0)) := by rw [hw4]; exact heap_alloc_new _ _
      have HB34 : Hid (Below w3.heap.size w3 w4) := by show Below _ _ _; rw [hw4]; exact (Below.refl _ _).alloc (Nat.le_refl _) _
      have HB4 : Hid (Below w.heap.size w w4) := keepP HB3.out HB34.out
      have hbmw : w.heap.size ≤ bm := Nat.le_trans HB2.out.size hbm
      have HWK : Hid (WkAt w4 ap np ac xs (ctr0 need np) (ctr0 noMap np) (ctr0 noAny np)) := ⟨H0.out.kept HB4.out, hC3.keptC (KeptC.of_below HB34.out), HP.out⟩
      have HMA : Hid (MapAt w4 bm 0 (fun i q => chn xs (ctr0 noMap np) (ctr0 noAny np) (np - i) i q)) := MapAt.below ⟨_, hM3, memo_none _⟩ HB34.out
      obtain ⟨g4, hg4⟩ : ∃ g4, g4 = w3.heap.size := ⟨_, rfl⟩
      rw [← hg4] at hh4
      have HX : Hid (∀ W, KeptC w4 W → (W.cell? ⟨g4, 0, none⟩ = some (.slice ap np cp) ∧ W.cell? ⟨g4, 1, none⟩ = some (.slice ac (np + 1) cc) ∧ W.cell? ⟨g4, 2, none⟩ = some (.map (some bm))) ∧ g4 < W.heap.size) := fun W k => by
        have e0 : w4.cell? ⟨g4, 0, none⟩ = some (.slice ap np cp) := (cell_of_row _ _ 0 _ 61 (0, 0) hh4).trans rfl
        have e1 : w4.cell? ⟨g4, 1, none⟩ = some (.slice ac (np + 1) cc) := (cell_of_row _ _ 1 _ 61 (0, 0) hh4).trans rfl
        have e2 : w4.cell? ⟨g4, 2, none⟩ = some (.map (some bm)) := (cell_of_row _ _ 2 _ 61 (0, 0) hh4).trans rfl
        exact ⟨⟨k.2 _ _ _ e0, k.2 _ _ _ e1, k.2 _ _ _ e2⟩, Nat.lt_of_lt_of_le (World.block_lt_of_cell? _ _ e0) k.1⟩
      have HTO : Hid (Calls Try.prog 39 #[.agg #[.slice ap np cp, .slice ac (np + 1) cc, .map (some bm)], .slice aq nq cq] w4 (ToR w4 bm (ppT xs q noMap noAny))) := by
        have t := toldOf_any ap np cp ac cc bm xs _ _ _ aq nq cq q (holdB xs noMap noAny) w4 HWK.out HMA.out (HQ.out.kept HB4.out) HK.out (fun p => by unfold holdB; rw [HL.out])
        rw [← HL.out] at t
        rw [← HL.out]
        exact t
      have HW4 : Hid (_ = _) := hw4
      have HG4 : Hid (_ = _) := hg4
      unfold walkV
      clear hw4 hh4 hg4 hC3 hM3 hb3 HB34
      obtain ⟨⟨x0, x1, x2⟩, lx⟩ := HX.out _ (KeptC.of_below (Below.refl _ _))
      go_upto_region 4 with fail
      rw [← HW4.out, ← HG4.out]
      clear HW4 HG4
      go_wp2_with fail
      refine HTO.out.mono ?_
      rintro e w5 ⟨a5, n5, c5, rfl, ho5, ht5⟩
      have HKC : Hid (KeptC w4 w5) := KeptC.of_touch ht5 HMA.out.map
      have HO5 : Hid (OwnL w.heap.size w5 a5 n5 c5 (ppT xs q noMap noAny)) := ownL_mono ho5 HB4.out.size
      have HB5 : Hid (Below w.heap.size w w5) := HB4.out.trans (ht5.below hbmw HB4.out.size)
      have HCT : Hid (Ctrs w5 ac (np + 1) (trip xs (ctr0 need np) (ctr0 noMap np) (ctr0 noAny np))) := HWK.out.ctrs.keptC HKC.out
      have HLN : Hid ((ppT xs q noMap noAny).length = n5) := ho5.len
      have hn5 : n5 ≤ 1001 := by rw [← ho5.len]; exact pp_len xs q noMap noAny
      clear ho5 ht5 HTO x0 x1 x2 lx HMA HB4
      obtain ⟨⟨x0, x1, x2⟩, lx⟩ := HX.out _ HKC.out
      obtain ⟨nd, hnd⟩ : ∃ nd, nd = decide ((trip xs (ctr0 need np) (ctr0 noMap np) (ctr0 noAny np) np).1 = 0) := ⟨_, rfl⟩
      have HNO : Hid (Calls Try.prog 40 #[.agg #[.slice ap np cp, .slice ac (np + 1) cc, .map (some bm)]] w5 fun e w' => e = .returned (.bool nd) ∧ Below w5.heap.size w5 w') := by show Calls _ _ _ _ _; rw [hnd]; exact needsOne_any ap np cp ac cc bm _ w5 HCT.out
      have HND : Hid (nd = true ↔ ctr PC.need (ctr0 need xs.length) xs xs.length = 0) := by
        show _ ↔ _
        rw [hnd, HL.out]
        exact decide_eq_true_iff
      clear hnd
      by_cases hz : n5 = 0
      · have hzb : ((n5 : Int) == 0) = true := beq_iff_eq.2 (by omega)
        have HNIL : Hid (ppT xs q noMap noAny = []) := List.eq_nil_of_length_eq_zero (by rw [HLN.out]; exact hz)
        clear hz
        go_wp2_with fail
        refine HNO.out.mono ?_
        rintro e w6 ⟨rfl, hb6⟩
        have HB6 : Hid (Below w.heap.size w w6) := HB5.out.trans (hb6.mono HB5.out.size)
        have HO6 : Hid (OwnL w.heap.size w6 a5 n5 c5 (ppT xs q noMap noAny)) := HO5.out.kept hb6
        clear hb6 x0 x1 x2 lx
        cases nd with
        | true =>
          have HN : Hid (¬ ppP xs q need noMap noAny) := fun e => e.2.2 ⟨HNIL.out, HND.out.1 rfl⟩
          go_wp2
          go_ret2
          exact ppR_f HN.out (ownL_none _ _) HB6.out
        | false =>
          have HN : Hid (ppP xs q need noMap noAny) := ⟨HP.out, HK.out, fun e => absurd (HND.out.2 e.2) (by decide)⟩
          go_wp2
          go_ret2
          exact ⟨_, _, _, _, true, rfl, .inl ⟨rfl, HN.out, rfl⟩, HO6.out, hn5, HB6.out⟩
      · have hzb : ((n5 : Int) == 0) = false := beq_false_of_ne (by omega)
        have HN : Hid (ppP xs q need noMap noAny) := ⟨HP.out, HK.out, fun e => hz (by rw [← HLN.out, e.1]; rfl)⟩
        clear hz
        go_wp2
        go_ret2
        exact ⟨_, _, _, _, true, rfl, .inl ⟨rfl, HN.out, rfl⟩, HO5.out, hn5, HB5.out⟩

end Go.Proofs.Ytdkgilkjcndonaa
