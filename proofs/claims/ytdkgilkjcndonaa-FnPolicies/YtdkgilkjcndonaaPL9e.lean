import Derived.Test.YtdkgilkjcndonaaPL9d
namespace Go.Proofs.Ytdkgilkjcndonaa
open Go.RowKit Go.Maps

theorem psum_next (l : List Int) (g : Int → Int) (k : Nat) (h : k < l.length) : ((l.take (k + 1)).map g).sum = ((l.take k).map g).sum + g (l.getD k 0) := by
  have e : l.getD k 0 = l[k] := by simp [h]
  rw [e, List.take_succ_eq_append_getElem h, List.map_append, List.sum_append]
  simp
theorem psum_bounds (l : List Int) (g : Int → Int) (c : Int) (h0 : ∀ x, 0 ≤ g x) (h1 : ∀ x, g x ≤ c) : ∀ k, 0 ≤ ((l.take k).map g).sum ∧ ((l.take k).map g).sum ≤ k * c
  | 0 => by simp
  | k + 1 => by
    have ih := psum_bounds l g c h0 h1 k
    have hc : 0 ≤ c := Int.le_trans (h0 0) (h1 0)
    have e : ((k + 1 : Nat) : Int) * c = (k : Int) * c + c := by rw [Int.natCast_add, Int.add_mul]; simp
    by_cases hk : k < l.length
    · rw [psum_next l g k hk]
      have a := h0 (l.getD k 0)
      have b := h1 (l.getD k 0)
      omega
    · rw [List.take_of_length_le (by omega)]
      rw [List.take_of_length_le (by omega)] at ih
      omega

set_option maxRecDepth 10000 in
set_option maxHeartbeats 4000000 in
theorem countChains_of (ap : Option Addr) (np cp : Nat) (ac : Option Addr) (cc bm : Nat) (xs : List PC) (q0 m0 a0 : Int) (m i : Nat) (hm : i + (m + 1) = np) (hnp : np ≤ 8) (hC : m ≠ 0 → ChainOk ap np cp ac cc bm xs q0 m0 a0 m (i + 1)) : CountOk ap np cp ac cc bm xs q0 m0 a0 m i := by
  intro q w n hq0 hq1 hW hM hn
  have HC : Hid (∀ (q : Int) (w : World) (n : Nat), m ≠ 0 → 0 ≤ q → q ≤ 1000 → WkAt w ap np ac xs q0 m0 a0 → MapAt w bm n (fun i q => chn xs m0 a0 (np - i) i q) → n + tn m ≤ 1000000000000 → Calls Try.prog 58 #[.agg #[.slice ap np cp, .slice ac (np + 1) cc, .map (some bm)], .int .i64 ((i : Int) + 1), .int .i64 q] w (ChR w bm n (tn m) (fun i q => chn xs m0 a0 (np - i) i q) (chn xs m0 a0 m (i + 1) q))) := fun q w n h0 h1 h2 h3 h4 h5 => hC h0 q w n h1 h2 h3 h4 h5
  obtain ⟨f, hf⟩ : ∃ f : Nat → Int → Int, f = fun i q => chn xs m0 a0 (np - i) i q := ⟨_, rfl⟩
  rw [← hf] at HC hM ⊢
  have hil : i < np := by omega
  have HLEN : Hid (xs.length = np) := hW.path.len
  have HPATH : Hid (pathP xs) := hW.right
  have HHA : Hid (∀ W, WkAt W ap np ac xs q0 m0 a0 → Calls Try.prog 87 #[.agg #[.slice ap np cp, .slice ac (np + 1) cc, .map (some bm)], .int .i64 i, .int .i64 q] W fun e w' => e = .returned (.bool (decide (hAt xs a0 i q))) ∧ Below W.heap.size W w') := fun W h => holdsAt_any ap np cp ac cc bm i xs q0 m0 a0 q W h hil
  have HLA : Hid (∀ W, Calls Try.prog 88 #[.agg #[.slice ap np cp, .slice ac (np + 1) cc, .map (some bm)], .int .i64 i] W fun e w' => e = .returned (.bool (decide (i + 1 = np))) ∧ Below W.heap.size W w') := fun W => isLast_any ap np cp ac (np + 1) cc bm i W (by omega) hnp
  have HBE : Hid (∀ W, WkAt W ap np ac xs q0 m0 a0 → Calls Try.prog 89 #[.agg #[.slice ap np cp, .slice ac (np + 1) cc, .map (some bm)], .int .i64 i, .int .i64 q] W (BcR W (nx xs m0 i q))) := fun W h => becomes_any ap np cp ac cc bm i xs q0 m0 a0 q W h hil
  have HW : Hid (WkAt w ap np ac xs q0 m0 a0) := hW
  have HM : Hid (MapAt w bm n f) := hM
  have hbm : bm < w.heap.size := by obtain ⟨D, hD, _⟩ := hM.own; exact hD.lt
  have HCV : Hid (chn xs m0 a0 (m + 1) i q = if hAt xs a0 i q then (if m = 0 then 1 else ((nx xs m0 i q).map (fun q' => chn xs m0 a0 m (i + 1) q')).sum) else 0) := chn_succ xs m0 a0 m i q
  unfold walkV
  clear hC hf hW hM
  obtain ⟨w1, hw1⟩ : ∃ w1, w1 = w.alloc (.cells #[.slice ap np cp, .slice ac (np + 1) cc, .map (some bm)] 61) := ⟨_, rfl⟩
  have HB1 : Hid (Below w.heap.size w w1) := by show Below _ _ _; rw [hw1]; exact (Below.refl _ _).alloc (Nat.le_refl _) _
  have hb1 : w1.heap[w.heap.size]? = some (.cells #[.slice ap np cp, .slice ac (np + 1) cc, .map (some bm)] 61 (0, 0)) := by rw [hw1]; exact heap_alloc_new _ _
  have HX : Hid (∀ W, KeptC w1 W → (W.cell? ⟨w.heap.size, 0, none⟩ = some (.slice ap np cp) ∧ W.cell? ⟨w.heap.size, 1, none⟩ = some (.slice ac (np + 1) cc) ∧ W.cell? ⟨w.heap.size, 2, none⟩ = some (.map (some bm))) ∧ w.heap.size < W.heap.size) := fun W k =>
    ⟨⟨k.2 _ _ _ ((cell_of_row _ _ 0 _ 61 (0, 0) hb1).trans rfl), k.2 _ _ _ ((cell_of_row _ _ 1 _ 61 (0, 0) hb1).trans rfl), k.2 _ _ _ ((cell_of_row _ _ 2 _ 61 (0, 0) hb1).trans rfl)⟩, Nat.lt_of_lt_of_le (Array.getElem?_eq_some_iff.1 hb1).1 k.1⟩
  have HW1 : Hid (_ = _) := hw1
  clear hw1 hb1
  go_enter Try.func77, Try.ntmps77
  go_wp2_with fail
  rw [← HW1.out]
  clear HW1
  refine (HHA.out _ (HW.out.keptC (KeptC.of_below HB1.out))).mono ?_
  rintro e w2 ⟨rfl, hb2⟩
  have HB2 : Hid (Below w.heap.size w w2) := keepP HB1.out hb2
  have HK2 : Hid (KeptC w1 w2) := KeptC.of_below hb2
  by_cases hh : hAt xs a0 i q
  · rw [if_pos hh] at HCV
    rw [decide_eq_true hh]
    obtain ⟨⟨x0, x1, x2⟩, lx⟩ := HX.out w2 HK2.out
    clear hb2 hh HHA
    go_wp2_with fail
    refine (HLA.out _).mono ?_
    rintro e w3 ⟨rfl, hb3⟩
    have HB3 : Hid (Below w.heap.size w w3) := keepP HB2.out hb3
    have HK3 : Hid (KeptC w1 w3) := HK2.out.trans (KeptC.of_below hb3)
    clear x0 x1 x2 lx hb3 HLA
    by_cases hl : m = 0
    · rw [if_pos hl] at HCV
      rw [decide_eq_true (show i + 1 = np by omega)]
      clear hl
      go_wp2
      go_ret
      refine ⟨by rw [HCV.out]; rfl, (HM.out.below HB3.out).mono (by omega), Touch.of_below HB3.out⟩
    · rw [if_neg hl] at HCV
      rw [decide_eq_false (show ¬ i + 1 = np by omega)]
      obtain ⟨⟨x0, x1, x2⟩, lx⟩ := HX.out w3 HK3.out
      go_wp2_with fail
      refine (HBE.out _ (HW.out.keptC (KeptC.of_below HB3.out))).mono ?_
      rintro e w4 ⟨al, cl, rfl, hR4, hb4⟩
      have HB4 : Hid (Below w.heap.size w w4) := keepP HB3.out hb4
      have HK4 : Hid (KeptC w1 w4) := HK3.out.trans (KeptC.of_below hb4)
      obtain ⟨L, hL⟩ : ∃ L, L = nx xs m0 i q := ⟨_, rfl⟩
      have hlen := nx_len xs m0 i q (HPATH.out.maps i)
      have HRG : Hid (∀ r ∈ nx xs m0 i q, 0 ≤ r ∧ r ≤ 1000) := nx_range xs m0 i q HPATH.out (by rw [HLEN.out]; exact hil) hq0 hq1
      rw [← hL] at hlen HRG HCV hR4 ⊢
      obtain ⟨ln, hln⟩ : ∃ ln, ln = L.length := ⟨_, rfl⟩
      rw [← hln] at hlen hR4 ⊢
      have HLN : Hid (ln = L.length) := hln
      have HR4 : Hid (Row64 w4 al ln L) := hR4
      obtain ⟨g, hg⟩ : ∃ g : Int → Int, g = fun q' => chn xs m0 a0 m (i + 1) q' := ⟨_, rfl⟩
      have HG : Hid (∀ q', chn xs m0 a0 m (i + 1) q' = g q') := fun q' => by rw [hg]
      rw [← hg] at HCV
      have HGB : Hid (∀ x, 0 ≤ g x ∧ g x ≤ 1679616) := fun x => by
        rw [hg]
        show 0 ≤ chn xs m0 a0 m (i + 1) x ∧ chn xs m0 a0 m (i + 1) x ≤ 1679616
        have h1 := chn_le xs m0 a0 HPATH.out.maps m (i + 1) x
        have h2 := six_le m (by omega)
        exact ⟨chn_nonneg _ _ _ _ _ _, by omega⟩
      have HPB : Hid (∀ k, 0 ≤ ((L.take k).map g).sum ∧ ((L.take k).map g).sum ≤ k * 1679616) := psum_bounds L g 1679616 (fun x => (HGB.out x).1) (fun x => (HGB.out x).2)
      have htl := tn_le m (by omega)
      clear x0 x1 x2 lx hb4 HBE hL hln hR4 hg HPATH HLEN
      go_wp2
      go_loopw [7, 23] (fun c j wr => ∃ k : Nat, k ≤ ln ∧ c = .int .i64 ((L.take k).map g).sum ∧ j = .int .i64 k ∧ Hid (MapAt wr bm (n + k * tn m) f) ∧ Hid (Touch bm (bm + 1) w wr) ∧ Hid (KeptC w4 wr)) (fun _ j _ => ln - (intOf j).toNat)
      case atStart => exact ⟨0, Nat.zero_le _, by simp, rfl, by rw [Nat.zero_mul, Nat.add_zero]; exact HM.out.below HB4.out, Touch.of_below HB4.out, ⟨Nat.le_refl _, fun _ _ _ h => h⟩⟩
      case round =>
        obtain ⟨k, hk, rfl, rfl, HMk, HTk, HKk⟩ := hrel
        by_cases hlt : k < ln
        · obtain ⟨b, off, rfl, hlb, hc⟩ := (HR4.out.keptC HKk.out).get k hlt
          obtain ⟨r, hr⟩ : ∃ r, r = L.getD k 0 := ⟨_, rfl⟩
          rw [← hr] at hc
          have HRR : Hid (0 ≤ r ∧ r ≤ 1000) := by
            show _ ∧ _
            rw [hr]; exact HRG.out _ (getD_mem L k (by rw [← HLN.out]; exact hlt))
          have hpb := HPB.out k
          have hnx := psum_next L g k (by rw [← HLN.out]; exact hlt)
          rw [← hr] at hnx
          obtain ⟨s, hs⟩ : ∃ s, s = ((L.take k).map g).sum := ⟨_, rfl⟩
          rw [← hs] at hpb hnx ⊢
          obtain ⟨s', hs'⟩ : ∃ s', s' = ((L.take (k + 1)).map g).sum := ⟨_, rfl⟩
          rw [← hs'] at hnx
          have HS' : Hid (s' = ((L.take (k + 1)).map g).sum) := hs'
          obtain ⟨v, hv⟩ : ∃ v, v = g r := ⟨_, rfl⟩
          have hvb := HGB.out r
          rw [← hv] at hvb hnx
          have HV : Hid (chn xs m0 a0 m (i + 1) r = v) := by show _ = _; rw [hv]; exact HG.out r
          have HNX : Hid (s' = s + v) := hnx
          have hlti : (k : Int) < (ln : Int) := by omega
          obtain ⟨⟨x0, x1, x2⟩, lx⟩ := HX.out wr (HK4.out.trans HKk.out)
          have hs8 : s ≤ 20000000 := by omega
          have hwrap : IntKind.i64.wrap (s + v) = s' := by rw [HNX.out, IntKind.wrap_i64]; omega
          clear hr hs hs' hv hnx
          go_wp2_with fail
          refine (HC.out r wr (n + k * tn m) hl HRR.out.1 HRR.out.2 (HW.out.keptC (KeptC.of_touch HTk.out HM.out.map)) HMk.out ?_).mono ?_
          · have h6 : (k + 1) * tn m ≤ 6 * tn m := Nat.mul_le_mul_right _ (by omega)
            rw [Nat.add_mul, Nat.one_mul] at h6
            omega
          rintro e w5 ⟨rfl, hM5, hT5⟩
          rw [HV.out]
          have HM5 : Hid (MapAt w5 bm (n + (k + 1) * tn m) f) := by
            show MapAt _ _ _ _
            rw [Nat.add_mul, Nat.one_mul, ← Nat.add_assoc]; exact hM5
          have HT5 : Hid (Touch bm (bm + 1) w w5) := HTk.out.trans hT5
          have HK5 : Hid (KeptC w4 w5) := HKk.out.trans (KeptC.of_touch hT5 HMk.out.map)
          clear hM5 hT5 x0 x1 x2 lx hc
          go_wp2
          go_roundw
          case rel => exact ⟨k + 1, by omega, by rw [← HS'.out], by go_num, HM5, HT5, HK5⟩
          case measure => simp [intOf]; omega
        · obtain rfl : k = ln := by omega
          have hge : ¬ ((k : Int) < (k : Int)) := by omega
          have HSUM : Hid (((L.take k).map g).sum = chn xs m0 a0 (m + 1) i q) := by
            show _ = _
            rw [HCV.out, List.take_of_length_le (by rw [HLN.out]; exact Nat.le_refl _)]
          rw [HSUM.out]
          clear HPB
          go_wp2
          go_ret
          exact ChR.mk (HMk.out.mono (by have : k * tn m ≤ 6 * tn m := Nat.mul_le_mul_right _ hlen; omega)) HTk.out
  · rw [if_neg hh] at HCV
    rw [decide_eq_false hh]
    clear hh hb2
    go_wp2
    go_ret
    refine ⟨by rw [HCV.out]; rfl, (HM.out.below HB2.out).mono (by omega), Touch.of_below HB2.out⟩

end Go.Proofs.Ytdkgilkjcndonaa
