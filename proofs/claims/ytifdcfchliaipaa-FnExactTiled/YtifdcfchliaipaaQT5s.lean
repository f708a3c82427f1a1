import Derived.Test.YtifdcfchliaipaaQT5
namespace Go.Proofs.Ytifdcfchliaipaa
open Go.RowKit Go.Sort

theorem shl_pow : ∀ k : Nat, k ≤ 3 → wrap64 ((2 : Int) ^ (2 * k)) = ((4 ^ k : Nat) : Int)
  | 0, _ => by decide +kernel
  | 1, _ => by decide +kernel
  | 2, _ => by decide +kernel
  | 3, _ => by decide +kernel

set_option maxRecDepth 10000 in
set_option maxHeartbeats 8000000 in
theorem l15Part_any : ∀ (N : Nat) (a : Option Addr) (n c : Nat) (xs : List TP) (fr sz : Nat) (w : World), sz ≤ N → Tls w a n xs → fr + sz ≤ 1000 → 0 < sz →
    Calls Try.prog 52 #[.slice a n c, .int .i64 fr, .int .i64 sz] w fun e w' => e = .returned (.tuple #[.int .u64 (tsV (tilR xs fr sz)).1, .int .i64 (tsV (tilR xs fr sz)).2]) ∧ Below w.heap.size w w' := by
  have hz : U64 0 := by simp [U64]
  intro N
  induction N with
  | zero => intro a n c xs fr sz w hN h hf h0; omega
  | succ N ih =>
    intro a n c xs fr sz w hN h hf h0
    have H0 : Hid (Tls w a n xs) := h
    have HL : Hid (xs.length = n) := h.len
    have HRG : Hid (_) := h.rngs
    have hnm := h.max
    have IH : Hid (_) := ih
    clear h ih
    obtain ⟨D, hD⟩ : ∃ D, D = fr / sz := ⟨_, rfl⟩
    obtain ⟨R, hR⟩ : ∃ R, R = fr % sz := ⟨_, rfl⟩
    obtain ⟨Q, hQ⟩ : ∃ Q, Q = D / 4 := ⟨_, rfl⟩
    obtain ⟨J, hJ⟩ : ∃ J, J = D % 4 := ⟨_, rfl⟩
    have d1 : (fr : Int) / (sz : Int) = (D : Int) := by rw [hD]; exact (Int.natCast_ediv _ _).symm
    have d2 : (fr : Int) % (sz : Int) = (R : Int) := by rw [hR]; exact (Int.natCast_emod _ _).symm
    have d3 : (D : Int) / 4 = (Q : Int) := by omega
    have d5 : (D : Int) - 4 * (Q : Int) = (J : Int) := by omega
    have hDb : D ≤ 1000 := by rw [hD]; exact Nat.le_trans (Nat.div_le_self _ _) (by omega)
    have hRb : R ≤ 1000 := by rw [hR]; exact Nat.le_trans (Nat.mod_le _ _) (by omega)
    have hJb : J < 4 := by rw [hJ]; exact Nat.mod_lt _ (by decide)
    have hQb : Q ≤ 1000 := by omega
    have HPT : Hid (∀ l, lvOf sz = some l → partT xs fr sz = if R = 0 then fnd xs l (Q : Nat) J else none) := fun l hl => by rw [partT_lv xs fr sz l hl, ← hR, ← hD, ← hQ, ← hJ]
    clear hD hR hQ hJ
    have s0 : ¬ (sz : Int) = 0 := by omega
    go_enter Try.func52, Try.ntmps52
    go_wp2
    go_loopw [8] (fun i wr => ∃ k : Nat, k ≤ 4 ∧ i = .int .i64 ((k : Int) - 1) ∧ Hid (∀ l, k ≤ l → lvOf sz = some l → partT xs fr sz = none) ∧ Below w.heap.size w wr) (fun i _ => ((intOf i) + 1).toNat)
    case atStart => exact ⟨4, Nat.le_refl _, rfl, fun l hl hv => absurd (lvOf_le sz l hv) (by omega), Below.refl _ _⟩
    case round =>
      obtain ⟨k, hk, rfl, HN, hbr⟩ := hrel
      rcases k with _ | k
      · have HNO : Hid (partT xs fr sz = none) := by
          show _ = _
          cases hlv : lvOf sz with
          | none => exact partT_no xs fr sz hlv
          | some l => exact HN.out l (Nat.zero_le _) hlv
        clear HN HPT d1 d2 d3 d5 hk
        have e0 : ((0 : Nat) : Int) - 1 = -1 := by decide
        rw [e0]
        by_cases h1 : sz = 1
        · subst h1
          have HR : Hid (tilR xs fr 1 = none) := tilR_one xs fr 1 HNO.out (Nat.le_refl _)
          go_wp2
          go_ret2
          exact ⟨by rw [HR.out]; rfl, hbr⟩
        · have z1 : ((sz : Int) == 1) = false := by simp; omega
          have z2 : ¬ (sz : Int) = 1 := by omega
          have hkl := hk_lt (show 2 ≤ sz by omega)
          have hkp := hk_pos sz
          have HTM : Hid (_) := tilR_more xs fr sz HNO.out (by omega)
          obtain ⟨k, hkk⟩ : ∃ k, k = hk sz := ⟨_, rfl⟩
          have HKK : Hid (k = hk sz) := hkk
          rw [← hkk] at hkl hkp
          obtain ⟨d, rfl⟩ : ∃ d, sz = k + d := ⟨sz - k, by omega⟩
          have HTM2 : Hid (tilR xs fr (k + d) = match tilR xs fr k, tilR xs (fr + k) d with
            | some a, some b => some (pairN a.1 b.1, a.2 + b.2)
            | _, _ => none) := by
            have := HTM.out
            rw [← hkk, Nat.add_sub_cancel_left] at this
            exact this
          have k2 : (k : Int) + (d : Int) - (k : Int) = (d : Int) := by omega
          have k4 : IntKind.i64.wrap (d : Int) = (d : Int) := by rw [IntKind.wrap_i64]; omega
          obtain ⟨t1, ht1⟩ : ∃ t1, t1 = tilR xs fr k := ⟨_, rfl⟩
          obtain ⟨t2, ht2⟩ : ∃ t2, t2 = tilR xs (fr + k) d := ⟨_, rfl⟩
          have ih1 := fun W (hW : Below w.heap.size w W) => IH.out a n c xs fr k W (by omega) (H0.out.kept hW) (by omega) hkp
          have ih2 := fun W (hW : Below w.heap.size w W) => IH.out a n c xs (fr + k) d W (by omega) (H0.out.kept hW) (by omega) (by omega)
          have k5 : ((fr + k : Nat) : Int) = (fr : Int) + (k : Int) := by omega
          rw [k5, ← ht2] at ih2
          rw [← ht1] at ih1
          rw [← ht1, ← ht2] at HTM2
          have HB1 : Hid (∀ h c, t1 = some (h, c) → U64 h ∧ 1 ≤ c ∧ c ≤ k) := fun h c e => tilR_bd k xs fr k (Nat.le_refl _) HRG.out hkp h c (ht1.symm.trans e)
          have HB2 : Hid (∀ h c, t2 = some (h, c) → U64 h ∧ 1 ≤ c ∧ c ≤ d) := fun h c e => tilR_bd d xs (fr + k) d (Nat.le_refl _) HRG.out (by omega) h c (ht2.symm.trans e)
          have IH1 : Hid (_) := ih1
          have IH2 : Hid (_) := ih2
          clear hkk ih1 ih2 HTM k5 ht1 ht2 IH
          go_wp2_with fail
          refine (l15Half_any (k + d) _ (by omega)).mono ?_
          rintro e w2 ⟨rfl, hw⟩
          have hw2 := hw.symm
          subst hw2
          rw [← HKK.out]
          go_wp2_with fail
          refine (IH1.out _ hbr).mono ?_
          rintro e w2 ⟨rfl, hb2⟩
          have B2 := keepT hbr hb2
          go_wp2_with fail
          refine (IH2.out _ B2).mono ?_
          rintro e w3 ⟨rfl, hb3⟩
          have B3 := keepT B2 hb3
          cases t1 with
          | none =>
            have HR : Hid (tilR xs fr (k + d) = none) := HTM2.out
            obtain ⟨u2, hu2⟩ : ∃ u2, u2 = tsV t2 := ⟨_, rfl⟩
            rw [← hu2, show tsV none = (0, -1) from rfl]
            clear hu2
            obtain ⟨u20, u21⟩ := u2
            go_wp2
            go_ret2
            exact ⟨by rw [HR.out]; rfl, B3⟩
          | some x =>
            obtain ⟨v1, c1⟩ := x
            obtain ⟨hv1, hc1, hc2⟩ := HB1.out v1 c1 rfl
            have y1 : ¬ (c1 : Int) < 0 := by omega
            cases t2 with
            | none =>
              have HR : Hid (tilR xs fr (k + d) = none) := HTM2.out
              simp only [tsV]
              go_wp2
              go_ret2
              exact ⟨by rw [HR.out]; rfl, B3⟩
            | some y =>
              obtain ⟨v2, c2⟩ := y
              obtain ⟨hv2, hc3, hc4⟩ := HB2.out v2 c2 rfl
              have y2 : ¬ (c2 : Int) < 0 := by omega
              have HR : Hid (tilR xs fr (k + d) = some (pairN v1 v2, c1 + c2)) := HTM2.out
              simp only [tsV]
              go_wp2_with fail
              refine (l15Pair_any v1 v2 _ hv1 hv2).mono ?_
              rintro e w4 ⟨rfl, hb4⟩
              go_wp2
              go_ret2
              exact ⟨by rw [HR.out]; rfl, keepT B3 hb4⟩
      · have e1 : ((k + 1 : Nat) : Int) - 1 = (k : Int) := by omega
        rw [e1]
        clear e1
        have hk0 : (0 : Int) ≤ (k : Int) := by omega
        obtain ⟨p, hp⟩ : ∃ p, p = 4 ^ k := ⟨_, rfl⟩
        have HP : Hid (p = 4 ^ k) := hp
        have hpb := pow4_le k (by omega)
        rw [← hp] at hpb
        have hk3 : k ≤ 3 := by omega
        have hk4 : k ≤ 4 := by omega
        have HSH : Hid (wrap64 ((2 : Int) ^ (2 * k)) = (p : Int)) := by show _ = _; rw [hp]; exact shl_pow k hk3
        clear hp
        have hp0 : ¬ (p : Int) = 0 := by omega
        by_cases hps : p = sz
        · subst hps
          have HLV : Hid (lvOf p = some k) := (lvOf_pow p k hk3).2 HP.out.symm
          by_cases hr : R = 0
          · have HPE : Hid (partT xs fr p = fnd xs k (Q : Nat) J) := by show _ = _; rw [HPT.out k HLV.out, if_pos hr]
            subst hr
            clear HPT HP HN
            obtain ⟨W0, rfl⟩ : ∃ W0, W0 = wr := ⟨wr, rfl⟩
            go_upto_region 5 with fail
            simp only [HSH.out]
            clear HSH
            go_wp2
            clear d2
            go_loopw [10] (fun i wr => ∃ q : Nat, q ≤ n ∧ i = .int .i64 q ∧ Hid (fnd xs k (Q : Nat) J = fnd (xs.drop q) k (Q : Nat) J) ∧ Below w.heap.size w wr) (fun i _ => n - (intOf i).toNat)
            case atStart => exact ⟨0, Nat.zero_le _, rfl, rfl, hbr⟩
            case round =>
              obtain ⟨q, hq, rfl, HF, hbr2⟩ := hrel
              by_cases hqn : q < n
              · obtain ⟨b, off, a1, n1, c1, rfl, hlb, hc, hp, hm⟩ := H0.out.get q hqn
                obtain ⟨y, hy⟩ : ∃ y, y = xs.getD q default := ⟨_, rfl⟩
                rw [← hy] at hc hp
                have HY : Hid (y = xs.getD q default) := hy
                have HQL : Hid (q < xs.length) := by show _ < _; rw [HL.out]; exact hqn
                obtain ⟨e0, e1, e2⟩ := hc.of (w' := wr) (fun i => hbr2.cell (p := ⟨b, i, none⟩) hlb)
                have HP : Hid (RowU wr a1 n1 y.hs) := hp.kept hbr2
                have HHL : Hid (y.hs.length = n1) := hp.len
                have hqni : (q : Int) < (n : Int) := by omega
                obtain ⟨iv, hiv⟩ : ∃ iv, iv = y.ix := ⟨_, rfl⟩
                have HIV : Hid (y.ix = iv) := hiv.symm
                rw [← hiv] at e1
                obtain ⟨w2, hw2⟩ : ∃ w2, w2 = wr.alloc (.cells #[.int .i64 y.lv, .int .i64 iv, .slice a1 n1 c1] 74) := ⟨_, rfl⟩
                have hbk : w2.heap[wr.heap.size]? = some (.cells #[.int .i64 y.lv, .int .i64 iv, .slice a1 n1 c1] 74) := by rw [hw2]; exact heap_alloc_new _ _
                have hb2 : Below wr.heap.size wr w2 := by rw [hw2]; exact (Below.refl _ _).alloc (Nat.le_refl _) _
                have g0 : w2.cell? ⟨wr.heap.size, 0, none⟩ = some (.int .i64 y.lv) := (cell_of_row _ _ 0 _ 74 (0, 0) hbk).trans rfl
                have g1 : w2.cell? ⟨wr.heap.size, 1, none⟩ = some (.int .i64 iv) := (cell_of_row _ _ 1 _ 74 (0, 0) hbk).trans rfl
                have g2 : w2.cell? ⟨wr.heap.size, 2, none⟩ = some (.slice a1 n1 c1) := (cell_of_row _ _ 2 _ 74 (0, 0) hbk).trans rfl
                have hB2 : Below w.heap.size w w2 := keepT hbr2 hb2
                have HW2 : Hid (_ = _) := hw2
                clear hc hy hp hw2 hbk hiv
                go_upto_region 10 with fail
                rw [← HW2.out]
                clear HW2 e0 e1 e2
                by_cases m2 : iv = (Q : Int)
                · subst m2
                  have v1 : IntKind.i64.wrap (4 * (Q : Int)) = 4 * (Q : Int) := by rw [IntKind.wrap_i64]; omega
                  have v2 : IntKind.i64.wrap (J : Int) = (J : Int) := by rw [IntKind.wrap_i64]; omega
                  have hJ0 : (0 : Int) ≤ (J : Int) := by omega
                  go_quiet (fail)
                  have hB3 := below_dnT hB2 nq
                  obtain ⟨w3, hw3⟩ : ∃ w3, w3 = w2.drewN nq := ⟨_, rfl⟩
                  have G0 : w3.cell? ⟨wr.heap.size, 0, none⟩ = some (.int .i64 y.lv) := by rw [hw3]; simpa using g0
                  have G1 : w3.cell? ⟨wr.heap.size, 1, none⟩ = some (.int .i64 (Q : Int)) := by rw [hw3]; simpa using g1
                  have G2 : w3.cell? ⟨wr.heap.size, 2, none⟩ = some (.slice a1 n1 c1) := by rw [hw3]; simpa using g2
                  rw [← hw3] at hB3 ⊢
                  have hb3 : Below wr.heap.size wr w3 := by rw [hw3]; exact below_dnT hb2 nq
                  clear hw3 g0 g1 g2 hb2 hB2
                  by_cases m1 : y.lv = (k : Int)
                  · have z3 : (y.lv == (k : Int)) = true := by simpa using m1
                    by_cases m3 : J < n1
                    · have z5 : (J : Int) < (n1 : Int) := by omega
                      obtain ⟨bh, oh, rfl, hlh, hch⟩ := HP.out.get J m3
                      have hch2 : w3.cell? ⟨bh, oh + J, none⟩ = some (.int .u64 (y.hs.getD J 0)) := (hb3.cell (p := ⟨bh, oh + J, none⟩) hlh).trans hch
                      obtain ⟨v, hv⟩ : ∃ v, v = y.hs.getD J 0 := ⟨_, rfl⟩
                      have HR : Hid (tilR xs fr p = some (v, 1)) := tilR_part xs fr p v (by rw [HPE.out, HF.out, fnd_hit xs k Q J q HQL.out y HY.out m1 HIV.out (by rw [HHL.out]; exact m3), hv])
                      rw [← hv] at hch2
                      clear hv hch HF
                      go_wp2
                      go_quiet (fail)
                      go_wp2
                      go_ret2
                      exact ⟨by rw [HR.out]; rfl, below_dnT hB3 _⟩
                    · have z5 : ¬ (J : Int) < (n1 : Int) := by omega
                      have HF2 : Hid (fnd xs k (Q : Nat) J = fnd (xs.drop (q + 1)) k (Q : Nat) J) := HF.out.trans (fnd_miss xs k Q J q HQL.out y HY.out (fun hh => by have := hh.2.2; rw [HHL.out] at this; exact m3 this))
                      go_wp2
                      go_quiet (fail)
                      go_wp2
                      go_roundw
                      case rel => exact ⟨q + 1, by omega, by go_num, HF2, below_dnT hB3 _⟩
                      case measure => simp [intOf]; omega
                  · have z3 : (y.lv == (k : Int)) = false := by simpa using m1
                    have HF2 : Hid (fnd xs k (Q : Nat) J = fnd (xs.drop (q + 1)) k (Q : Nat) J) := HF.out.trans (fnd_miss xs k Q J q HQL.out y HY.out (fun hh => m1 hh.1))
                    go_wp2
                    go_quiet (fail)
                    go_wp2
                    go_roundw
                    case rel => exact ⟨q + 1, by omega, by go_num, HF2, below_dnT hB3 _⟩
                    case measure => simp [intOf]; omega
                · go_quiet (fail)
                  have hB3 := below_dnT hB2 nq
                  obtain ⟨w3, hw3⟩ : ∃ w3, w3 = w2.drewN nq := ⟨_, rfl⟩
                  have G0 : w3.cell? ⟨wr.heap.size, 0, none⟩ = some (.int .i64 y.lv) := by rw [hw3]; simpa using g0
                  have G1 : w3.cell? ⟨wr.heap.size, 1, none⟩ = some (.int .i64 iv) := by rw [hw3]; simpa using g1
                  rw [← hw3] at hB3 ⊢
                  clear hw3 g0 g1 g2 hb2 hB2
                  have z4 : (iv == (Q : Int)) = false := by simpa using m2
                  have HF2 : Hid (fnd xs k (Q : Nat) J = fnd (xs.drop (q + 1)) k (Q : Nat) J) := HF.out.trans (fnd_miss xs k Q J q HQL.out y HY.out (fun hh => m2 (HIV.out.symm.trans hh.2.1)))
                  by_cases m1 : y.lv = (k : Int)
                  · have z3 : (y.lv == (k : Int)) = true := by simpa using m1
                    go_wp2
                    go_quiet (fail)
                    go_wp2
                    go_roundw
                    case rel => exact ⟨q + 1, by omega, by go_num, HF2, below_dnT hB3 _⟩
                    case measure => simp [intOf]; omega
                  · have z3 : (y.lv == (k : Int)) = false := by simpa using m1
                    go_wp2
                    go_quiet (fail)
                    go_wp2
                    go_roundw
                    case rel => exact ⟨q + 1, by omega, by go_num, HF2, below_dnT hB3 _⟩
                    case measure => simp [intOf]; omega
              · obtain rfl : q = n := by omega
                have HNO : Hid (partT xs fr p = none) := by show _ = _; rw [HPE.out, HF.out, List.drop_eq_nil_of_le (by rw [HL.out]; exact Nat.le_refl _)]; rfl
                go_wp2
                go_roundw
                case rel => exact ⟨k, by omega, by go_num, fun l _ _ => HNO.out, hbr2⟩
                case measure => simp [intOf]
          · have z2 : ((R : Int) != 0) = true := by simp; omega
            have z2' : ¬ (R : Int) = 0 := by omega
            have HNO : Hid (partT xs fr p = none) := by show _ = _; rw [HPT.out k HLV.out, if_neg hr]
            go_upto_region 5 with fail
            simp only [HSH.out]
            clear HSH
            go_wp2
            go_roundw
            case rel => exact ⟨k, hk4, by go_num, fun l _ _ => HNO.out, hbr⟩
            case measure => simp [intOf]
        · have z1 : ((p : Int) != (sz : Int)) = true := by simp; omega
          have z1' : ¬ (p : Int) = (sz : Int) := by omega
          have HNL : Hid (¬ lvOf sz = some k) := fun hh => hps (by rw [HP.out]; exact (lvOf_pow sz k hk3).1 hh)
          go_upto_region 5 with fail
          simp only [HSH.out]
          clear HSH
          go_wp2
          go_roundw
          case rel =>
            refine ⟨k, hk4, by go_num, fun l hl hlv => ?_, hbr⟩
            by_cases hlk : l = k
            · subst hlk; exact absurd hlv HNL.out
            · exact HN.out l (by omega) hlv
          case measure => simp [intOf]

set_option maxRecDepth 10000 in
set_option maxHeartbeats 2000000 in
theorem specTiled_any (a : Option Addr) (n c : Nat) (xs : List TP) (m : Int) (w : World) (h : Tls w a n xs) :
    Calls Try.prog 32 #[.slice a n c, .int .i64 m] w fun e w' => e = .returned (.tuple #[.int .u64 (tdV xs m).1, .int .i64 (tdV xs m).2]) ∧ Below w.heap.size w w' := by
  have H0 : Hid (Tls w a n xs) := h
  have HL : Hid (xs.length = n) := h.len
  have hnm := h.max
  clear h
  by_cases h1 : 1 ≤ m ∧ m ≤ 200
  · obtain ⟨s, rfl⟩ := Int.eq_ofNat_of_zero_le (show 0 ≤ m by omega)
    have HV : Hid (tdV xs s = if FewP xs n then tsV (tilR xs 0 s) else (0, -1)) := by show _ = _; unfold tdV; rw [if_pos h1, Int.toNat_natCast, HL.out]
    have HTR : Hid (_) := fun W (hW : Below w.heap.size w W) => l15Part_any s a n c xs 0 s W (Nat.le_refl _) (H0.out.kept hW) (by omega) (by omega)
    go_enter Try.func32, Try.ntmps32
    go_wp2_with fail
    refine (l1In_t (s : Int) 1 200 _ h1).mono ?_
    rintro e w1 ⟨rfl, hw⟩
    have hw2 := hw.symm
    subst hw2
    go_wp2
    go_loopw [6] (fun i wr => ∃ k : Nat, k ≤ n ∧ i = .int .i64 k ∧ Hid (FewP xs k) ∧ Below w.heap.size w wr) (fun i _ => n - (intOf i).toNat)
    case atStart => exact ⟨0, Nat.zero_le _, rfl, fun k hk => absurd hk (Nat.not_lt_zero _), Below.refl _ _⟩
    case round =>
      obtain ⟨k, hk, rfl, HE, hbr⟩ := hrel
      by_cases hlt : k < n
      · obtain ⟨b, off, a1, n1, c1, rfl, hlb, hc, hp, hm⟩ := H0.out.get k hlt
        have HLN : Hid ((xs.getD k default).hs.length = n1) := hp.len
        obtain ⟨e0, e1, e2⟩ := hc.of (w' := wr) (fun i => hbr.cell (p := ⟨b, i, none⟩) hlb)
        have hlti : (k : Int) < (n : Int) := by omega
        clear hc hp e0 e1
        by_cases h0 : n1 ≤ 4
        · have h0i : ¬ (4 : Int) < (n1 : Int) := by omega
          go_wp2
          go_roundw
          case rel => exact ⟨k + 1, by omega, by go_num, fun j hj => by
            by_cases e : j < k
            · exact HE.out j e
            · obtain rfl : j = k := by omega
              rw [HLN.out]; exact h0, hbr⟩
          case measure => simp [intOf]; omega
        · have h0i : (4 : Int) < (n1 : Int) := by omega
          have HNF : Hid (¬ FewP xs n) := fun e => absurd (e k hlt) (by rw [HLN.out]; exact h0)
          go_wp2
          go_ret2
          exact ⟨by rw [HV.out, if_neg HNF.out]; rfl, hbr⟩
      · obtain rfl : k = n := by omega
        go_wp2_with fail
        refine (HTR.out _ hbr).mono ?_
        rintro e w2 ⟨rfl, hb2⟩
        go_wp2
        go_ret2
        exact ⟨by rw [HV.out, if_pos HE.out]; rfl, keepT hbr hb2⟩
  · have HV : Hid (tdV xs m = (0, -1)) := by show _ = _; unfold tdV; rw [if_neg h1]
    go_enter Try.func32, Try.ntmps32
    go_wp2_with fail
    refine (l1In_f m 1 200 _ h1).mono ?_
    rintro e w1 ⟨rfl, hw⟩
    have hw2 := hw.symm
    subst hw2
    go_wp2
    go_ret2
    exact ⟨by rw [HV.out]; rfl, Below.refl _ _⟩

end Go.Proofs.Ytifdcfchliaipaa
