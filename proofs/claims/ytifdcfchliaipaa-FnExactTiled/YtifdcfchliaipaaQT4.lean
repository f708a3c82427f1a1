import Derived.Test.YtifdcfchliaipaaQT3
import Derived.Deep.DeepCutAuto
namespace Go.Proofs.Ytifdcfchliaipaa
open Go.RowKit Go.Sort

/-- What tiledPart tells. -/
def tpV (o : Option Int) : Int × Bool := match o with | some h => (h, true) | none => (0, false)

set_option maxRecDepth 10000 in
set_option maxHeartbeats 4000000 in
theorem tiledPart_any (a : Option Addr) (n c : Nat) (xs : List TP) (fr sz : Nat) (w : World) (h : Tls w a n xs) (hf : fr ≤ 1000) (h0 : 0 < sz) (hs : sz ≤ 1000) :
    Calls Try.prog 70 #[.slice a n c, .int .i64 fr, .int .i64 sz] w fun e w' => e = .returned (.tuple #[.int .u64 (tpV (partT xs fr sz)).1, .bool (tpV (partT xs fr sz)).2]) ∧ Below w.heap.size w w' := by
  have H0 : Hid (Tls w a n xs) := h
  have HL : Hid (xs.length = n) := h.len
  have hnm := h.max
  clear h
  obtain ⟨D, hD⟩ : ∃ D, D = fr / sz := ⟨_, rfl⟩
  obtain ⟨R, hR⟩ : ∃ R, R = fr % sz := ⟨_, rfl⟩
  obtain ⟨Q, hQ⟩ : ∃ Q, Q = D / 4 := ⟨_, rfl⟩
  obtain ⟨J, hJ⟩ : ∃ J, J = D % 4 := ⟨_, rfl⟩
  have d1 : (fr : Int) / (sz : Int) = (D : Int) := by rw [hD]; exact (Int.natCast_ediv _ _).symm
  have d2 : (fr : Int) % (sz : Int) = (R : Int) := by rw [hR]; exact (Int.natCast_emod _ _).symm
  have d3 : (D : Int) / 4 = (Q : Int) := by omega
  have d4 : (D : Int) % 4 = (J : Int) := by omega
  have hDb : D ≤ 1000 := by rw [hD]; exact Nat.le_trans (Nat.div_le_self _ _) hf
  have hRb : R ≤ 1000 := by rw [hR]; exact Nat.le_trans (Nat.mod_le _ _) hf
  have hJb : J < 4 := by rw [hJ]; exact Nat.mod_lt _ (by decide)
  have HPT : Hid (∀ l, lvOf sz = some l → partT xs fr sz = if R = 0 then fnd xs l (Q : Nat) J else none) := fun l hl => by rw [partT_lv xs fr sz l hl, ← hR, ← hD, ← hQ, ← hJ]
  clear hD hR hQ hJ
  have s0 : ¬ (sz : Int) = 0 := by omega
  go_enter Try.func70, Try.ntmps70
  go_wp2
  go_loopw [13] (fun i wr => ∃ k : Nat, k ≤ 4 ∧ i = .int .i64 k ∧ Hid (∀ l, l < k → lvOf sz = some l → partT xs fr sz = none) ∧ Below w.heap.size w wr) (fun i _ => 4 - (intOf i).toNat)
  case atStart => exact ⟨0, Nat.zero_le _, rfl, fun l hl => absurd hl (Nat.not_lt_zero _), Below.refl _ _⟩
  case round =>
    obtain ⟨k, hk, rfl, HN, hbr⟩ := hrel
    by_cases hk4 : k < 4
    · have hk4i : (k : Int) < 4 := by omega
      obtain ⟨p, hp⟩ : ∃ p, p = 4 ^ k := ⟨_, rfl⟩
      have HP : Hid (p = 4 ^ k) := hp
      clear hp
      go_wp2_with fail
      refine (partSize_any k _ (by omega)).mono ?_
      rintro e w1 ⟨rfl, hw⟩
      have hw2 := hw.symm
      subst hw2
      rw [← HP.out]
      by_cases hps : sz = p
      · have HLV : Hid (lvOf sz = some k) := (lvOf_pow sz k (by omega)).2 (by rw [hps]; exact HP.out.symm)
        have z1 : ((sz : Int) != (p : Int)) = false := by simp; omega
        have z1' : (sz : Int) = (p : Int) := by omega
        by_cases hr : R = 0
        · have HPE : Hid (partT xs fr sz = fnd xs k (Q : Nat) J) := by show _ = _; rw [HPT.out k HLV.out, if_pos hr]
          subst hr
          clear HPT HP hps z1'
          obtain ⟨W0, rfl⟩ : ∃ W0, W0 = wr := ⟨wr, rfl⟩
          clear HN
          go_wp2_with fail
          go_quiet (fail)
          go_wp2
          go_loopw [36] (fun i wr => ∃ q : Nat, q ≤ n ∧ i = .int .i64 q ∧ Hid (fnd xs k (Q : Nat) J = fnd (xs.drop q) k (Q : Nat) J) ∧ Below w.heap.size w wr) (fun i _ => n - (intOf i).toNat)
          case atStart => exact ⟨0, Nat.zero_le _, rfl, rfl, below_dnT hbr nq⟩
          case round =>
            obtain ⟨q, hq, rfl, HF, hbr2⟩ := hrel
            by_cases hqn : q < n
            · obtain ⟨b, off, a1, n1, c1, rfl, hlb, hc, hp, hm⟩ := H0.out.get q hqn
              obtain ⟨y, hy⟩ : ∃ y, y = xs.getD q default := ⟨_, rfl⟩
              rw [← hy] at hc hp
              have HY : Hid (y = xs.getD q default) := hy
              have HQL : Hid (q < xs.length) := by show _ < _; rw [HL.out]; exact hqn
              obtain ⟨e0, e1, e2⟩ := hc.of (w' := wr) (fun i => hbr2.cell (p := ⟨b, i, none⟩) hlb)
              have HP : Hid (RowU wr a1 n1 y.hs) := hp.kept hbr2
              have HHL : Hid (y.hs.length = n1) := hp.len
              have hqni : (q : Int) < (n : Int) := by omega
              obtain ⟨w2, hw2⟩ : ∃ w2, w2 = wr.alloc (.cells #[.int .i64 y.lv, .int .i64 y.ix, .slice a1 n1 c1] 74) := ⟨_, rfl⟩
              have hbk : w2.heap[wr.heap.size]? = some (.cells #[.int .i64 y.lv, .int .i64 y.ix, .slice a1 n1 c1] 74) := by rw [hw2]; exact heap_alloc_new _ _
              have hb2 : Below wr.heap.size wr w2 := by rw [hw2]; exact (Below.refl _ _).alloc (Nat.le_refl _) _
              have g0 : w2.cell? ⟨wr.heap.size, 0, none⟩ = some (.int .i64 y.lv) := (cell_of_row _ _ 0 _ 74 (0, 0) hbk).trans rfl
              have g1 : w2.cell? ⟨wr.heap.size, 1, none⟩ = some (.int .i64 y.ix) := (cell_of_row _ _ 1 _ 74 (0, 0) hbk).trans rfl
              have g2 : w2.cell? ⟨wr.heap.size, 2, none⟩ = some (.slice a1 n1 c1) := (cell_of_row _ _ 2 _ 74 (0, 0) hbk).trans rfl
              have hB2 : Below w.heap.size w w2 := keepT hbr2 hb2
              have HW2 : Hid (_ = _) := hw2
              clear hc hy hp hw2 hbk
              go_upto_region 9 with fail
              rw [← HW2.out]
              clear HW2 e0 e1 e2
              by_cases m1 : y.lv = (k : Int)
              · have z3 : (y.lv == (k : Int)) = true := by simpa using m1
                by_cases m2 : y.ix = (Q : Int)
                · have z4 : (y.ix == (Q : Int)) = true := by simpa using m2
                  by_cases m3 : J < n1
                  · have z5 : (J : Int) < (n1 : Int) := by omega
                    obtain ⟨bh, oh, rfl, hlh, hch⟩ := HP.out.get J m3
                    have hch2 : w2.cell? ⟨bh, oh + J, none⟩ = some (.int .u64 (y.hs.getD J 0)) := (hb2.cell (p := ⟨bh, oh + J, none⟩) hlh).trans hch
                    obtain ⟨v, hv⟩ : ∃ v, v = y.hs.getD J 0 := ⟨_, rfl⟩
                    have HR : Hid (partT xs fr sz = some v) := by show _ = _; rw [HPE.out, HF.out, fnd_hit xs k Q J q HQL.out y HY.out m1 m2 (by rw [HHL.out]; exact m3), hv]
                    rw [← hv] at hch2
                    clear hv hch
                    have m1' := m1
                    clear HF
                    go_wp2
                    go_ret2
                    exact ⟨by rw [HR.out]; rfl, hB2⟩
                  · have z5 : ¬ (J : Int) < (n1 : Int) := by omega
                    have HF2 : Hid (fnd xs k (Q : Nat) J = fnd (xs.drop (q + 1)) k (Q : Nat) J) := HF.out.trans (fnd_miss xs k Q J q HQL.out y HY.out (fun hh => by have := hh.2.2; rw [HHL.out] at this; exact m3 this))
                    go_wp2
                    go_roundw
                    case rel => exact ⟨q + 1, by omega, by go_num, HF2, hB2⟩
                    case measure => simp [intOf]; omega
                · have z4 : (y.ix == (Q : Int)) = false := by simpa using m2
                  have HF2 : Hid (fnd xs k (Q : Nat) J = fnd (xs.drop (q + 1)) k (Q : Nat) J) := HF.out.trans (fnd_miss xs k Q J q HQL.out y HY.out (fun hh => m2 hh.2.1))
                  go_wp2
                  go_roundw
                  case rel => exact ⟨q + 1, by omega, by go_num, HF2, hB2⟩
                  case measure => simp [intOf]; omega
              · have z3 : (y.lv == (k : Int)) = false := by simpa using m1
                have HF2 : Hid (fnd xs k (Q : Nat) J = fnd (xs.drop (q + 1)) k (Q : Nat) J) := HF.out.trans (fnd_miss xs k Q J q HQL.out y HY.out (fun hh => m1 hh.1))
                go_wp2
                go_roundw
                case rel => exact ⟨q + 1, by omega, by go_num, HF2, hB2⟩
                case measure => simp [intOf]; omega
            · obtain rfl : q = n := by omega
              have HNO : Hid (partT xs fr sz = none) := by show _ = _; rw [HPE.out, HF.out, List.drop_eq_nil_of_le (by rw [HL.out]; exact Nat.le_refl _)]; rfl
              go_wp2
              go_roundw
              case rel => exact ⟨k + 1, by omega, by go_num, fun l _ _ => HNO.out, hbr2⟩
              case measure => simp [intOf]; omega
        · have z2 : ((R : Int) != 0) = true := by simp; omega
          have z2' : ¬ (R : Int) = 0 := by omega
          have HNO : Hid (partT xs fr sz = none) := by show _ = _; rw [HPT.out k HLV.out, if_neg hr]
          clear hps z1'
          go_wp2
          go_roundw
          case rel => exact ⟨k + 1, by omega, by go_num, fun l _ _ => HNO.out, hbr⟩
          case measure => simp [intOf]; omega
      · have z1 : ((sz : Int) != (p : Int)) = true := by simp; omega
        have z1' : ¬ (sz : Int) = (p : Int) := by omega
        have HNL : Hid (¬ lvOf sz = some k) := fun hh => hps (by rw [HP.out]; exact ((lvOf_pow sz k (by omega)).1 hh).symm)
        go_wp2
        go_roundw
        case rel =>
          refine ⟨k + 1, by omega, by go_num, fun l hl hlv => ?_, hbr⟩
          by_cases hlk : l = k
          · subst hlk; exact absurd hlv HNL.out
          · exact HN.out l (by omega) hlv
        case measure => simp [intOf]; omega
    · obtain rfl : k = 4 := by omega
      have HNO : Hid (partT xs fr sz = none) := by
        show _ = _
        cases hlv : lvOf sz with
        | none => exact partT_no xs fr sz hlv
        | some l => exact HN.out l (by have := lvOf_le sz l hlv; omega) hlv
      go_wp2
      go_ret2
      exact ⟨by rw [HNO.out]; rfl, hbr⟩

set_option maxRecDepth 10000 in
set_option maxHeartbeats 4000000 in
theorem tiledRoot_any : ∀ (N : Nat) (a : Option Addr) (n c : Nat) (xs : List TP) (fr sz : Nat) (w : World), sz ≤ N → Tls w a n xs → fr + sz ≤ 1000 → 0 < sz →
    Calls Try.prog 56 #[.slice a n c, .int .i64 fr, .int .i64 sz] w fun e w' => ∃ v t ok, e = .returned (.tuple #[.int .u64 v, .int .i64 t, .bool ok]) ∧ TrR (tilR xs fr sz) sz v t ok ∧ Below w.heap.size w w' := by
  have hz : U64 0 := by simp [U64]
  intro N
  induction N with
  | zero => intro a n c xs fr sz w hN h hf h0; omega
  | succ N ih =>
    intro a n c xs fr sz w hN h hf h0
    have H0 : Hid (Tls w a n xs) := h
    have hrg := h.rngs
    clear h
    cases ep : partT xs fr sz with
    | some v =>
      have HR : Hid (TrR (tilR xs fr sz) sz v 1 true) := by
        show TrR _ _ _ _ _
        rw [tilR_part xs fr sz v ep]
        exact ⟨partT_bd xs fr sz hrg v ep, by decide, by omega, fun h c e => by simp at e; obtain ⟨rfl, rfl⟩ := e; exact ⟨rfl, rfl, rfl⟩, fun e => by simp at e⟩
      have tp := fun W (hW : Below w.heap.size w W) => tiledPart_any a n c xs fr sz W (H0.out.kept hW) (by omega) h0 (by omega)
      rw [ep] at tp
      have HTP : Hid (_) := tp
      clear tp ep ih
      go_enter Try.func56, Try.ntmps56
      go_wp2_with fail
      refine (HTP.out _ (Below.refl _ _)).mono ?_
      rintro e w1 ⟨rfl, hb1⟩
      go_wp2
      go_ret3
      exact ⟨v, 1, true, rfl, HR.out, hb1⟩
    | none =>
      have tp := fun W (hW : Below w.heap.size w W) => tiledPart_any a n c xs fr sz W (H0.out.kept hW) (by omega) h0 (by omega)
      rw [ep] at tp
      have HTP : Hid (_) := tp
      clear tp
      by_cases h1 : sz = 1
      · have HR : Hid (TrR (tilR xs fr sz) sz 0 0 false) := by
          show TrR _ _ _ _ _
          rw [tilR_one xs fr sz ep (by omega)]
          exact ⟨hz, by decide, by omega, fun h c e => by simp at e, fun _ => rfl⟩
        subst h1
        clear ep ih
        go_enter Try.func56, Try.ntmps56
        go_wp2_with fail
        refine (HTP.out _ (Below.refl _ _)).mono ?_
        rintro e w1 ⟨rfl, hb1⟩
        go_wp2
        go_ret3
        exact ⟨0, 0, false, rfl, HR.out, hb1⟩
      · have z1 : ((sz : Int) == 1) = false := by simp; omega
        have z2 : ¬ (sz : Int) = 1 := by omega
        have hkl := hk_lt (show 2 ≤ sz by omega)
        have hkp := hk_pos sz
        have HTM : Hid (_) := tilR_more xs fr sz ep (by omega)
        obtain ⟨k, hkk⟩ : ∃ k, k = hk sz := ⟨_, rfl⟩
        have HKK : Hid (k = hk sz) := hkk
        rw [← hkk] at hkl hkp
        obtain ⟨d, rfl⟩ : ∃ d, sz = k + d := ⟨sz - k, by omega⟩
        have HTM2 : Hid (tilR xs fr (k + d) = match tilR xs fr k, tilR xs (fr + k) d with
          | some a, some b => some (pairN a.1 b.1, a.2 + b.2)
          | _, _ => none) := by
          have := HTM.out
          rw [← hkk, Nat.add_sub_cancel_left] at this
          exact this
        have k2 : (k : Int) + (d : Int) - (k : Int) = (d : Int) := by omega
        have k4 : IntKind.i64.wrap (d : Int) = (d : Int) := by rw [IntKind.wrap_i64]; omega
        have IH1 : Hid (_) := fun W (hW : Below w.heap.size w W) => ih a n c xs fr k W (by omega) (H0.out.kept hW) (by omega) hkp
        have ih2 := fun W (hW : Below w.heap.size w W) => ih a n c xs (fr + k) d W (by omega) (H0.out.kept hW) (by omega) (by omega)
        have k5 : ((fr + k : Nat) : Int) = (fr : Int) + (k : Int) := by omega
        rw [k5] at ih2
        have IH2 : Hid (_) := ih2
        clear hkk ep ih ih2 HTM k5
        go_enter Try.func56, Try.ntmps56
        go_wp2_with fail
        refine (HTP.out _ (Below.refl _ _)).mono ?_
        rintro e w1 ⟨rfl, hb1⟩
        go_wp2_with fail
        refine (firstPart_any (k + d) _ (by omega)).mono ?_
        rintro e w2 ⟨rfl, hw⟩
        have hw2 := hw.symm
        subst hw2
        rw [← HKK.out]
        go_wp2_with fail
        refine (IH1.out _ hb1).mono ?_
        rintro e w2 ⟨v1, t1, ok1, rfl, hr1, hb2⟩
        have B2 := keepT hb1 hb2
        have HR1 : Hid (TrR (tilR xs fr k) k v1 t1 ok1) := hr1
        clear hr1
        cases ok1 with
        | false =>
          have HN : Hid (tilR xs fr (k + d) = none) := by
            show _ = _
            rw [HTM2.out]
            cases e1 : tilR xs fr k with
            | none => rfl
            | some z => have := (HR1.out.yes z.1 z.2 e1).1; simp at this
          have HR : Hid (TrR (tilR xs fr (k + d)) (k + d) 0 0 false) := by
            show TrR _ _ _ _ _
            rw [HN.out]
            exact ⟨hz, by decide, by omega, fun h c e => by simp at e, fun _ => rfl⟩
          go_wp2
          go_ret3
          exact ⟨0, 0, false, rfl, HR.out, B2⟩
        | true =>
          have hv1 := HR1.out.bd
          have l1 := HR1.out.lo
          have l2 := HR1.out.hi
          go_wp2_with fail
          refine (IH2.out _ B2).mono ?_
          rintro e w3 ⟨v2, t2, ok2, rfl, hr2, hb3⟩
          have B3 := keepT B2 hb3
          have hv2 := hr2.bd
          have l3 := hr2.lo
          have l4 := hr2.hi
          have HR : Hid (TrR (tilR xs fr (k + d)) (k + d) (pairN v1 v2) (t1 + t2) ok2) := by
            show TrR _ _ _ _ _
            rw [HTM2.out]
            cases e1 : tilR xs fr k with
            | none => have := HR1.out.no e1; simp at this
            | some z =>
              obtain ⟨_, rfl, rfl⟩ := HR1.out.yes z.1 z.2 e1
              cases e2 : tilR xs (fr + k) d with
              | none => exact ⟨pairN_bd _ _, by omega, by omega, fun h c e => by simp at e, fun _ => hr2.no e2⟩
              | some y =>
                obtain ⟨rfl, rfl, rfl⟩ := hr2.yes y.1 y.2 e2
                exact ⟨pairN_bd _ _, by omega, by omega, fun h c e => by simp at e; obtain ⟨rfl, rfl⟩ := e; exact ⟨rfl, rfl, by omega⟩, fun e => by simp at e⟩
          clear hr2
          go_wp2_with fail
          refine (pairOf_any v1 v2 _ hv1 hv2).mono ?_
          rintro e w4 ⟨rfl, hb4⟩
          go_wp2
          go_ret3
          exact ⟨_, _, _, rfl, HR.out, keepT B3 hb4⟩

end Go.Proofs.Ytifdcfchliaipaa
