import Derived.Test.YtfplaebocdpcbaaRS2
import Derived.Test.YtfplaebocdpcbaaGJ3
namespace Go.Proofs.Ytfplaebocdpcbaa
open Go.RowKit

theorem ats_next (ps : List (Int × Int)) (k : Nat) (h : k < ps.length) : ats (ps.take (k + 1)) = ats (ps.take k) ++ [(ps.getD k (0, 0)).1] := by
  unfold ats
  rw [List.take_succ_eq_append_getElem h, List.map_append]
  simp [h]
/-- Numbers of our own, wherever. -/
structure OwnN (B : Nat) (w : World) (a : Option Addr) (n cap : Nat) (zs : List Int) : Prop where
  row : w.ownsRow B 2 1 (.slice a n cap) n (zs.map (Value.int .i64))
theorem OwnN.toRow {B : Nat} {w : World} {a : Option Addr} {n cap : Nat} {zs : List Int} (h : OwnN B w a n cap zs) : Row64 w a n zs := by
  have hl : zs.length = n := by simpa using h.row.1
  refine ⟨hl, fun k hk => ?_⟩
  rcases h.row.2 with ⟨_, h0⟩ | ⟨g, cap', cur, hv, hb, hg, r⟩
  · omega
  · simp only [Value.slice.injEq] at hv
    obtain ⟨rfl, _, rfl⟩ := hv
    refine ⟨g, 0, rfl, (Array.getElem?_eq_some_iff.1 hg).1, ?_⟩
    rw [Nat.zero_add, World.ownsRow.cellAt h.row k (by omega)]
    simp [show k < zs.length by omega]
theorem ownN_appended {B : Nat} {w : World} {v : Value} {m : Nat} {zs : List Int} (h : w.ownsRow B 2 1 v m (zs.map (Value.int .i64))) : ∃ a cap, v = .slice a m cap ∧ m ≤ cap ∧ cap ≤ 9223372036854775807 ∧ OwnN B w a m cap zs := by
  rcases h.2 with ⟨rfl, rfl⟩ | ⟨g, cap, cur, rfl, _, _, hc, hm, _⟩
  · exact ⟨_, _, rfl, Nat.le_refl _, by decide, ⟨h⟩⟩
  · exact ⟨_, _, rfl, hc, by unfold maxLen at hm; omega, ⟨h⟩⟩

set_option maxHeartbeats 4000000 in
theorem specRestore_any (a : Option Addr) (n c : Nat) (ps : List (Int × Int)) (w : World) (h : Shs w a n ps) (hn : n ≤ 1048576) :
    Calls Try.prog 11 #[.slice a n c] w fun e w' => e = .returned (pair (restR ps)) ∧ Below w.heap.size w w' := by
  obtain ⟨i0, hi, hz0, hz1, hz2⟩ := info_parts Try.info2
  have H0 : Hid (Shs w a n ps) := h
  have HL : Hid (ps.length = n) := h.len
  clear h
  by_cases h20 : 20 < (n : Int)
  · have HR : Hid (restR ps = (0, false)) := by show _ = _; unfold restR; rw [if_neg (fun hh => by have := hh.1.1.2; rw [ats_len, HL.out] at this; omega)]
    go_enter Try.func11, Try.ntmps11
    go_wp2
    go_ret2
    exact ⟨by rw [HR.out]; rfl, Below.refl _ _⟩
  have hn20 : n ≤ 20 := by omega
  have HOE : Hid (OwnN w.heap.size (w.alloc (.cells #[] 2)) (some ⟨w.heap.size, 0, none⟩) 0 0 (ats (ps.take 0))) := ⟨World.ownsRow_lit w #[] 0 (Nat.le_refl _) (Nat.zero_le _) rfl⟩
  have hbe : Below w.heap.size w (w.alloc (.cells #[] 2)) := (Below.refl _ _).alloc (Nat.le_refl _) _
  go_enter Try.func11, Try.ntmps11
  go_wp2
  go_loopw [4, 5] (fun o i wr => ∃ (k m cc : Nat) (ao : Option Addr), k ≤ n ∧ m = k ∧ i = .int .i64 k ∧ o = .slice ao m cc ∧ m ≤ cc ∧ cc ≤ 9223372036854775807 ∧ OwnN w.heap.size wr ao m cc (ats (ps.take k)) ∧ Hid (∀ j, j < k → expP ((vls ps).getD j 0)) ∧ Below w.heap.size w wr) (fun _ i _ => n - (intOf i).toNat)
  case atStart => exact ⟨0, 0, 0, _, Nat.zero_le _, rfl, rfl, rfl, Nat.le_refl _, by decide, HOE.out, (fun j hj => absurd hj (Nat.not_lt_zero _)), hbe⟩
  case round =>
    obtain ⟨k, m, cc, ao, hk, rfl, rfl, rfl, hmc, hcm, hor, HA, hbr⟩ := hrel
    by_cases hlt : m < n
    · obtain ⟨b, off, rfl, hlb, x0, x1⟩ := (H0.out.kept hbr).get m hlt
      obtain ⟨p, hp⟩ : ∃ p, p = ps.getD m (0, 0) := ⟨_, rfl⟩
      rw [← hp] at x0 x1
      have HP : Hid (p.1 = (ps.getD m (0, 0)).1 ∧ p.2 = (vls ps).getD m 0) := ⟨by rw [hp], by rw [hp, vls_get ps m (by rw [HL.out]; exact hlt)]⟩
      have hlti : (m : Int) < (n : Int) := by omega
      have hws := hbr.size
      have HOR : Hid (_) := hor
      clear hp hor
      go_wp2_with fail
      refine (l7Exp_any p.2 _).mono ?_
      rintro e w2 ⟨rfl, rfl⟩
      by_cases hs : expP p.2
      · have HN : Hid (∀ j, j < m + 1 → expP ((vls ps).getD j 0)) := fun j hj => by
          by_cases e : j = m
          · rw [e, ← HP.out.2]; exact hs
          · exact HA.out j (by omega)
        rw [decide_eq_true hs]
        clear hs HA
        have hcl : ∀ jj uu, ([p.1].map (Value.int .i64))[jj]? = some uu → (w2.alloc (.cells #[.int .i64 p.1] 2)).cell? ((⟨w2.heap.size, 0, none⟩ : Addr).add jj) = some uu := by
          intro jj uu hju
          rw [Addr.add_lit, Nat.zero_add, cell_of_row _ w2.heap.size jj _ 2 _ (heap_alloc_new w2 _), ← hju]
          simp
        have hor2 : (w2.alloc (.cells #[.int .i64 p.1] 2)).ownsRow w.heap.size 2 1 (.slice ao m cc) m ((ats (ps.take m)).map (Value.int .i64)) := ownsRow_below HOR.out.row ((Below.refl _ _).alloc (Nat.le_refl _) _)
        have hbr2 : Below w.heap.size w (w2.alloc (.cells #[.int .i64 p.1] 2)) := hbr.alloc hws _
        clear HOR
        go_wp2_with (first | (at_builtin; refine wpList_append_own _ rfl (.tmp 25) (.tmp 31) 22 rfl w.heap.size 2 i0 _ 1 8 Try.underlying22 hi hz0 hz1 hz2 rfl (by decide) _ m _ rfl hor2 ⟨w2.heap.size, 0, none⟩ 1 1 ([p.1].map (Value.int .i64)) rfl rfl hcl (ints_oneCell .i64 [p.1]) (by unfold maxLen; omega) (by omega) (by simp; omega) ?_; intro v4 w4 hv4 hg4 _))
        have he : (ats (ps.take m)).map (Value.int .i64) ++ [p.1].map (Value.int .i64) = (ats (ps.take (m + 1))).map (Value.int .i64) := by rw [ats_next ps m (by rw [HL.out]; exact hlt), HP.out.1, List.map_append]
        rw [he] at hv4
        have hbr4 : Below w.heap.size w w4 := hbr2.grown hg4 (by simp; omega) (fun k hk => (hor2.lt k hk).1)
        obtain ⟨a4, c4, rfl, hm4, hc4, ho4⟩ := ownN_appended hv4
        go_roundw
        case rel => exact ⟨m + 1, m + 1, c4, a4, by omega, rfl, by go_num, rfl, hm4, hc4, ho4, HN, hbr4⟩
        case measure => simp [intOf]; omega
      · have HR : Hid (restR ps = (0, false)) := by show _ = _; unfold restR; rw [if_neg (fun hh => hs (by rw [HP.out.2]; exact hh.2 m (by rw [vls_len, HL.out]; exact hlt)))]
        rw [decide_eq_false hs]
        clear hs HA HOR
        go_wp2
        go_ret2
        exact ⟨by rw [HR.out]; rfl, hbr⟩
    · obtain rfl : m = n := by omega
      rw [List.take_of_length_le (by rw [HL.out]; exact Nat.le_refl _)] at hor
      have HW : Hid (Row64 wr ao m (ats ps)) := hor.toRow
      clear hor HOE
      have hx : expsP (vls ps) := fun j hj => HA.out j (by rw [vls_len, HL.out] at hj; exact hj)
      go_wp2_with fail
      refine (l7Who_any ao m cc (ats ps) _ HW.out hmc hcm).mono ?_
      rintro e w2 ⟨rfl, hb2⟩
      have HW2 : Hid (Row64 w2 ao m (ats ps)) := HW.out.kept hb2
      have B2 := keep3 hbr hb2
      have HSH : Hid (Shs w2 a m ps) := H0.out.kept B2
      clear HW hb2 hbr
      by_cases hw : whoP (ats ps)
      · have HR : Hid (restR ps = (sumF (rterm ps) m, true)) := by show _ = _; unfold restR; rw [if_pos ⟨hw, hx⟩, HL.out]
        have HSX : Hid (∀ j, j < m → secP ((ats ps).getD j 0)) := fun j hj => hw.2.1 j (by rw [ats_len, HL.out]; exact hj)
        have HEX : Hid (∀ j, j < m → expP ((vls ps).getD j 0)) := HA
        rw [decide_eq_true hw]
        clear hw HA hx
        go_wp2
        go_loopw [6, 7] (fun s i wr => ∃ (k : Nat) (v : Int), k ≤ m ∧ i = .int .i64 k ∧ s = .int .i64 v ∧ 0 ≤ v ∧ v < 500000003 ∧ Hid (v = sumF (rterm ps) k) ∧ Below w2.heap.size w2 wr) (fun _ i _ => m - (intOf i).toNat)
        case atStart => exact ⟨0, 0, Nat.zero_le _, rfl, rfl, by decide, by decide, rfl, Below.refl _ _⟩
        case round =>
          obtain ⟨k, v, hk, rfl, rfl, hv0, hv1, HV, hbr⟩ := hrel
          by_cases hlt : k < m
          · obtain ⟨b, off, rfl, hlb, x0, x1⟩ := (HSH.out.kept hbr).get k hlt
            obtain ⟨p, hp⟩ : ∃ p, p = ps.getD k (0, 0) := ⟨_, rfl⟩
            rw [← hp] at x0 x1
            have e1 : (ats ps).getD k 0 = p.1 := by rw [hp, ats_get ps k (by rw [HL.out]; exact hlt)]
            have e2 : (vls ps).getD k 0 = p.2 := by rw [hp, vls_get ps k (by rw [HL.out]; exact hlt)]
            have hsec := HSX.out k hlt
            obtain ⟨hy0, hy1⟩ := HEX.out k hlt
            rw [e1] at hsec
            rw [e2] at hy0 hy1
            obtain ⟨hl0, hl1⟩ := lamL_bd (ats ps) p.1
            obtain ⟨hp0, hp1⟩ := prod_bd hl0 (show lamL (ats ps) p.1 < 1000000007 by omega) hy0 (show p.2 < 1000000007 by omega) (Int.le_refl _)
            have HN : Hid ((v + lamL (ats ps) p.1 * p.2) % 500000003 = sumF (rterm ps) (k + 1)) := by
              show _ = _
              rw [sumF, ← HV.out, rterm, e1, e2, Int.add_emod v (lamL (ats ps) p.1 * p.2 % 500000003), Int.emod_emod_of_dvd _ (Int.dvd_refl _), ← Int.add_emod]
            obtain ⟨hm0, hm1⟩ := mod_bd (v + lamL (ats ps) p.1 * p.2) (show (1 : Int) ≤ 500000003 by decide)
            have HRW : Hid (Row64 wr ao m (ats ps)) := HW2.out.kept hbr
            have hlti : (k : Int) < (m : Int) := by omega
            clear hp HV e1 e2
            go_wp2_with fail
            go_quiet ((go_at_call 20; refine Calls.quiet_of_same (l7Lambda_any ao m cc (ats ps) p.1 _ (HRW.out.kept (below_drewN3 (Below.refl _ _) _)) hn20 HSX.out hsec)))
            go_wp2
            go_roundw
            case rel => exact ⟨k + 1, _, by omega, by go_num, rfl, hm0, hm1, HN, below_drewN3 hbr _⟩
            case measure => simp [intOf]; omega
          · obtain rfl : k = m := by omega
            have HB : Hid (Below w.heap.size w wr) := keep3 B2 hbr
            go_wp2
            go_ret2
            exact ⟨by rw [HR.out, ← HV.out]; rfl, HB.out⟩
      · have HR : Hid (restR ps = (0, false)) := by show _ = _; unfold restR; rw [if_neg (fun hh => hw hh.1)]
        rw [decide_eq_false hw]
        go_wp2
        go_ret2
        exact ⟨by rw [HR.out]; rfl, B2⟩

set_option maxHeartbeats 400000 in
theorem szShareS_any (a : Option Addr) (n c : Nat) (l : Int) (w : World) (hn : n ≤ 9223372036854775807) (h0 : 0 ≤ l) (h1 : l ≤ 1048576) :
    Calls Try.prog 10 #[.slice a n c, .int .i64 l] w fun e w' => ∃ r, e = .returned (.int .i64 r) ∧ (r < 0 ∨ (0 ≤ r ∧ n ≤ 1048576)) ∧ w' = w := by
  by_cases hlt : (n : Int) ≤ l
  · go_enter Try.func10, Try.ntmps10
    go_wp2
    go_ret
    exact ⟨_, rfl, .inr (by omega), rfl⟩
  · go_enter Try.func10, Try.ntmps10
    go_wp2
    go_ret
    exact ⟨_, rfl, .inl (by decide), rfl⟩

set_option maxHeartbeats 2000000 in
theorem toShareS_any (a : Option Addr) (n c : Nat) (ps : List (Int × Int)) (w : World) (h : Shs w a n ps) (hn : n ≤ 1048576) :
    Calls Try.prog 12 #[.slice a n c] w fun e w' => ∃ ar, e = .returned (.slice ar n n) ∧ Shs w' ar n ps ∧ Below w.heap.size w w' := by
  obtain ⟨i0, hi, hz0, hz1, hz2⟩ := info_parts Try.infoShare
  have H0 : Hid (Shs w a n ps) := h
  have HL : Hid (ps.length = n) := h.len
  clear h
  go_enter Try.func12, Try.ntmps12
  go_wp2_with (first | (at_make; refine wpList_make_full _ rfl _ _ 31 rfl w.heap.size 38 i0 _ 2 Try.underlying31 hi hz0 hz1 _ _ _ _ n rfl rfl rfl rfl (by rw [hz2]; omega) (by unfold maxLen; omega) (by exact Nat.le_refl _) ?_; intro w2 hown hgrow))
  have hbl : Below w.heap.size w w2 := (Below.refl _ _).grown hgrow (Nat.le_refl _) (by simp)
  clear hgrow hi hz0 hz1 hz2
  go_loopw [4] (fun i wr => ∃ k : Nat, k ≤ n ∧ i = .int .i64 k ∧ (∃ vs, wr.ownsRow w.heap.size 38 2 (.slice (some ⟨w.heap.size, 0, none⟩) n n) n vs ∧ Pre2 vs ps k) ∧ Below w.heap.size w wr) (fun i _ => n - (intOf i).toNat)
  case atStart => exact ⟨0, Nat.zero_le _, rfl, ⟨_, hown, fun j hj => absurd hj (Nat.not_lt_zero _)⟩, hbl⟩
  case round =>
    obtain ⟨k, hk, rfl, ⟨vs, hor, hpre⟩, hbr⟩ := hrel
    by_cases hkn : k < n
    · obtain ⟨b, off, rfl, hlb, x0, x1⟩ := (H0.out.kept hbr).get k hkn
      obtain ⟨p, hp⟩ : ∃ p, p = ps.getD k (0, 0) := ⟨_, rfl⟩
      rw [← hp] at x0 x1
      have HP : Hid (ps.getD k (0, 0) = p) := hp.symm
      have hkni : (k : Int) < (n : Int) := by omega
      have HPRE : Hid (Pre2 vs ps k) := hpre
      have HOR : Hid (_) := hor
      have hws := hbr.size
      clear hp hpre hor hown hbl
      go_wp2_with fail
      refine (toShare_any p _).mono ?_
      rintro e w3 ⟨rfl, hb3⟩
      have hor3 := ownsRow_below HOR.out hb3
      have hvl : vs.length = n * 2 := hor3.1
      have f0 : w3.frozen? ⟨w.heap.size, k * 2, none⟩ = false := hor3.frozenAt _
      have f1 : w3.frozen? ⟨w.heap.size, k * 2 + 1, none⟩ = false := hor3.frozenAt _
      obtain ⟨y0, hy0⟩ : ∃ y, w3.cell? ⟨w.heap.size, k * 2, none⟩ = some y := ⟨_, (hor3.cellAt _ (by omega)).trans (List.getElem?_eq_getElem (by omega))⟩
      obtain ⟨y1, hy1⟩ : ∃ y, w3.cell? ⟨w.heap.size, k * 2 + 1, none⟩ = some y := ⟨_, (hor3.cellAt _ (by omega)).trans (List.getElem?_eq_getElem (by omega))⟩
      have hP := HPRE.out.set (by omega)
      rw [HP.out] at hP
      have hO := ((hor3.stored (k * 2) (.int .i64 p.1)).1.stored (k * 2 + 1) (.int .i64 p.2)).1
      have hB : Below w.heap.size w ((w3.setCell ⟨w.heap.size, k * 2, none⟩ (.int .i64 p.1)).setCell ⟨w.heap.size, k * 2 + 1, none⟩ (.int .i64 p.2)) := ((keep3 hbr hb3).setCell (Nat.le_refl _) _).setCell (Nat.le_refl _) _
      have FIN : Hid (_ ∧ _ ∧ _) := ⟨hO, hP, hB⟩
      clear hP hO hB hor3 hb3 hbr HPRE HOR
      rw [sigv]
      go_wp2
      go_roundw
      case rel => exact ⟨k + 1, by omega, by go_num, ⟨_, FIN.out.1, FIN.out.2.1⟩, FIN.out.2.2⟩
      case measure => simp [intOf]; omega
    · obtain rfl : k = n := by omega
      have hvs := hpre.all hor.1 HL.out
      rw [hvs] at hor
      have FIN : Hid (OwnSh w.heap.size wr (some ⟨w.heap.size, 0, none⟩) k k ps ∧ _) := ⟨⟨hor, by omega⟩, hbr⟩
      clear hor hpre hbr hvs hown hbl
      go_wp2
      go_ret
      exact ⟨_, rfl, FIN.out.1.toShs, FIN.out.2⟩

set_option maxHeartbeats 2000000 in
theorem lawRestore_walk (a : Option Addr) (n c : Nat) (ps : List (Int × Int)) (w : World) (h : Shs w a n ps) :
    Calls Try.prog 4 #[.slice a n c] w fun e w' => e = .returned (.bool true) ∧ Below w.heap.size w w' := by
  have H0 : Hid (Shs w a n ps) := h
  have hmax := h.max
  clear h
  go_enter Try.func4, Try.ntmps4
  go_wp2_with fail
  refine (szShareS_any a n c 1048576 _ hmax (by decide) (by decide)).mono ?_
  rintro e w0 ⟨r, rfl, hr, rfl⟩
  by_cases hneg : r < 0
  · clear hr
    go_wp2
    go_ret
    exact ⟨rfl, Below.refl _ _⟩
  · have hn : n ≤ 1048576 := by rcases hr with h | h; exact absurd h hneg; exact h.2
    clear hr
    go_wp2_with fail
    refine (toShareS_any a n c ps _ H0.out hn).mono ?_
    rintro e w1 ⟨a1, rfl, ho1, hb1⟩
    go_wp2_with fail
    refine (specRestore_any a1 n n ps _ ho1 hn).mono ?_
    rintro e w2 ⟨rfl, hb2⟩
    have B2 := keep3 hb1 hb2
    clear hb1 hb2 ho1
    obtain ⟨t, ht⟩ : ∃ t, t = restR ps := ⟨_, rfl⟩
    have HT : Hid (t = restR ps) := ht
    rw [← ht, pair]
    clear ht
    obtain ⟨v, ok⟩ := t
    go_wp2_with fail
    refine (toShareS_any a n c ps _ (H0.out.kept B2) hn).mono ?_
    rintro e w3 ⟨a3, rfl, ho3, hb3⟩
    have B3 := keep3 B2 hb3
    have HO3 : Hid (Shs w3 a3 n ps) := ho3
    clear hb3 ho3
    go_wp2_with fail
    refine (implRestore_any a3 n n ps _ HO3.out hn).mono ?_
    rintro e w4 ⟨rfl, hb4⟩
    rw [← HT.out, pair]
    have B4 := keep3 B3 hb4
    have HO4 : Hid (Shs w4 a3 n ps) := HO3.out.kept hb4
    clear hb4 HO3
    have z1 : (v != v) = false := by simp
    have z2 : (ok != ok) = false := by simp
    go_wp2_with fail
    refine (toShareS_any a n c ps _ (H0.out.kept B4) hn).mono ?_
    rintro e w5 ⟨a5, rfl, ho5, hb5⟩
    have B5 := keep3 B4 hb5
    go_wp2_with fail
    refine (eqShareS_same a3 a5 n n n ps _ (HO4.out.kept hb5) ho5).mono ?_
    rintro e w6 ⟨rfl, hb6⟩
    have B6 := keep3 B5 hb6
    go_wp2
    go_ret
    exact ⟨rfl, B6⟩

end Go.Proofs.Ytfplaebocdpcbaa
