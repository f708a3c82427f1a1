import Derived.Test.YtifdcfchliaipaaQL12
import Derived.Deep.RegionHeldLaw
namespace Go.Proofs.Ytifdcfchliaipaa
open Go.RowKit Go.Sort

set_option maxHeartbeats 4000000 in
theorem implTile_any (a : Option Addr) (n c : Nat) (zs : List Int) (lv ix : Int) (w : World) (h : RowU w a n zs) (hn : n ≤ 1048576) (hc : n ≤ c) (hcm : c ≤ 9223372036854775807) :
    Calls Try.prog 30 #[.slice a n c, .int .i64 lv, .int .i64 ix] w fun e w' => ∃ a' c', e = .returned (.tuple #[.slice a' (tileR zs lv ix).1.length c', .bool (tileR zs lv ix).2]) ∧ OwnU w.heap.size w' a' (tileR zs lv ix).1.length c' (tileR zs lv ix).1 ∧ Below w.heap.size w w' := by
  obtain ⟨i0, hi, hz0, hz1, hz2⟩ := info_parts Try.infoU
  have H0 : Hid (RowU w a n zs) := h
  have HL : Hid (zs.length = n) := h.len
  have HRG : Hid (∀ k, U64 (zs.getD k 0)) := h.rng
  clear h
  by_cases hg : n ≤ 200 ∧ 0 ≤ lv ∧ lv ≤ 3 ∧ 0 ≤ ix ∧ ix ≤ 200
  · obtain ⟨l, rfl⟩ := Int.eq_ofNat_of_zero_le (show 0 ≤ lv by omega)
    obtain ⟨x, rfl⟩ := Int.eq_ofNat_of_zero_le (show 0 ≤ ix by omega)
    obtain ⟨p, hp⟩ : ∃ p, p = 4 ^ l := ⟨_, rfl⟩
    have hpb := pow4_le l (by omega)
    have HV : Hid (tileR zs l x = (tlF zs p x 4, decide (0 < (tlF zs p x 4).length))) := by show _ = _; unfold tileR; rw [if_pos (by rw [HL.out]; exact hg), Int.toNat_natCast, Int.toNat_natCast, hp]
    have HPP : Hid (p = 4 ^ l) := hp
    rw [← hp] at hpb
    clear hp
    have hn2 : n ≤ 200 := hg.1
    have hl3 : l ≤ 3 := by omega
    have hx2 : x ≤ 200 := by omega
    have hg1 : ¬ (200 : Int) < (n : Int) := by omega
    have hbe0 : Below w.heap.size w (w.alloc (.cells #[] 23)) := (Below.refl _ _).alloc (Nat.le_refl _) _
    go_enter Try.func30, Try.ntmps30
    go_wp2_with fail
    refine (inBounds_t (l : Int) 0 3 _ (by omega)).mono ?_
    rintro e w1 ⟨rfl, hw⟩
    have hw2 := hw.symm
    subst hw2
    go_wp2_with fail
    refine (inBounds_t (x : Int) 0 200 _ (by omega)).mono ?_
    rintro e w1 ⟨rfl, hw⟩
    have hw2 := hw.symm
    subst hw2
    go_wp2_with fail
    refine (partSize_any l _ (by omega)).mono ?_
    rintro e w1 ⟨rfl, hw⟩
    have hw2 := hw.symm
    subst hw2
    rw [← HPP.out]
    go_wp2
    go_loopw [9, 27] (fun o i wr => ∃ (k q cc : Nat) (ao : Option Addr), k ≤ 4 ∧ q ≤ k ∧ i = .int .i64 k ∧ o = .slice ao q cc ∧ Hid ((tlF zs p x k).length = q) ∧ Hid (OwnU w.heap.size wr ao q cc (tlF zs p x k)) ∧ Below w.heap.size w wr) (fun _ i _ => 4 - (intOf i).toNat)
    case atStart => exact ⟨0, 0, 0, none, Nat.zero_le _, Nat.zero_le _, rfl, rfl, rfl, ownU_none _ _, Below.refl _ _⟩
    case round =>
      obtain ⟨k, q, cc, ao, hk, hqk, rfl, rfl, HQ, HO, hbr⟩ := hrel
      by_cases hlt : k < 4
      · have hlti : (k : Int) < 4 := by omega
        obtain ⟨Fr, hFr⟩ : ∃ Fr, Fr = (4 * x + k) * p := ⟨_, rfl⟩
        have HFr : Hid (Fr = (4 * x + k) * p) := hFr
        have hFb : Fr ≤ 100000 := by
          have h1 : (4 * x + k) * p ≤ 804 * 64 := Nat.mul_le_mul (by omega) hpb.2
          omega
        have hFi : (4 * (x : Int) + (k : Int)) * (p : Int) = (Fr : Int) := by rw [hFr]; push_cast; rfl
        clear hFr
        have u1 : IntKind.i64.wrap (Fr : Int) = (Fr : Int) := by rw [IntKind.wrap_i64]; omega
        have hws := hbr.size
        by_cases hcond : Fr + p ≤ n
        · have hci : (Fr : Int) + (p : Int) ≤ (n : Int) := by omega
          have hci2 : ¬ (n : Int) < (Fr : Int) + (p : Int) := by omega
          have hi2 : (Fr : Int) + (p : Int) ≤ (c : Int) := by omega
          have hi3 : (Fr : Int) ≤ (Fr : Int) + (p : Int) := by omega
          have hi4 : ¬ c = Fr := by omega
          have hi5 : ¬ (Fr : Int) = (c : Int) := by omega
          have t1 : ((Fr : Int) + (p : Int) - (Fr : Int)).toNat = p := by omega
          have t2 : ((Fr : Int) + (p : Int)).toNat = Fr + p := by omega
          have t3 : (Fr : Int) + (p : Int) - (Fr : Int) = (p : Int) := by omega
          have t4 : Fr + p - Fr = p := by omega
          obtain ⟨b, off, rfl, hlb, _⟩ := H0.out.get 0 (by omega)
          obtain ⟨r, hr⟩ : ∃ r, r = rootL ((zs.drop Fr).take p) := ⟨_, rfl⟩
          have HR : Hid (r = rootL ((zs.drop Fr).take p)) := hr
          have HRB : Hid (U64 r) := by show U64 r; rw [hr]; exact rootL_bd _ (u64_take (u64_drop HRG.out _) _)
          have HN : Hid (tlF zs p x (k + 1) = tlF zs p x k ++ [r]) := by show _ = _; rw [tlF_next zs p x k (by rw [HL.out, ← HFr.out]; exact hcond), ← HFr.out, hr]
          have HRW : Hid (RowU wr (some ⟨b, off + Fr, none⟩) p ((zs.drop Fr).take p)) := by
            have h1 := (H0.out.kept hbr).drop Fr (by omega)
            exact h1.take p (by omega)
          clear hr
          go_wp2_with fail
          refine (rootOf_any (some ⟨b, off + Fr, none⟩) p (c - Fr) ((zs.drop Fr).take p) _ HRW.out (by omega)).mono ?_
          rintro e w2 ⟨rfl, hb2⟩
          rw [← HR.out]
          have hal : Below w2.heap.size w2 (w2.alloc (.cells #[.int .u64 r] 23)) := (Below.refl _ _).alloc (Nat.le_refl _) _
          have hb3 := keepT (keepT hbr hb2) hal
          have hor := HO.out.kept (keepT hb2 hal)
          have hcl := cell_oneU w2 r
          go_wp2_with (first | (at_builtin; refine wpList_append_own _ rfl (.tmp 42) (.tmp 50) 28 rfl w.heap.size 23 i0 _ 1 8 Try.underlying28 hi hz0 hz1 hz2 rfl (by decide) _ q _ rfl hor.row ⟨w2.heap.size, 0, none⟩ 1 1 ([r].map (Value.int .u64)) rfl rfl hcl (ints_oneCell .u64 [r]) (by unfold maxLen; omega) (by omega) (by have := hb3.size; exact this) ?_; intro v4 w4 hv4 hg4 _))
          rw [← List.map_append] at hv4
          obtain ⟨a4, c4, rfl, ho4⟩ := ownU_appended (u64_snoc hor.rng HRB.out) hv4
          have hb4 : Below w.heap.size w w4 := hb3.grown hg4 hb3.size (fun k hk => (hor.row.lt k hk).1)
          have HO4 : Hid (OwnU w.heap.size w4 a4 (q + 1) c4 (tlF zs p x (k + 1))) := by show OwnU _ _ _ _ _ _; rw [HN.out]; exact ho4
          have HQ4 : Hid ((tlF zs p x (k + 1)).length = q + 1) := by show _ = _; rw [HN.out, List.length_append, HQ.out]; rfl
          clear hv4 hg4 hor ho4 hcl HO HN
          go_roundw
          case rel => exact ⟨k + 1, q + 1, c4, a4, by omega, by omega, by go_num, rfl, HQ4, HO4, hb4⟩
          case measure => simp [intOf]; omega
        · have hci2 : (n : Int) < (Fr : Int) + (p : Int) := by omega
          have HST : Hid (tlF zs p x 4 = tlF zs p x k) := by show _ = _; rw [show tlF zs p x 4 = tlF zs p x (k + (4 - k)) by rw [Nat.add_sub_cancel' hk]]; exact tlF_stop zs p x k (by rw [HL.out, ← HFr.out]; exact hcond) _
          clear HRG
          by_cases hq0 : q = 0
          · subst hq0
            go_wp2
            go_ret2
            exact ⟨_, _, by rw [HV.out, HST.out, HQ.out]; rfl, by rw [HV.out, HST.out, HQ.out]; exact HO.out, hbr⟩
          · have hqi : (0 : Int) < (q : Int) := by omega
            go_wp2
            go_ret2
            exact ⟨_, _, by rw [HV.out, HST.out, HQ.out, decide_eq_true (by omega)]; rfl, by rw [HV.out, HST.out, HQ.out]; exact HO.out, hbr⟩
      · obtain rfl : k = 4 := by omega
        by_cases hq0 : q = 0
        · subst hq0
          go_wp2
          go_ret2
          exact ⟨_, _, by rw [HV.out, HQ.out]; rfl, by rw [HV.out, HQ.out]; exact HO.out, hbr⟩
        · have hqi : (0 : Int) < (q : Int) := by omega
          go_wp2
          go_ret2
          exact ⟨_, _, by rw [HV.out, HQ.out, decide_eq_true (by omega)]; rfl, by rw [HV.out, HQ.out]; exact HO.out, hbr⟩
  · have HV : Hid (tileR zs lv ix = ([], false)) := by show _ = _; unfold tileR; rw [if_neg (by rw [HL.out]; exact hg)]
    have hoe := ownU_none w.heap.size w
    have hbe := Below.refl w.heap.size w
    by_cases hb : (200 : Int) < (n : Int)
    · go_enter Try.func30, Try.ntmps30
      go_wp2
      go_ret2
      exact ⟨_, _, by rw [HV.out]; rfl, by rw [HV.out]; exact hoe, hbe⟩
    · by_cases hb2 : 0 ≤ lv ∧ lv ≤ 3
      · have hb3 : ¬ (0 ≤ ix ∧ ix ≤ 200) := by omega
        go_enter Try.func30, Try.ntmps30
        go_wp2_with fail
        refine (inBounds_t lv 0 3 _ hb2).mono ?_
        rintro e w1 ⟨rfl, hw⟩
        have hw2 := hw.symm
        subst hw2
        go_wp2_with fail
        refine (inBounds_f ix 0 200 _ hb3).mono ?_
        rintro e w1 ⟨rfl, hw⟩
        have hw2 := hw.symm
        subst hw2
        go_wp2
        go_ret2
        exact ⟨_, _, by rw [HV.out]; rfl, by rw [HV.out]; exact hoe, hbe⟩
      · go_enter Try.func30, Try.ntmps30
        go_wp2_with fail
        refine (inBounds_f lv 0 3 _ hb2).mono ?_
        rintro e w1 ⟨rfl, hw⟩
        have hw2 := hw.symm
        subst hw2
        go_wp2
        go_ret2
        exact ⟨_, _, by rw [HV.out]; rfl, by rw [HV.out]; exact hoe, hbe⟩

end Go.Proofs.Ytifdcfchliaipaa
