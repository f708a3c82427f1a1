import Derived.Test.YtglpbgebcpijaaaGreatTP1
import Derived.Test.YtglpbgebcpijaaaGreatTT5
set_option linter.unusedVariables false
namespace Go.Proofs.YtglpbgebcpijaaaGreat
open Go.RowKit Go.Sort

theorem kid_u64 (p : Int × Int × Int) : U64 (kidQ p) := by
  unfold kidQ kidN
  exact hashL_bd _
theorem map_take_snoc (xs : List (Int × Int × Int)) (k : Nat) (h : k < xs.length) : (xs.take (k + 1)).map kidQ = (xs.take k).map kidQ ++ [kidQ (xs.getD k (0, 0, 0))] := by
  rw [List.take_add_one, List.map_append]
  simp [h]

set_option maxRecDepth 10000 in
set_option maxHeartbeats 4000000 in
theorem eachKid_any (a : Option Addr) (n c : Nat) (xs : List (Int × Int × Int)) (w : World) (h : RowPu w a n xs) (hw : PuW xs) (hn : n ≤ 1000) :
    Calls Tryz.prog 108 #[.slice a n c, .func (Fn.func 109) #[] #[]] w fun e w' => ∃ ao co, e = .returned (.slice ao n co) ∧ OwnU w.heap.size w' ao n co (xs.map kidQ) ∧ Below w.heap.size w w' := by
  obtain ⟨i0, hi, hz0, hz1, hz2⟩ := info_parts Tryz.infoU
  have H0 : Hid (RowPu w a n xs) := h
  have HW : Hid (PuW xs) := hw
  have HLX : Hid (xs.length = n) := h.len
  clear h hw
  go_enter Tryz.func108, Tryz.ntmps108
  go_wp2
  go_loopw [5, 10] (fun o i wr => ∃ (k : Nat) (ao : Option Addr) (cc : Nat), k ≤ n ∧ i = .int .i64 k ∧ o = .slice ao k cc ∧ Hid (OwnU w.heap.size wr ao k cc ((xs.take k).map kidQ)) ∧ Below w.heap.size w wr) (fun _ i _ => n - (intOf i).toNat)
  case atStart => exact ⟨0, none, 0, Nat.zero_le _, rfl, rfl, ownU_none _ _, Below.refl _ _⟩
  case round =>
    obtain ⟨k, ao, cc, hk, rfl, rfl, HO, hbr⟩ := hrel
    have hws := hbr.size
    by_cases hlt : k < n
    · obtain ⟨b, off, rfl, hlb, e0, e1, e2⟩ := H0.out.get k hlt
      obtain ⟨y, hy⟩ : ∃ y, y = xs.getD k (0, 0, 0) := ⟨_, rfl⟩
      rw [← hy] at e0 e1 e2
      have HUY : Hid (U64 y.2.1) := by show U64 _; rw [hy]; exact H0.out.rng k
      have HYW : Hid (y.1 ≤ 9223372036854775807 ∧ y.2.2 ≤ 9223372036854775807) := by show _ ∧ _; rw [hy]; exact HW.out k
      have HXK : Hid ((xs.take (k + 1)).map kidQ = (xs.take k).map kidQ ++ [kidQ y]) := by show _ = _; rw [hy]; exact map_take_snoc xs k (by rw [HLX.out]; exact hlt)
      have c0 := (hbr.cell (p := ⟨b, off + k * 3, none⟩) hlb).trans e0
      have c1 := (hbr.cell (p := ⟨b, off + k * 3 + 1, none⟩) hlb).trans e1
      have c2 := (hbr.cell (p := ⟨b, off + k * 3 + 2, none⟩) hlb).trans e2
      have hkni : (k : Int) < (n : Int) := by omega
      have hbw : b < wr.heap.size := by omega
      have hbz : Below wr.heap.size wr (wr.alloc (.cells #[.int .i64 y.1, .int .u64 y.2.1, .int .i64 y.2.2] 120)) := (Below.refl _ _).alloc (Nat.le_refl _) _
      clear hy e0 e1 e2
      go_wp2_with fail
      refine (implKeyId_any y.1 y.2.1 y.2.2 _ HUY.out HYW.out.1 HYW.out.2).mono ?_
      rintro e w2 ⟨rfl, hb2⟩
      have hb2r : Below wr.heap.size wr w2 := keepT hbz hb2
      have B2 : Below w.heap.size w w2 := hbr.trans (hb2r.mono hws)
      obtain ⟨kd, hkd⟩ : ∃ kd, kd = kidQ y := ⟨_, rfl⟩
      rw [show kidN y.1 y.2.1 y.2.2 = kd from hkd.symm]
      have HKU : Hid (U64 kd) := by show U64 _; rw [hkd]; exact kid_u64 y
      rw [← hkd] at HXK
      have hal : Below w2.heap.size w2 (w2.alloc (.cells #[.int .u64 kd] 26)) := (Below.refl _ _).alloc (Nat.le_refl _) _
      have hor := (HO.out.kept hb2r).kept hal
      have B6 : Below w.heap.size w (w2.alloc (.cells #[.int .u64 kd] 26)) := B2.trans (hal.mono B2.size)
      have hs6 := B6.size
      have hcl := cell_oneU w2 kd
      clear hkd HO c0 c1 c2 hb2 hb2r hbz hal
      go_wp2_with (at_builtin; refine wpList_append_own _ rfl (.tmp 14) (.tmp 18) 151 rfl w.heap.size 26 i0 _ 1 8 Tryz.underlying151 hi hz0 hz1 hz2 rfl (by decide) _ k _ rfl hor.row ⟨w2.heap.size, 0, none⟩ 1 1 ([kd].map (Value.int .u64)) rfl rfl hcl (ints_oneCell .u64 [kd]) (by unfold maxLen; omega) (by omega) (by exact hs6) ?_; intro v7 w7 hv7 hg7 _; rw [← List.map_append] at hv7; obtain ⟨a7, c7, rfl, ho7⟩ := ownU_appended (u64_snoc hor.rng HKU.out) hv7; have B7 : Below w.heap.size w w7 := B6.grown hg7 hs6 (fun kx hx => (hor.row.lt kx hx).1); have HO7 : Hid (OwnU w.heap.size w7 a7 (k + 1) c7 ((xs.take (k + 1)).map kidQ)) := (by show OwnU _ _ _ _ _ _; rw [HXK.out]; exact ho7); clear ho7 hv7 hg7 hor hcl)
      go_roundw
      case rel => exact ⟨k + 1, _, c7, by omega, by go_num, rfl, HO7, B7⟩
      case measure => simp [intOf]; omega
    · obtain rfl : k = n := by omega
      have HX : Hid (xs.take k = xs) := by show _ = _; rw [List.take_of_length_le (by rw [HLX.out]; exact Nat.le_refl _)]
      go_wp2
      go_ret
      refine ⟨ao, cc, rfl, ?_, hbr⟩
      have := HO.out
      rw [HX.out] at this
      exact this

theorem ownU_cap {B : Nat} {w : World} {a : Option Addr} {n c : Nat} {zs : List Int} (h : OwnU B w a n c zs) : n ≤ c ∧ c ≤ 9223372036854775807 := by
  rcases h.row.2 with ⟨hv, h0⟩ | ⟨g, cap, cur, hv, _, _, h1, h2, _⟩
  · simp only [Value.slice.injEq] at hv
    omega
  · simp only [Value.slice.injEq] at hv
    unfold maxLen at h2
    omega

set_option maxRecDepth 10000 in
set_option maxHeartbeats 4000000 in
theorem roleOk_any (x : RoP) (a : Option Addr) (n c : Nat) (w : World) (h : RowPu w a n x.ks) (hw : PuW x.ks) (hm : n ≤ 9223372036854775807) :
    Calls Tryz.prog 78 #[.agg #[.slice a n c, .int .i64 x.need]] w (SaysG (roleP x) w) := by
  obtain ⟨w1, hw1⟩ : ∃ w1, w1 = w.alloc (.cells #[.slice a n c, .int .i64 x.need] 113) := ⟨_, rfl⟩
  have hbb : Below w.heap.size w w1 := by rw [hw1]; exact (Below.refl _ _).alloc (Nat.le_refl _) _
  have HB : Hid (w1.heap[w.heap.size]? = some (.cells #[.slice a n c, .int .i64 x.need] 113 (0, 0))) := by show _ = _; rw [hw1]; exact heap_alloc_new w _
  have HR : Hid (∀ W, Below w.heap.size w W → RowPu W a n x.ks) := fun W hW => h.kept hW
  have HL : Hid (x.ks.length = n) := h.len
  have HPW : Hid (PuW x.ks) := hw
  have HW : Hid (_ = _) := hw1
  clear hw1 h hw
  have x0 : w1.cell? ⟨w.heap.size, 0, none⟩ = some (.slice a n c) := (cell_of_row _ _ 0 _ _ (0, 0) HB.out).trans rfl
  go_enter Tryz.func78, Tryz.ntmps78
  go_upto_region 1 with fail
  rw [← HW.out]
  clear HW
  go_wp2_with fail
  refine (inBd_any (n : Int) 1 6 _).mono ?_
  rintro e w2 ⟨rfl, hw2⟩
  have hw2 := hw2.symm
  subst hw2
  by_cases h1 : 1 ≤ (n : Int) ∧ (n : Int) ≤ 6
  case neg =>
    have HF : Hid (¬ roleP x) := fun hr => h1 (by have := hr.1; rw [HL.out] at this; omega)
    rw [decide_eq_false h1]
    go_wp2
    go_ret
    exact saysG_f HF.out hbb
  rw [decide_eq_true h1]
  go_wp2_with fail
  refine (everyPu_any a n c x.ks _ (HR.out _ hbb) hm).mono ?_
  rintro e w3 ⟨b3, rfl, HE, hb3⟩
  have k3 : Below w.heap.size w w3 := keepT hbb hb3
  cases b3 with
  | false =>
    have HF : Hid (¬ roleP x) := fun hr => by have := HE.out.2 (by have := hr.2.2.1; rw [HL.out] at this; exact this); cases this
    clear HE
    go_wp2
    go_ret
    exact saysG_f HF.out k3
  | true =>
  have HP : Hid (∀ k, k < n → pubP (x.ks.getD k (0, 0, 0)).1 (x.ks.getD k (0, 0, 0)).2.1 (x.ks.getD k (0, 0, 0)).2.2) := HE.out.1 rfl
  clear HE x0
  have x0 : w3.cell? ⟨w.heap.size, 0, none⟩ = some (.slice a n c) := (cell_of_row _ _ 0 _ _ (0, 0) (below_kept HB.out hb3)).trans rfl
  go_wp2_with fail
  refine (eachKid_any a n c x.ks _ (HR.out _ k3) HPW.out (by omega)).mono ?_
  rintro e w4 ⟨ao, co, rfl, ho, hb4⟩
  have kb4 := keepT hb3 hb4
  have k4 : Below w.heap.size w w4 := keepT hbb kb4
  have HO : Hid (OwnU w3.heap.size w4 ao n co (x.ks.map kidQ)) := ho
  have hcap := ownU_cap ho
  clear ho x0
  go_wp2_with fail
  refine (allUnlikeU_any ao n co (x.ks.map kidQ) _ HO.out.toRow hcap.1 hcap.2).mono ?_
  rintro e w5 ⟨rfl, hw5⟩
  have hw5 := hw5.symm
  subst hw5
  by_cases h2 : unl (x.ks.map kidQ)
  case neg =>
    have HF : Hid (¬ roleP x) := fun hr => h2 hr.2.2.2
    rw [decide_eq_false h2]
    clear h2
    go_wp2
    go_ret
    exact saysG_f HF.out k4
  rw [decide_eq_true h2]
  have HU : Hid (unl (x.ks.map kidQ)) := h2
  clear h2
  have x0 : w4.cell? ⟨w.heap.size, 0, none⟩ = some (.slice a n c) := (cell_of_row _ _ 0 _ _ (0, 0) (below_kept HB.out kb4)).trans rfl
  have x1 : w4.cell? ⟨w.heap.size, 1, none⟩ = some (.int .i64 x.need) := (cell_of_row _ _ 1 _ _ (0, 0) (below_kept HB.out kb4)).trans rfl
  go_wp2_with fail
  refine (inBd_any x.need 1 (n : Int) _).mono ?_
  rintro e w6 ⟨rfl, hw6⟩
  have hw6 := hw6.symm
  subst hw6
  obtain ⟨bb, hbq⟩ : ∃ bb, bb = decide (1 ≤ x.need ∧ x.need ≤ (n : Int)) := ⟨_, rfl⟩
  rw [← hbq]
  have HQ : Hid (bb = decide (1 ≤ x.need ∧ x.need ≤ (n : Int))) := hbq
  clear hbq
  go_wp2
  go_ret
  refine ⟨bb, rfl, ⟨fun e => ?_, fun hr => ?_⟩, k4⟩
  · have e2 := of_decide_eq_true (HQ.out.symm.trans e)
    exact ⟨by rw [HL.out]; omega, by rw [HL.out]; exact e2, by rw [HL.out]; exact HP.out, HU.out⟩
  · rw [HQ.out]
    exact decide_eq_true (by have := hr.2.1; rw [HL.out] at this; exact this)

set_option maxRecDepth 10000 in
set_option maxHeartbeats 2000000 in
theorem everyRo_any (a : Option Addr) (n c : Nat) (xs : List RoP) (w : World) (h : Ros KT w a n xs) (hn : n ≤ 9223372036854775807) :
    Calls Tryz.prog 77 #[.slice a n c, .func (Fn.func 78) #[] #[]] w (SaysG (∀ k, k < n → roleP (xs.getD k default)) w) := by
  have H0 : Hid (_) := h
  clear h
  go_enter Tryz.func77, Tryz.ntmps77
  go_wp2
  go_loopw [9] (fun i wr => ∃ k : Nat, k ≤ n ∧ i = .int .i64 k ∧ Hid (∀ j, j < k → roleP (xs.getD j default)) ∧ Below w.heap.size w wr) (fun i _ => n - (intOf i).toNat)
  case atStart => exact ⟨0, Nat.zero_le _, rfl, fun k hk => absurd hk (Nat.not_lt_zero _), Below.refl _ _⟩
  case round =>
    obtain ⟨k, hk, rfl, HE, hbr⟩ := hrel
    have hws := hbr.size
    by_cases hlt : k < n
    · obtain ⟨b, off, a1, n1, d1, rfl, hlb, hc, hp, hm, hu, _⟩ := H0.out.get k hlt
      obtain ⟨y, hy⟩ : ∃ y, y = xs.getD k default := ⟨_, rfl⟩
      rw [← hy] at hc hp hu
      have HY : Hid (y = xs.getD k default) := hy
      obtain ⟨c0, c1⟩ := hc.of (w' := wr) (fun i => hbr.cell (p := ⟨b, i, none⟩) hlb)
      have HLN : Hid (y.ks.length = n1) := hp.len
      have HPW : Hid (RowPu wr a1 n1 y.ks) := hp.kept hbr
      have HUW : Hid (PuW y.ks) := hu
      clear hc hy hp hu
      have hkni : (k : Int) < (n : Int) := by omega
      have hbw : b < wr.heap.size := by omega
      have hbz : Below wr.heap.size wr (wr.alloc (.cells #[.slice a1 n1 d1, .int .i64 y.need] 113)) := (Below.refl _ _).alloc (Nat.le_refl _) _
      go_wp2_with fail
      refine (roleOk_any y a1 n1 d1 _ (HPW.out.kept hbz) HUW.out hm).mono ?_
      rintro e w2 ⟨bb, rfl, hbi, hb2⟩
      have B2 : Below w.heap.size w w2 := hbr.trans ((keepT hbz hb2).mono hws)
      clear c0 c1
      cases bb with
      | true =>
        have HP : Hid (roleP y) := hbi.out.1 rfl
        clear hbi
        go_wp2
        go_roundw
        case rel => exact ⟨k + 1, by omega, by go_num, fun j hj => by
          by_cases e : j < k
          · exact HE.out j e
          · obtain rfl : j = k := by omega
            rw [← HY.out]; exact HP.out, B2⟩
        case measure => simp [intOf]; omega
      | false =>
        have HP : Hid (¬ roleP y) := fun h => by have := hbi.out.2 h; cases this
        clear hbi
        go_wp2
        go_ret
        exact saysG_f (fun e => HP.out (by rw [HY.out]; exact e k hlt)) B2
    · obtain rfl : k = n := by omega
      go_wp2
      go_ret
      exact saysG_t HE.out hbr

end Go.Proofs.YtglpbgebcpijaaaGreat
