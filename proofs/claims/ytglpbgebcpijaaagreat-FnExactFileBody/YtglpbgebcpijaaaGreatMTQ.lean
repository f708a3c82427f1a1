import Derived.Test.YtglpbgebcpijaaaGreatMTP
set_option linter.unusedVariables false
namespace Go.Proofs.YtglpbgebcpijaaaGreat
open Go.RowKit Go.Sort

set_option maxRecDepth 10000 in
set_option maxHeartbeats 2000000 in
theorem l22Sigs_any (a : Option Addr) (n c : Nat) (xs : List FsP) (w : World) (h : Fss KT w a n xs) :
    Calls Tryz.prog 54 #[.slice a n c] w (SaysG (sigsP xs n) w) := by
  have H0 : Hid (Fss KT w a n xs) := h
  have hn := h.max
  clear h
  go_enter Tryz.func54, Tryz.ntmps54
  go_wp2
  go_loopw [3] (fun i wr => ∃ k : Nat, k ≤ n ∧ i = .int .i64 k ∧ Hid (∀ j, j < k → sigP (xs.getD j default)) ∧ w = wr) (fun i _ => n - (intOf i).toNat)
  case atStart => exact ⟨0, Nat.zero_le _, rfl, fun j hj => absurd hj (Nat.not_lt_zero _), rfl⟩
  case round =>
    obtain ⟨k, hk, rfl, HE, rfl⟩ := hrel
    by_cases hlt : k < n
    · obtain ⟨b, off, a1, n1, d1, rfl, hlb, hc, hp, hm, hu, _⟩ := H0.out.get k hlt
      have c1 := hc.c1
      have HLN : Hid ((xs.getD k default).sg.length = n1) := hp.len
      have hkni : (k : Int) < (n : Int) := by omega
      clear hc hp hu
      by_cases h5 : n1 ≤ 500
      · have HP : Hid (sigP (xs.getD k default)) := by show _ ≤ _; rw [HLN.out]; exact h5
        have q5 : ¬ ((500 : Int) < (n1 : Int)) := by omega
        clear h5
        go_wp2
        go_roundw
        case rel => exact ⟨k + 1, by omega, by go_num, fun j hj => by
          by_cases e : j < k
          · exact HE.out j e
          · obtain rfl : j = k := by omega
            exact HP.out, by trivial⟩
        case measure => simp [intOf]; omega
      · have HP : Hid (¬ sigP (xs.getD k default)) := by show ¬ (_ ≤ _); rw [HLN.out]; exact h5
        have q5 : (500 : Int) < (n1 : Int) := by omega
        clear h5
        go_wp2
        go_ret
        exact saysG_f (fun e => HP.out (e.2 k hlt)) (Below.refl _ _)
    · obtain rfl : k = n := by omega
      by_cases h12 : k ≤ 12
      · have q : decide ((k : Int) ≤ 12) = true := decide_eq_true (by omega)
        go_wp2
        go_ret
        exact saysG_t ⟨h12, HE.out⟩ (Below.refl _ _)
      · have q : decide ((k : Int) ≤ 12) = false := decide_eq_false (by omega)
        go_wp2
        go_ret
        exact saysG_f (fun e => h12 e.1) (Below.refl _ _)

set_option maxRecDepth 10000 in
set_option maxHeartbeats 4000000 in
theorem l22StampOk_any (x : SfP) (a : Option Addr) (n c : Nat) (w : World) (hs : Fss KT w a n x.ss) :
    Calls Tryz.prog 24 #[.agg #[.int .i64 x.v, .int .i64 x.e, .int .i64 x.lv, .int .u64 x.lh, .slice a n c]] w (SaysG (stampP x) w) := by
  obtain ⟨w1, hw1⟩ : ∃ w1, w1 = w.alloc (.cells #[.int .i64 x.v, .int .i64 x.e, .int .i64 x.lv, .int .u64 x.lh, .slice a n c] 43) := ⟨_, rfl⟩
  have hbb : Below w.heap.size w w1 := by rw [hw1]; exact (Below.refl _ _).alloc (Nat.le_refl _) _
  have HB : Hid (w1.heap[w.heap.size]? = some (.cells #[.int .i64 x.v, .int .i64 x.e, .int .i64 x.lv, .int .u64 x.lh, .slice a n c] 43 (0, 0))) := by show _ = _; rw [hw1]; exact heap_alloc_new w _
  have HS : Hid (Fss KT w1 a n x.ss) := hs.kept hbb
  have HLS : Hid (x.ss.length = n) := hs.len
  have HW : Hid (_ = _) := hw1
  clear hw1 hs
  have x0 : w1.cell? ⟨w.heap.size, 0, none⟩ = some (.int .i64 x.v) := (cell_of_row _ _ 0 _ _ (0, 0) HB.out).trans rfl
  have x1 : w1.cell? ⟨w.heap.size, 1, none⟩ = some (.int .i64 x.e) := (cell_of_row _ _ 1 _ _ (0, 0) HB.out).trans rfl
  have x2 : w1.cell? ⟨w.heap.size, 2, none⟩ = some (.int .i64 x.lv) := (cell_of_row _ _ 2 _ _ (0, 0) HB.out).trans rfl
  have x4 : w1.cell? ⟨w.heap.size, 4, none⟩ = some (.slice a n c) := (cell_of_row _ _ 4 _ _ (0, 0) HB.out).trans rfl
  go_enter Tryz.func24, Tryz.ntmps24
  go_upto_region 1 with fail
  rw [← HW.out]
  clear HW
  go_wp2_with fail
  refine (l22Version_any x.v _).mono ?_
  rintro e1 w2 ⟨rfl, hw2⟩
  have hw2 := hw2.symm
  subst hw2
  by_cases h1 : verP x.v
  case neg =>
    have HF : Hid (¬ (stampP x)) := fun hr => h1 hr.1
    rw [decide_eq_false h1]
    clear h1
    go_wp2
    go_ret
    exact saysG_f HF.out hbb
  rw [decide_eq_true h1]
  have H1 : Hid (verP x.v) := h1
  clear h1
  go_wp2_with fail
  refine (l10Tim_any x.e _).mono ?_
  rintro e1 w2 ⟨rfl, hw2⟩
  have hw2 := hw2.symm
  subst hw2
  by_cases h1 : timP x.e
  case neg =>
    have HF : Hid (¬ (stampP x)) := fun hr => h1 hr.2.1
    rw [decide_eq_false h1]
    clear h1
    go_wp2
    go_ret
    exact saysG_f HF.out hbb
  rw [decide_eq_true h1]
  have H2 : Hid (timP x.e) := h1
  clear h1
  go_wp2_with fail
  refine (l22Version_any x.lv _).mono ?_
  rintro e1 w2 ⟨rfl, hw2⟩
  have hw2 := hw2.symm
  subst hw2
  by_cases h1 : verP x.lv
  case neg =>
    have HF : Hid (¬ (stampP x)) := fun hr => h1 hr.2.2.2
    rw [decide_eq_false h1]
    clear h1
    go_wp2
    go_ret
    exact saysG_f HF.out hbb
  rw [decide_eq_true h1]
  have H3 : Hid (verP x.lv) := h1
  clear h1
  go_wp2_with fail
  refine (l22Sigs_any a n c x.ss _ HS.out).mono ?_
  rintro e1 w3 ⟨b3, rfl, HE, hb3⟩
  have k3 : Below w.heap.size w w3 := keepT hbb hb3
  clear x0 x1 x2 x4
  go_wp2
  go_ret
  exact ⟨b3, rfl, ⟨fun e => ⟨H1.out, H2.out, by rw [HLS.out]; exact HE.out.1 e, H3.out⟩, fun hr => HE.out.2 (by have := hr.2.2.1; rw [HLS.out] at this; exact this)⟩, k3⟩

end Go.Proofs.YtglpbgebcpijaaaGreat

set_option linter.unusedVariables false
namespace Go.Proofs.YtglpbgebcpijaaaGreat
open Go.RowKit Go.Sort

theorem unl_take (zs : List Int) (k : Nat) (h : k < zs.length) (hu : unl zs) : zs.getD k 0 ∉ zs.take k := hu k h
theorem getD_map (xs : List (Int × Int × Int)) (k : Nat) (h : k < xs.length) : (xs.map kidQ).getD k 0 = kidQ (xs.getD k (0, 0, 0)) := by simp [h]

set_option maxRecDepth 10000 in
set_option maxHeartbeats 8000000 in
theorem l22RoleOk_any (x : RoP) (a : Option Addr) (n c : Nat) (w : World) (h : RowPu w a n x.ks) (hw : PuW x.ks) (hm : n ≤ 9223372036854775807) :
    Calls Tryz.prog 53 #[.agg #[.slice a n c, .int .i64 x.need]] w (SaysG (roleP x) w) := by
  obtain ⟨i0, hi, hz0, hz1, hz2⟩ := info_parts Tryz.infoU
  obtain ⟨w1, hw1⟩ : ∃ w1, w1 = w.alloc (.cells #[.slice a n c, .int .i64 x.need] 113) := ⟨_, rfl⟩
  have hbb : Below w.heap.size w w1 := by rw [hw1]; exact (Below.refl _ _).alloc (Nat.le_refl _) _
  have HB : Hid (w1.heap[w.heap.size]? = some (.cells #[.slice a n c, .int .i64 x.need] 113 (0, 0))) := by show _ = _; rw [hw1]; exact heap_alloc_new w _
  have H0 : Hid (RowPu w1 a n x.ks) := h.kept hbb
  have HL : Hid (x.ks.length = n) := h.len
  have HPW : Hid (PuW x.ks) := hw
  have HW : Hid (_ = _) := hw1
  clear hw1 h hw
  have x0 : w1.cell? ⟨w.heap.size, 0, none⟩ = some (.slice a n c) := (cell_of_row _ _ 0 _ _ (0, 0) HB.out).trans rfl
  have x1 : w1.cell? ⟨w.heap.size, 1, none⟩ = some (.int .i64 x.need) := (cell_of_row _ _ 1 _ _ (0, 0) HB.out).trans rfl
  go_enter Tryz.func53, Tryz.ntmps53
  go_upto_region 1 with fail
  rw [← HW.out]
  clear HW
  by_cases h1 : n < 1
  · have HF : Hid (¬ roleP x) := fun hr => by have := hr.1; rw [HL.out] at this; omega
    have q1 : (n : Int) < 1 := by omega
    go_wp2
    go_ret
    exact saysG_f HF.out hbb
  have q1 : ¬ ((n : Int) < 1) := by omega
  by_cases h6 : 6 < n
  · have HF : Hid (¬ roleP x) := fun hr => by have := hr.1; rw [HL.out] at this; omega
    have q6 : (6 : Int) < (n : Int) := by omega
    go_wp2
    go_ret
    exact saysG_f HF.out hbb
  have q6 : ¬ ((6 : Int) < (n : Int)) := by omega
  go_wp2_with fail
  refine (l1Bd_any x.need 1 (n : Int) _).mono ?_
  rintro e w2 ⟨rfl, hw2⟩
  have hw2 := hw2.symm
  subst hw2
  by_cases h2 : 1 ≤ x.need ∧ x.need ≤ (n : Int)
  case neg =>
    have HF : Hid (¬ roleP x) := fun hr => h2 (by have := hr.2.1; rw [HL.out] at this; exact this)
    rw [decide_eq_false h2]
    clear h2
    go_wp2
    go_ret
    exact saysG_f HF.out hbb
  rw [decide_eq_true h2]
  have H2 : Hid (1 ≤ x.need ∧ x.need ≤ (n : Int)) := h2
  clear h2 q1 q6
  have hbE : Below w1.heap.size w1 (w1.alloc (.cells #[] 26)) := (Below.refl _ _).alloc (Nat.le_refl _) _
  have HO0 : Hid (OwnU w1.heap.size (w1.alloc (.cells #[] 26)) (some ⟨w1.heap.size, 0, none⟩) 0 0 ((x.ks.take 0).map kidQ)) := ownU_empty w1
  go_wp2
  go_loopw [4, 5] (fun o i wr => ∃ (k : Nat) (ao : Option Addr) (cc : Nat), k ≤ n ∧ i = .int .i64 k ∧ o = .slice ao k cc ∧ Hid (OwnU w1.heap.size wr ao k cc ((x.ks.take k).map kidQ)) ∧ Hid (∀ j, j < k → pubP (x.ks.getD j (0, 0, 0)).1 (x.ks.getD j (0, 0, 0)).2.1 (x.ks.getD j (0, 0, 0)).2.2 ∧ kidQ (x.ks.getD j (0, 0, 0)) ∉ (x.ks.map kidQ).take j) ∧ Below w1.heap.size w1 wr) (fun _ i _ => n - (intOf i).toNat)
  case atStart => exact ⟨0, _, 0, Nat.zero_le _, rfl, rfl, HO0, fun j hj => absurd hj (Nat.not_lt_zero _), hbE⟩
  case round =>
    obtain ⟨k, ao, cc, hk, rfl, rfl, HO, HE, hbr⟩ := hrel
    have hws := hbr.size
    clear x0 x1
    have x0 : wr.cell? ⟨w.heap.size, 0, none⟩ = some (.slice a n c) := (cell_of_row _ _ 0 _ _ (0, 0) (below_kept HB.out hbr)).trans rfl
    by_cases hlt : k < n
    · obtain ⟨b, off, rfl, hlb, e0, e1, e2⟩ := H0.out.get k hlt
      obtain ⟨y, hy⟩ : ∃ y, y = x.ks.getD k (0, 0, 0) := ⟨_, rfl⟩
      rw [← hy] at e0 e1 e2
      have HY : Hid (y = x.ks.getD k (0, 0, 0)) := hy
      have HUY : Hid (U64 y.2.1) := by show U64 _; rw [hy]; exact H0.out.rng k
      have HYW : Hid (y.1 ≤ 9223372036854775807 ∧ y.2.2 ≤ 9223372036854775807) := by show _ ∧ _; rw [hy]; exact HPW.out k
      have HXK : Hid ((x.ks.take (k + 1)).map kidQ = (x.ks.take k).map kidQ ++ [kidQ y]) := by show _ = _; rw [hy]; exact map_take_snoc x.ks k (by rw [HL.out]; exact hlt)
      have c0 := (hbr.cell (p := ⟨b, off + k * 3, none⟩) hlb).trans e0
      have c1 := (hbr.cell (p := ⟨b, off + k * 3 + 1, none⟩) hlb).trans e1
      have c2 := (hbr.cell (p := ⟨b, off + k * 3 + 2, none⟩) hlb).trans e2
      have hkni : (k : Int) < (n : Int) := by omega
      have hbw : b < wr.heap.size := by omega
      clear hy
      go_wp2_with fail
      refine (specKeyId_any y.1 y.2.1 y.2.2 _ HUY.out HYW.out.1 HYW.out.2).mono ?_
      rintro e w2 ⟨rfl, hb2⟩
      obtain ⟨kd, hkd⟩ : ∃ kd, kd = kidQ y := ⟨_, rfl⟩
      rw [show kidN y.1 y.2.1 y.2.2 = kd from hkd.symm]
      have HKD : Hid (kd = kidQ y) := hkd
      have HKU : Hid (U64 kd) := by show U64 _; rw [hkd]; exact kid_u64 y
      rw [← hkd] at HXK
      have B2 : Below w1.heap.size w1 w2 := keepT hbr hb2
      clear hkd x0 c0 c1 c2
      have x0 : w2.cell? ⟨w.heap.size, 0, none⟩ = some (.slice (some ⟨b, off, none⟩) n c) := (cell_of_row _ _ 0 _ _ (0, 0) (below_kept HB.out B2)).trans rfl
      have c0 := (B2.cell (p := ⟨b, off + k * 3, none⟩) hlb).trans e0
      have c1 := (B2.cell (p := ⟨b, off + k * 3 + 1, none⟩) hlb).trans e1
      have c2 := (B2.cell (p := ⟨b, off + k * 3 + 2, none⟩) hlb).trans e2
      go_wp2_with fail
      refine (l8PubOk_any y.1 y.2.1 y.2.2 _ HUY.out).mono ?_
      rintro e w3 ⟨rfl, hb3⟩
      have B3 : Below w1.heap.size w1 w3 := keepT B2 hb3
      have k3 : Below w.heap.size w w3 := keepT hbb B3
      clear c0 c1 c2 x0
      by_cases hp : pubP y.1 y.2.1 y.2.2
      case neg =>
        have HF : Hid (¬ roleP x) := fun hr => hp (by have := hr.2.2.1 k (by rw [HL.out]; exact hlt); rw [← HY.out] at this; exact this)
        rw [decide_eq_false hp]
        clear hp
        go_wp2
        go_ret
        exact saysG_f HF.out k3
      rw [decide_eq_true hp]
      have HP : Hid (pubP y.1 y.2.1 y.2.2) := hp
      clear hp
      have HOW : Hid (OwnU w1.heap.size w3 ao k cc ((x.ks.take k).map kidQ)) := (HO.out.kept hb2).kept hb3
      go_wp2_with fail
      refine (l11Has_any ao k cc ((x.ks.take k).map kidQ) kd _ HOW.out.toRow (by omega)).mono ?_
      rintro e w4 ⟨rfl, hw4⟩
      have hw4 := hw4.symm
      subst hw4
      by_cases hin : kd ∈ (x.ks.take k).map kidQ
      · have HF : Hid (¬ roleP x) := fun hr => hr.2.2.2 k (by simp [HL.out]; exact hlt) (by rw [getD_map x.ks k (by rw [HL.out]; exact hlt), ← HY.out, ← HKD.out, ← List.map_take]; exact hin)
        rw [decide_eq_true hin]
        clear hin
        go_wp2
        go_ret
        exact saysG_f HF.out k3
      have HNI : Hid (kidQ (x.ks.getD k (0, 0, 0)) ∉ (x.ks.map kidQ).take k) := by show _ ∉ _; rw [← HY.out, ← HKD.out, ← List.map_take]; exact hin
      rw [decide_eq_false hin]
      clear hin
      have hal : Below w3.heap.size w3 (w3.alloc (.cells #[.int .u64 kd] 26)) := (Below.refl _ _).alloc (Nat.le_refl _) _
      have hor := HOW.out.kept hal
      have B6 : Below w1.heap.size w1 (w3.alloc (.cells #[.int .u64 kd] 26)) := keepT B3 hal
      have hs6 := B6.size
      have hcl := cell_oneU w3 kd
      clear HO HOW hb2 hb3 hal B2
      go_wp2_with (at_builtin; refine wpList_append_own _ rfl (.tmp 47) (.tmp 49) 151 rfl w1.heap.size 26 i0 _ 1 8 Tryz.underlying151 hi hz0 hz1 hz2 rfl (by decide) _ k _ rfl hor.row ⟨w3.heap.size, 0, none⟩ 1 1 ([kd].map (Value.int .u64)) rfl rfl hcl (ints_oneCell .u64 [kd]) (by unfold maxLen; omega) (by omega) (by exact hs6) ?_; intro v7 w7 hv7 hg7 _; rw [← List.map_append] at hv7; obtain ⟨a7, c7, rfl, ho7⟩ := ownU_appended (u64_snoc hor.rng HKU.out) hv7; have B7 : Below w1.heap.size w1 w7 := B6.grown hg7 hs6 (fun kx hx => (hor.row.lt kx hx).1); have HO7 : Hid (OwnU w1.heap.size w7 a7 (k + 1) c7 ((x.ks.take (k + 1)).map kidQ)) := (by show OwnU _ _ _ _ _ _; rw [HXK.out]; exact ho7); clear ho7 hv7 hg7 hor hcl)
      go_roundw
      case rel => exact ⟨k + 1, _, c7, by omega, by go_num, rfl, HO7, fun j hj => by
        by_cases e : j < k
        · exact HE.out j e
        · obtain rfl : j = k := by omega
          exact ⟨by rw [← HY.out]; exact HP.out, HNI.out⟩, B7⟩
      case measure => simp [intOf]; omega
    · obtain rfl : k = n := by omega
      have HT : Hid (roleP x) := ⟨by rw [HL.out]; omega, by rw [HL.out]; exact H2.out, fun j hj => (HE.out j (by rw [HL.out] at hj; exact hj)).1, fun j hj => by
        rw [List.length_map, HL.out] at hj
        rw [getD_map x.ks j (by rw [HL.out]; exact hj)]
        exact (HE.out j hj).2⟩
      have k4 : Below w.heap.size w wr := keepT hbb hbr
      go_wp2
      go_ret
      exact saysG_t HT.out k4

end Go.Proofs.YtglpbgebcpijaaaGreat

set_option linter.unusedVariables false
namespace Go.Proofs.YtglpbgebcpijaaaGreat
open Go.RowKit Go.Sort

theorem three_all {P : Nat → Prop} (h0 : P 0) (h1 : P 1) (h2 : P 2) : ∀ k, k < 3 → P k := fun k hk => by
  rcases (show k = 0 ∨ k = 1 ∨ k = 2 by omega) with rfl | rfl | rfl
  · exact h0
  · exact h1
  · exact h2
set_option maxRecDepth 10000 in
set_option maxHeartbeats 8000000 in
theorem l22RootOk_any (x : RfP) (a0 : Option Addr) (n0 c0 : Nat) (a1 : Option Addr) (n1 c1 : Nat) (w : World) (hr : Ros KT w a0 n0 x.rs) (hs : Fss KT w a1 n1 x.ss) :
    Calls Tryz.prog 22 #[.agg #[.int .i64 x.v, .int .i64 x.e, .slice a0 n0 c0, .slice a1 n1 c1]] w (SaysG (rootP x) w) := by
  obtain ⟨w1, hw1⟩ : ∃ w1, w1 = w.alloc (.cells #[.int .i64 x.v, .int .i64 x.e, .slice a0 n0 c0, .slice a1 n1 c1] 41) := ⟨_, rfl⟩
  have hbb : Below w.heap.size w w1 := by rw [hw1]; exact (Below.refl _ _).alloc (Nat.le_refl _) _
  have HB : Hid (w1.heap[w.heap.size]? = some (.cells #[.int .i64 x.v, .int .i64 x.e, .slice a0 n0 c0, .slice a1 n1 c1] 41 (0, 0))) := by show _ = _; rw [hw1]; exact heap_alloc_new w _
  have HS : Hid (∀ W, Below w.heap.size w W → Fss KT W a1 n1 x.ss) := fun W hW => hs.kept hW
  have HLS : Hid (x.ss.length = n1) := hs.len
  have HW : Hid (_ = _) := hw1
  clear hw1 hs
  have HR : Hid (∀ W, Below w.heap.size w W → Ros KT W a0 n0 x.rs) := fun W hW => hr.kept hW
  have HLR : Hid (x.rs.length = n0) := hr.len
  clear hr
  have x0 : w1.cell? ⟨w.heap.size, 0, none⟩ = some (.int .i64 x.v) := (cell_of_row _ _ 0 _ _ (0, 0) HB.out).trans rfl
  have x1 : w1.cell? ⟨w.heap.size, 1, none⟩ = some (.int .i64 x.e) := (cell_of_row _ _ 1 _ _ (0, 0) HB.out).trans rfl
  have x2 : w1.cell? ⟨w.heap.size, 2, none⟩ = some (.slice a0 n0 c0) := (cell_of_row _ _ 2 _ _ (0, 0) HB.out).trans rfl
  have x3 : w1.cell? ⟨w.heap.size, 3, none⟩ = some (.slice a1 n1 c1) := (cell_of_row _ _ 3 _ _ (0, 0) HB.out).trans rfl
  go_enter Tryz.func22, Tryz.ntmps22
  go_upto_region 1 with fail
  rw [← HW.out]
  clear HW
  go_wp2_with fail
  refine (l22Version_any x.v _).mono ?_
  rintro e1 w2 ⟨rfl, hw2⟩
  have hw2 := hw2.symm
  subst hw2
  by_cases h1 : verP x.v
  case neg =>
    have HF : Hid (¬ (rootP x)) := fun hr => h1 hr.1
    rw [decide_eq_false h1]
    clear h1
    go_wp2
    go_ret
    exact saysG_f HF.out hbb
  rw [decide_eq_true h1]
  have H1 : Hid (verP x.v) := h1
  clear h1
  go_wp2_with fail
  refine (l10Tim_any x.e _).mono ?_
  rintro e1 w2 ⟨rfl, hw2⟩
  have hw2 := hw2.symm
  subst hw2
  by_cases h1 : timP x.e
  case neg =>
    have HF : Hid (¬ (rootP x)) := fun hr => h1 hr.2.1
    rw [decide_eq_false h1]
    clear h1
    go_wp2
    go_ret
    exact saysG_f HF.out hbb
  rw [decide_eq_true h1]
  have H2 : Hid (timP x.e) := h1
  clear h1
  by_cases h3 : n0 = 3
  case neg =>
    have HF : Hid (¬ rootP x) := fun hr => h3 (by have := hr.2.2.2.1; rw [HLR.out] at this; exact this)
    have q3 : ((n0 : Int) == 3) = false := by simp; omega
    go_wp2
    go_ret
    exact saysG_f HF.out hbb
  subst h3
  obtain ⟨b, off, s0, m0, d0, hA, hlb, hc0, hp0, hm0, hu0, _⟩ := (HR.out _ hbb).get 0 (by decide)
  subst hA
  obtain ⟨b1, off1, s1, m1, d1, hA1, _, hc1, hp1, hm1, hu1, _⟩ := (HR.out _ hbb).get 1 (by decide)
  obtain ⟨b2, off2, s2, m2, d2, hA2, _, hc2, hp2, hm2, hu2, _⟩ := (HR.out _ hbb).get 2 (by decide)
  simp only [Option.some.injEq, Addr.mk.injEq, and_true] at hA1 hA2
  obtain ⟨rfl, rfl⟩ := hA1
  obtain ⟨rfl, rfl⟩ := hA2
  obtain ⟨y0, hy0⟩ : ∃ y, y = x.rs.getD 0 default := ⟨_, rfl⟩
  rw [← hy0] at hc0 hp0 hu0
  have HY0 : Hid (y0 = x.rs.getD 0 default) := hy0
  have HP0 : Hid (RowPu w1 s0 m0 y0.ks) := hp0
  have HU0 : Hid (PuW y0.ks) := hu0
  have HC0 : Hid (w1.cell? ⟨b, off, none⟩ = some (.slice s0 m0 d0) ∧ w1.cell? ⟨b, off + 1, none⟩ = some (.int .i64 y0.need)) := ⟨by simpa using hc0.c0, by simpa using hc0.c1⟩
  clear hy0 hc0 hp0 hu0
  obtain ⟨y1, hy1⟩ : ∃ y, y = x.rs.getD 1 default := ⟨_, rfl⟩
  rw [← hy1] at hc1 hp1 hu1
  have HY1 : Hid (y1 = x.rs.getD 1 default) := hy1
  have HP1 : Hid (RowPu w1 s1 m1 y1.ks) := hp1
  have HU1 : Hid (PuW y1.ks) := hu1
  have HC1 : Hid (w1.cell? ⟨b, off + 2, none⟩ = some (.slice s1 m1 d1) ∧ w1.cell? ⟨b, off + 3, none⟩ = some (.int .i64 y1.need)) := ⟨by simpa using hc1.c0, by simpa using hc1.c1⟩
  clear hy1 hc1 hp1 hu1
  obtain ⟨y2, hy2⟩ : ∃ y, y = x.rs.getD 2 default := ⟨_, rfl⟩
  rw [← hy2] at hc2 hp2 hu2
  have HY2 : Hid (y2 = x.rs.getD 2 default) := hy2
  have HP2 : Hid (RowPu w1 s2 m2 y2.ks) := hp2
  have HU2 : Hid (PuW y2.ks) := hu2
  have HC2 : Hid (w1.cell? ⟨b, off + 4, none⟩ = some (.slice s2 m2 d2) ∧ w1.cell? ⟨b, off + 5, none⟩ = some (.int .i64 y2.need)) := ⟨by simpa using hc2.c0, by simpa using hc2.c1⟩
  clear hy2 hc2 hp2 hu2
  clear HR
  have e0 := ((Below.refl w1.heap.size w1).cell (p := ⟨b, off, none⟩) hlb).trans HC0.out.1
  have e1 := ((Below.refl w1.heap.size w1).cell (p := ⟨b, off + 1, none⟩) hlb).trans HC0.out.2
  have hbw0 : b < w1.heap.size := Nat.lt_of_lt_of_le hlb (Below.refl w1.heap.size w1).size
  go_wp2_with fail
  refine (l22RoleOk_any y0 s0 m0 d0 _ (HP0.out.kept (Below.refl w1.heap.size w1)) HU0.out hm0).mono ?_
  rintro r1 v0 ⟨q0, rfl, HE, hv0⟩
  clear e0 e1 x0 x1 x2 x3
  have kb0 : Below w1.heap.size w1 v0 := hv0
  have kw0 : Below w.heap.size w v0 := keepT hbb kb0
  have x0 : v0.cell? ⟨w.heap.size, 0, none⟩ = some (.int .i64 x.v) := (cell_of_row _ _ 0 _ _ (0, 0) (below_kept HB.out kb0)).trans rfl
  have x1 : v0.cell? ⟨w.heap.size, 1, none⟩ = some (.int .i64 x.e) := (cell_of_row _ _ 1 _ _ (0, 0) (below_kept HB.out kb0)).trans rfl
  have x2 : v0.cell? ⟨w.heap.size, 2, none⟩ = some (.slice (some ⟨b, off, none⟩) 3 c0) := (cell_of_row _ _ 2 _ _ (0, 0) (below_kept HB.out kb0)).trans rfl
  have x3 : v0.cell? ⟨w.heap.size, 3, none⟩ = some (.slice a1 n1 c1) := (cell_of_row _ _ 3 _ _ (0, 0) (below_kept HB.out kb0)).trans rfl
  cases q0 with
  | false =>
    have HF : Hid (¬ rootP x) := fun hr => by have := HE.out.2 (by rw [HY0.out]; exact hr.2.2.2.2 0 (by decide)); cases this
    clear HE
    go_wp2
    go_ret
    exact saysG_f HF.out kw0
  | true =>
  have HG0 : Hid (roleP (x.rs.getD 0 default)) := by show roleP _; rw [← HY0.out]; exact HE.out.1 rfl
  clear HE
  have e0 := (kb0.cell (p := ⟨b, off + 2, none⟩) hlb).trans HC1.out.1
  have e1 := (kb0.cell (p := ⟨b, off + 3, none⟩) hlb).trans HC1.out.2
  have hbw1 : b < v0.heap.size := Nat.lt_of_lt_of_le hlb kb0.size
  go_wp2_with fail
  refine (l22RoleOk_any y1 s1 m1 d1 _ (HP1.out.kept kb0) HU1.out hm1).mono ?_
  rintro r1 v1 ⟨q1, rfl, HE, hv1⟩
  clear e0 e1 x0 x1 x2 x3
  have kb1 : Below w1.heap.size w1 v1 := keepT kb0 hv1
  have kw1 : Below w.heap.size w v1 := keepT hbb kb1
  have x0 : v1.cell? ⟨w.heap.size, 0, none⟩ = some (.int .i64 x.v) := (cell_of_row _ _ 0 _ _ (0, 0) (below_kept HB.out kb1)).trans rfl
  have x1 : v1.cell? ⟨w.heap.size, 1, none⟩ = some (.int .i64 x.e) := (cell_of_row _ _ 1 _ _ (0, 0) (below_kept HB.out kb1)).trans rfl
  have x2 : v1.cell? ⟨w.heap.size, 2, none⟩ = some (.slice (some ⟨b, off, none⟩) 3 c0) := (cell_of_row _ _ 2 _ _ (0, 0) (below_kept HB.out kb1)).trans rfl
  have x3 : v1.cell? ⟨w.heap.size, 3, none⟩ = some (.slice a1 n1 c1) := (cell_of_row _ _ 3 _ _ (0, 0) (below_kept HB.out kb1)).trans rfl
  cases q1 with
  | false =>
    have HF : Hid (¬ rootP x) := fun hr => by have := HE.out.2 (by rw [HY1.out]; exact hr.2.2.2.2 1 (by decide)); cases this
    clear HE
    go_wp2
    go_ret
    exact saysG_f HF.out kw1
  | true =>
  have HG1 : Hid (roleP (x.rs.getD 1 default)) := by show roleP _; rw [← HY1.out]; exact HE.out.1 rfl
  clear HE
  have e0 := (kb1.cell (p := ⟨b, off + 4, none⟩) hlb).trans HC2.out.1
  have e1 := (kb1.cell (p := ⟨b, off + 5, none⟩) hlb).trans HC2.out.2
  have hbw2 : b < v1.heap.size := Nat.lt_of_lt_of_le hlb kb1.size
  go_wp2_with fail
  refine (l22RoleOk_any y2 s2 m2 d2 _ (HP2.out.kept kb1) HU2.out hm2).mono ?_
  rintro r1 v2 ⟨q2, rfl, HE, hv2⟩
  clear e0 e1 x0 x1 x2 x3
  have kb2 : Below w1.heap.size w1 v2 := keepT kb1 hv2
  have kw2 : Below w.heap.size w v2 := keepT hbb kb2
  have x0 : v2.cell? ⟨w.heap.size, 0, none⟩ = some (.int .i64 x.v) := (cell_of_row _ _ 0 _ _ (0, 0) (below_kept HB.out kb2)).trans rfl
  have x1 : v2.cell? ⟨w.heap.size, 1, none⟩ = some (.int .i64 x.e) := (cell_of_row _ _ 1 _ _ (0, 0) (below_kept HB.out kb2)).trans rfl
  have x2 : v2.cell? ⟨w.heap.size, 2, none⟩ = some (.slice (some ⟨b, off, none⟩) 3 c0) := (cell_of_row _ _ 2 _ _ (0, 0) (below_kept HB.out kb2)).trans rfl
  have x3 : v2.cell? ⟨w.heap.size, 3, none⟩ = some (.slice a1 n1 c1) := (cell_of_row _ _ 3 _ _ (0, 0) (below_kept HB.out kb2)).trans rfl
  cases q2 with
  | false =>
    have HF : Hid (¬ rootP x) := fun hr => by have := HE.out.2 (by rw [HY2.out]; exact hr.2.2.2.2 2 (by decide)); cases this
    clear HE
    go_wp2
    go_ret
    exact saysG_f HF.out kw2
  | true =>
  have HG2 : Hid (roleP (x.rs.getD 2 default)) := by show roleP _; rw [← HY2.out]; exact HE.out.1 rfl
  clear HE
  go_wp2_with fail
  refine (l22Sigs_any a1 n1 c1 x.ss _ (HS.out _ kw2)).mono ?_
  rintro e1 w3 ⟨b3, rfl, HE, hb3⟩
  have k3 : Below w.heap.size w w3 := keepT hbb (keepT kb2 hb3)
  clear x0 x1 x2 x3
  go_wp2
  go_ret
  exact ⟨b3, rfl, ⟨fun e => ⟨H1.out, H2.out, by rw [HLS.out]; exact HE.out.1 e, HLR.out, three_all HG0.out HG1.out HG2.out⟩, fun hr => HE.out.2 (by have := hr.2.2.1; rw [HLS.out] at this; exact this)⟩, k3⟩

set_option maxRecDepth 10000 in
set_option maxHeartbeats 8000000 in
theorem l22ListOk_any (x : LfP) (a0 : Option Addr) (n0 c0 : Nat) (a1 : Option Addr) (n1 c1 : Nat) (w : World) (hr : RowTe w a0 n0 x.es) (hm0 : n0 ≤ 9223372036854775807) (hs : Fss KT w a1 n1 x.ss) :
    Calls Tryz.prog 26 #[.agg #[.int .i64 x.v, .int .i64 x.e, .slice a0 n0 c0, .slice a1 n1 c1]] w (SaysG (listP x) w) := by
  obtain ⟨w1, hw1⟩ : ∃ w1, w1 = w.alloc (.cells #[.int .i64 x.v, .int .i64 x.e, .slice a0 n0 c0, .slice a1 n1 c1] 46) := ⟨_, rfl⟩
  have hbb : Below w.heap.size w w1 := by rw [hw1]; exact (Below.refl _ _).alloc (Nat.le_refl _) _
  have HB : Hid (w1.heap[w.heap.size]? = some (.cells #[.int .i64 x.v, .int .i64 x.e, .slice a0 n0 c0, .slice a1 n1 c1] 46 (0, 0))) := by show _ = _; rw [hw1]; exact heap_alloc_new w _
  have HS : Hid (∀ W, Below w.heap.size w W → Fss KT W a1 n1 x.ss) := fun W hW => hs.kept hW
  have HLS : Hid (x.ss.length = n1) := hs.len
  have HW : Hid (_ = _) := hw1
  clear hw1 hs
  have HR : Hid (∀ W, Below w.heap.size w W → RowTe W a0 n0 x.es) := fun W hW => hr.kept hW
  have HLR : Hid (x.es.length = n0) := hr.len
  clear hr
  have x0 : w1.cell? ⟨w.heap.size, 0, none⟩ = some (.int .i64 x.v) := (cell_of_row _ _ 0 _ _ (0, 0) HB.out).trans rfl
  have x1 : w1.cell? ⟨w.heap.size, 1, none⟩ = some (.int .i64 x.e) := (cell_of_row _ _ 1 _ _ (0, 0) HB.out).trans rfl
  have x2 : w1.cell? ⟨w.heap.size, 2, none⟩ = some (.slice a0 n0 c0) := (cell_of_row _ _ 2 _ _ (0, 0) HB.out).trans rfl
  have x3 : w1.cell? ⟨w.heap.size, 3, none⟩ = some (.slice a1 n1 c1) := (cell_of_row _ _ 3 _ _ (0, 0) HB.out).trans rfl
  go_enter Tryz.func26, Tryz.ntmps26
  go_upto_region 1 with fail
  rw [← HW.out]
  clear HW
  go_wp2_with fail
  refine (l22Version_any x.v _).mono ?_
  rintro e1 w2 ⟨rfl, hw2⟩
  have hw2 := hw2.symm
  subst hw2
  by_cases h1 : verP x.v
  case neg =>
    have HF : Hid (¬ (listP x)) := fun hr => h1 hr.1
    rw [decide_eq_false h1]
    clear h1
    go_wp2
    go_ret
    exact saysG_f HF.out hbb
  rw [decide_eq_true h1]
  have H1 : Hid (verP x.v) := h1
  clear h1
  go_wp2_with fail
  refine (l10Tim_any x.e _).mono ?_
  rintro e1 w2 ⟨rfl, hw2⟩
  have hw2 := hw2.symm
  subst hw2
  by_cases h1 : timP x.e
  case neg =>
    have HF : Hid (¬ (listP x)) := fun hr => h1 hr.2.1
    rw [decide_eq_false h1]
    clear h1
    go_wp2
    go_ret
    exact saysG_f HF.out hbb
  rw [decide_eq_true h1]
  have H2 : Hid (timP x.e) := h1
  clear h1
  by_cases h20 : 20 < n0
  · have HF : Hid (¬ listP x) := fun hr => by have := hr.2.2.2.1; rw [HLR.out] at this; omega
    have q3 : (20 : Int) < (n0 : Int) := by omega
    go_wp2
    go_ret
    exact saysG_f HF.out hbb
  have q3 : ¬ ((20 : Int) < (n0 : Int)) := by omega
  go_wp2_with fail
  refine (l22Sigs_any a1 n1 c1 x.ss _ (HS.out _ hbb)).mono ?_
  rintro e1 w3 ⟨b3, rfl, HE, hb3⟩
  have k3 : Below w.heap.size w w3 := keepT hbb hb3
  clear x0 x1 x2 x3
  have x0 : w3.cell? ⟨w.heap.size, 0, none⟩ = some (.int .i64 x.v) := (cell_of_row _ _ 0 _ _ (0, 0) (below_kept HB.out hb3)).trans rfl
  have x1 : w3.cell? ⟨w.heap.size, 1, none⟩ = some (.int .i64 x.e) := (cell_of_row _ _ 1 _ _ (0, 0) (below_kept HB.out hb3)).trans rfl
  have x2 : w3.cell? ⟨w.heap.size, 2, none⟩ = some (.slice a0 n0 c0) := (cell_of_row _ _ 2 _ _ (0, 0) (below_kept HB.out hb3)).trans rfl
  have x3 : w3.cell? ⟨w.heap.size, 3, none⟩ = some (.slice a1 n1 c1) := (cell_of_row _ _ 3 _ _ (0, 0) (below_kept HB.out hb3)).trans rfl
  cases b3 with
  | false =>
    have HF : Hid (¬ listP x) := fun hr => by have := HE.out.2 (by have := hr.2.2.1; rw [HLS.out] at this; exact this); cases this
    clear HE
    go_wp2
    go_ret
    exact saysG_f HF.out k3
  | true =>
  have H3 : Hid (sigsP x.ss x.ss.length) := by show sigsP _ _; rw [HLS.out]; exact HE.out.1 rfl
  clear HE q3
  go_wp2
  go_loopw [3] (fun i wr => ∃ k : Nat, k ≤ n0 ∧ i = .int .i64 k ∧ Hid (∀ j, j < k → timP (x.es.getD j (0, 0)).2) ∧ w3 = wr) (fun i _ => n0 - (intOf i).toNat)
  case atStart => exact ⟨0, Nat.zero_le _, rfl, fun j hj => absurd hj (Nat.not_lt_zero _), rfl⟩
  case round =>
    obtain ⟨k, hk, rfl, HE, rfl⟩ := hrel
    by_cases hlt : k < n0
    · obtain ⟨b, off, rfl, hlb, e0, e1⟩ := (HR.out _ k3).get k hlt
      have hkni : (k : Int) < (n0 : Int) := by omega
      go_wp2_with fail
      refine (l10Tim_any (x.es.getD k (0, 0)).2 _).mono ?_
      rintro r1 w4 ⟨rfl, hw4⟩
      have hw4 := hw4.symm
      subst hw4
      by_cases ht : timP (x.es.getD k (0, 0)).2
      · have HP : Hid (timP (x.es.getD k (0, 0)).2) := ht
        rw [decide_eq_true ht]
        clear ht
        go_wp2
        go_roundw
        case rel => exact ⟨k + 1, by omega, by go_num, fun j hj => by
          by_cases e : j < k
          · exact HE.out j e
          · obtain rfl : j = k := by omega
            exact HP.out, by trivial⟩
        case measure => simp [intOf]; omega
      · have HF : Hid (¬ listP x) := fun hr => ht (hr.2.2.2.2 k (by rw [HLR.out]; exact hlt))
        rw [decide_eq_false ht]
        clear ht
        go_wp2
        go_ret
        exact saysG_f HF.out k3
    · obtain rfl : k = n0 := by omega
      have HT : Hid (listP x) := ⟨H1.out, H2.out, H3.out, by rw [HLR.out]; omega, by rw [HLR.out]; exact HE.out⟩
      go_wp2
      go_ret
      exact saysG_t HT.out k3

end Go.Proofs.YtglpbgebcpijaaaGreat

