import Derived.Test.YtdkgilkjcndonaaPL6
import Derived.Deep.DeepCutAuto
namespace Go.Proofs.Ytdkgilkjcndonaa
open Go.RowKit

theorem filter_next (P : Int → Bool) (l : List Int) (k : Nat) (h : k < l.length) : (l.take (k + 1)).filter P = (l.take k).filter P ++ (if P (l.getD k 0) then [l.getD k 0] else []) := by
  have e : l.getD k 0 = l[k] := by simp [h]
  rw [e, List.take_succ_eq_append_getElem h, List.filter_append]
  congr 1
  cases hp : P l[k] <;> simp [hp]
theorem ownL_empty (w : World) : OwnL w.heap.size (w.alloc (.cells #[] 2)) (some ⟨w.heap.size, 0, none⟩) 0 0 [] :=
  ⟨World.ownsRow_lit w #[] 0 (Nat.le_refl _) (by unfold maxLen; omega) rfl⟩

set_option maxRecDepth 20000 in
set_option maxHeartbeats 8000000 in
theorem l12Holds_any (ap : Option Addr) (np cp : Nat) (xs : List PC) (p : Int) (noMap noAny : Bool) (w : World) (h : Pcs w ap np xs) (hp : pathP xs) :
    Calls Try.prog 46 #[.slice ap np cp, .int .i64 p, .bool noMap, .bool noAny] w (SaysP (0 < chn xs (ctr0 noMap np) (ctr0 noAny np) np 0 p) w) := by
  obtain ⟨i0, ih, hz0, hz1, hz2⟩ := info_parts Try.info2P
  have H0 : Hid (Pcs w ap np xs) := h
  have HL : Hid (xs.length = np) := h.len
  have HP : Hid (pathP xs) := hp
  have hn8 : np ≤ 8 := by rw [← h.len]; exact hp.1.2
  have hn1 : 1 ≤ np := by rw [← h.len]; exact hp.1.1
  have bm := ctr0_bounds noMap np hn8
  have ba := ctr0_bounds noAny np hn8
  have HF1 : Hid (∀ W, Calls Try.prog 43 #[.bool noMap, .int .i64 np] W fun e w' => e = .returned (.int .i64 (ctr0 noMap np)) ∧ w' = W) := fun W => l12First_any noMap np W hn8
  have HF2 : Hid (∀ W, Calls Try.prog 43 #[.bool noAny, .int .i64 np] W fun e w' => e = .returned (.int .i64 (ctr0 noAny np)) ∧ w' = W) := fun W => l12First_any noAny np W hn8
  obtain ⟨m0, hm0⟩ : ∃ q, q = ctr0 noMap np := ⟨_, rfl⟩
  obtain ⟨a0, ha0⟩ : ∃ q, q = ctr0 noAny np := ⟨_, rfl⟩
  rw [← hm0] at bm HF1 ⊢
  rw [← ha0] at ba HF2 ⊢
  have HCM : Hid (∀ i, 0 ≤ ctr PC.nomap m0 xs i ∧ ctr PC.nomap m0 xs i ≤ 9) := fun i => ctr_bounds _ xs bm.1 bm.2 i
  have HCA : Hid (∀ i, 0 ≤ ctr PC.noany a0 xs i ∧ ctr PC.noany a0 xs i ≤ 9) := fun i => ctr_bounds _ xs ba.1 ba.2 i
  obtain ⟨V, hV⟩ : ∃ V : Prop, V = (0 < chn xs m0 a0 np 0 p) := ⟨_, rfl⟩
  rw [← hV]
  have HV : Hid (V = (0 < chn xs m0 a0 np 0 p)) := hV
  clear h hp bm ba hm0 ha0 hV
  go_enter Try.func46, Try.ntmps46
  go_wp2_with fail
  refine (HF1.out _).mono ?_
  rintro e w1 ⟨rfl, hw1⟩; have hw2 := hw1.symm; subst hw2
  go_wp2_with fail
  refine (HF2.out _).mono ?_
  rintro e w1 ⟨rfl, hw1⟩; have hw2 := hw1.symm; subst hw2
  clear HF1 HF2
  have HO0 : Hid (OwnL w.heap.size (w.alloc (.cells #[.int .i64 p] 2)) (some ⟨w.heap.size, 0, none⟩) 1 1 [p]) := ownL_one w p
  have HB0 : Hid (Below w.heap.size w (w.alloc (.cells #[.int .i64 p] 2))) := (Below.refl _ _).alloc (Nat.le_refl _) _
  go_wp2
  go_loopw [9, 10, 11, 12] (fun mm aa s i wr => ∃ (k ln cap : Nat) (ao : Option Addr) (L : List Int), k ≤ np ∧ mm = .int .i64 (ctr PC.nomap m0 xs k) ∧ aa = .int .i64 (ctr PC.noany a0 xs k) ∧ s = .slice ao ln cap ∧ i = .int .i64 k ∧ Hid (OwnL w.heap.size wr ao ln cap L) ∧ ln ≤ 6 ^ k ∧ Hid ((∃ q ∈ L, 0 < chn xs m0 a0 (np - k) k q) ↔ V) ∧ Hid (Below w.heap.size w wr)) (fun _ _ _ i _ => np - (intOf i).toNat)
  case atStart => exact ⟨0, 1, 1, _, [p], Nat.zero_le _, rfl, rfl, rfl, rfl, HO0, by decide, by
    show _ ↔ _
    rw [HV.out]
    simp, HB0⟩
  case round =>
    obtain ⟨k, ln, cap, ao, L, hk, rfl, rfl, rfl, rfl, HO, hln, HI, HB⟩ := hrel
    clear HO0 HB0
    by_cases hlt : k < np
    · obtain ⟨b, off, a1, n1, d1, a2, n2, d2, rfl, hlb, hc, hpc⟩ := (H0.out.kept HB.out).get k hlt
      obtain ⟨y, hy⟩ : ∃ y, y = xs.getD k default := ⟨_, rfl⟩
      rw [← hy] at hc hpc
      have HY : Hid (y = xs.getD k default) := hy
      obtain ⟨c0, c1, c2, c3, c4, c5⟩ := hc
      obtain ⟨mc, hmc⟩ : ∃ mc, mc = ctr PC.nomap m0 xs k := ⟨_, rfl⟩
      obtain ⟨ac, hac⟩ : ∃ ac, ac = ctr PC.noany a0 xs k := ⟨_, rfl⟩
      have bmc := HCM.out k
      have bac := HCA.out k
      rw [← hmc] at bmc ⊢
      rw [← hac] at bac ⊢
      have HMC : Hid (mc = ctr PC.nomap m0 xs k) := hmc
      have HAC : Hid (ac = ctr PC.noany a0 xs k) := hac
      have h6k : 6 ^ k ≤ 6 ^ 7 := Nat.pow_le_pow_right (by decide) (by omega)
      have hln2 : ln ≤ 279936 := Nat.le_trans hln h6k
      have hlti : (k : Int) < (np : Int) := by omega
      have hld : ((k : Int) == (np : Int) - 1) = decide (k + 1 = np) := by
        by_cases h : k + 1 = np
        · rw [decide_eq_true h]; exact beq_iff_eq.2 (by omega)
        · rw [decide_eq_false h]; exact beq_false_of_ne (by omega)
      obtain ⟨la, hla⟩ : ∃ la, la = decide (k + 1 = np) := ⟨_, rfl⟩
      rw [← hla] at hld
      have HLA : Hid (la = decide (k + 1 = np)) := hla
      obtain ⟨w5, hw5⟩ : ∃ w5, w5 = wr.alloc (.cells #[.slice a1 n1 d1, .slice a2 n2 d2, .bool y.self, .int .i64 y.need, .int .i64 y.nomap, .int .i64 y.noany] 41) := ⟨_, rfl⟩
      have hh5 : w5.heap[wr.heap.size]? = some (.cells #[.slice a1 n1 d1, .slice a2 n2 d2, .bool y.self, .int .i64 y.need, .int .i64 y.nomap, .int .i64 y.noany] 41 (0, 0)) := by rw [hw5]; exact heap_alloc_new _ _
      have HK5 : Hid (Below wr.heap.size wr w5) := by show Below _ _ _; rw [hw5]; exact (Below.refl _ _).alloc (Nat.le_refl _) _
      have HX : Hid (∀ W, Below w5.heap.size w5 W → (W.cell? ⟨wr.heap.size, 0, none⟩ = some (.slice a1 n1 d1) ∧ W.cell? ⟨wr.heap.size, 1, none⟩ = some (.slice a2 n2 d2) ∧ W.cell? ⟨wr.heap.size, 2, none⟩ = some (.bool y.self) ∧ W.cell? ⟨wr.heap.size, 4, none⟩ = some (.int .i64 y.nomap) ∧ W.cell? ⟨wr.heap.size, 5, none⟩ = some (.int .i64 y.noany)) ∧ wr.heap.size < W.heap.size) := fun W hW => by
        have l5 := (Array.getElem?_eq_some_iff.1 hh5).1
        have hh := (hW.block _ l5).trans hh5
        exact ⟨⟨(cell_of_row _ _ 0 _ 41 (0, 0) hh).trans rfl, (cell_of_row _ _ 1 _ 41 (0, 0) hh).trans rfl, (cell_of_row _ _ 2 _ 41 (0, 0) hh).trans rfl, (cell_of_row _ _ 4 _ 41 (0, 0) hh).trans rfl, (cell_of_row _ _ 5 _ 41 (0, 0) hh).trans rfl⟩, (Array.getElem?_eq_some_iff.1 hh).1⟩
      have HPC : Hid (PcAt w5 a1 n1 d1 a2 n2 y) := hpc.kept HK5.out
      have HW5 : Hid (_ = _) := hw5
      obtain ⟨al, hal⟩ : ∃ al, al = decide (0 ∈ y.pols ∧ allIn xs a0 k) := ⟨_, rfl⟩
      have HAL : Hid (al = true ↔ 0 ∈ y.pols ∧ allIn xs a0 k) := by show _ ↔ _; rw [hal]; simp
      have HALL : Hid (allIn xs a0 k ↔ 0 < ac ∨ (y.self = true ∧ la = false)) := by
        show _ ↔ _
        unfold allIn
        rw [← hac, ← hy, hla, HL.out]
        simp
      clear hy hmc hac hla hh5 hw5 hal hpc
      go_upto_region 8 with fail
      rw [← HW5.out]
      clear HW5 c0 c1 c2 c3 c4 c5
      go_upto_region 9 with fail
      obtain ⟨⟨x0, x1, x2, x4, x5⟩, lx⟩ := HX.out w5 (Below.refl _ _)
      go_cut [15] (fun c wx => c = .bool al ∧ w5 = wx)
      case first =>
        go_wp2_with fail
        refine (l1HasNum_any a1 n1 d1 y.pols 0 _ HPC.out.pol (Nat.le_trans HPC.out.le HPC.out.max)).mono ?_
        rintro e w1 ⟨rfl, hw1⟩; have hw2 := hw1.symm; subst hw2
        by_cases hz : 0 ∈ y.pols
        · rw [decide_eq_true hz]
          by_cases hpos : 0 < ac
          · have zb : al = true := HAL.out.2 ⟨hz, HALL.out.2 (.inl hpos)⟩
            have ZB : Hid (al = true) := zb
            clear hz zb
            go_wp2
            go_meet
            exact ⟨by rw [ZB.out], rfl⟩
          · obtain ⟨sf, hsf⟩ : ∃ sf, sf = y.self := ⟨_, rfl⟩
            rw [← hsf] at x2 HALL
            clear hsf
            cases sf with
            | false =>
              have zb : al = false := by
                cases hal : al with
                | false => rfl
                | true => rcases HALL.out.1 (HAL.out.1 hal).2 with h | h; exact absurd h hpos; exact absurd h.1 (by decide)
              have ZB : Hid (al = false) := zb
              have ZP : Hid (decide (0 < ac) = false) := decide_eq_false hpos
              clear hz zb
              go_wp2
              go_meet
              exact ⟨by rw [ZB.out, ZP.out], rfl⟩
            | true =>
              have zb : al = !la := by
                cases hal : al with
                | false =>
                  cases hla : la with
                  | true => rfl
                  | false => exact absurd (HAL.out.2 ⟨hz, HALL.out.2 (.inr ⟨rfl, hla⟩)⟩) (by rw [hal]; decide)
                | true => rcases HALL.out.1 (HAL.out.1 hal).2 with h | h; exact absurd h hpos; rw [h.2]; rfl
              have ZB : Hid (al = !la) := zb
              have ZP : Hid (decide (0 < ac) = false) := decide_eq_false hpos
              clear hz zb
              go_wp2
              go_meet
              exact ⟨by rw [ZB.out, ZP.out, Bool.false_or], rfl⟩
        · rw [decide_eq_false hz]
          have zb : al = false := by
            cases hal : al with
            | false => rfl
            | true => exact absurd (HAL.out.1 hal).1 hz
          have ZB : Hid (al = false) := zb
          clear hz zb
          go_wp2
          go_meet
          exact ⟨by rw [ZB.out], rfl⟩
      case rest =>
        obtain ⟨rfl, rfl⟩ := hcut
        obtain ⟨hA, hhA⟩ : ∃ hA : Int → Bool, hA = fun q => decide (hAt xs a0 k q) := ⟨_, rfl⟩
        have HHA : Hid (∀ q, hA q = true ↔ q ∈ y.pols ∨ al = true) := fun q => by
          rw [hhA, HAL.out]
          show decide (hAt xs a0 k q) = true ↔ _
          rw [decide_eq_true_iff]
          unfold hAt
          rw [← HY.out]
        have HHD : Hid (∀ q, hA q = true ↔ hAt xs a0 k q) := fun q => by rw [hhA]; exact decide_eq_true_iff
        clear hhA HALL HAL x0 x1 x2 x4 x5 lx
        have HR5 : Hid (Row64 w5 ao ln L) := (HO.out.kept HK5.out).toRow
        have HL5 : Hid (L.length = ln) := HO.out.len
        have HO6 : Hid (OwnL w5.heap.size (w5.alloc (.cells #[] 2)) (some ⟨w5.heap.size, 0, none⟩) 0 0 []) := ownL_empty w5
        have HB6 : Hid (Below w5.heap.size w5 (w5.alloc (.cells #[] 2))) := (Below.refl _ _).alloc (Nat.le_refl _) _
        have HB5 : Hid (Below w.heap.size w w5) := HB.out.trans (HK5.out.mono HB.out.size)
        clear HB HK5 HO
        go_wp2
        go_loopw [16, 17] (fun s j wr => ∃ (t hn hcap : Nat) (ah : Option Addr), t ≤ ln ∧ s = .slice ah hn hcap ∧ j = .int .i64 t ∧ hn ≤ t ∧ Hid (OwnL w5.heap.size wr ah hn hcap ((L.take t).filter hA)) ∧ Hid (Below w5.heap.size w5 wr)) (fun _ j _ => ln - (intOf j).toNat)
        case atStart => exact ⟨0, 0, 0, _, Nat.zero_le _, rfl, rfl, Nat.le_refl _, HO6, HB6⟩
        case round =>
          obtain ⟨t, hn, hcap, ah, ht, rfl, rfl, hnt, HOH, HBH⟩ := hrel
          clear HO6 HB6
          obtain ⟨⟨x0, x1, x2, x4, x5⟩, lx⟩ := HX.out _ HBH.out
          by_cases htl : t < ln
          · obtain ⟨bo, oo, rfl, hbo, hq⟩ := (HR5.out.kept HBH.out).get t htl
            obtain ⟨q, hqq⟩ : ∃ q, q = L.getD t 0 := ⟨_, rfl⟩
            rw [← hqq] at hq
            have HFN := filter_next hA L t (by rw [HL5.out]; exact htl)
            rw [← hqq] at HFN
            have htli : (t : Int) < (ln : Int) := by omega
            have HPR : Hid (Row64 wr a1 n1 y.pols) := HPC.out.pol.kept HBH.out
            have hsz := HBH.out.size
            clear hqq
            cases al with
            | true =>
              have HFT : Hid ((L.take (t + 1)).filter hA = (L.take t).filter hA ++ [q]) := by
                show _ = _
                rw [HFN, if_pos ((HHA.out q).2 (.inr rfl))]
              clear HFN
              go_wp2_with fail
              go_quiet (fail)
              obtain ⟨wq, hwq⟩ : ∃ wq, wq = wr.drewN nq := ⟨_, rfl⟩
              have hqq : wq.cell? ⟨bo, oo + t, none⟩ = some (.int .i64 q) := by rw [hwq]; exact ((below_drewNP (Below.refl wr.heap.size wr) nq).cell (p := ⟨bo, oo + t, none⟩) hbo).trans hq
              have hszq : w5.heap.size ≤ wq.heap.size := by rw [hwq]; exact (below_drewNP HBH.out nq).size
              have hboq : bo < wq.heap.size := by rw [hwq]; exact Nat.lt_of_lt_of_le hbo (below_drewNP (Below.refl wr.heap.size wr) nq).size
              have HOQ : Hid (OwnL w5.heap.size wq ah hn hcap ((L.take t).filter hA)) := by show OwnL _ _ _ _ _ _; rw [hwq]; exact HOH.out.kept (below_drewNP (Below.refl _ _) nq)
              have HBQ : Hid (Below w5.heap.size w5 wq) := by show Below _ _ _; rw [hwq]; exact below_drewNP HBH.out nq
              rw [← hwq]
              clear hwq
              go_wp2_with (at_builtin; refine wpList_append_own _ rfl _ _ 32 rfl w5.heap.size 2 i0 (.int .i64 0) 1 8 Try.underlying32 ih hz0 hz1 hz2 rfl (by decide) _ hn _ rfl ((HOQ.out.kept ((Below.refl _ _).alloc (Nat.le_refl _) _)).row) ⟨wq.heap.size, 0, none⟩ 1 1 ([q].map (Value.int .i64)) rfl rfl (cell_one64P _ _) (ints_oneCell .i64 [q]) (by unfold maxLen; omega) (by omega) (by simp; omega) ?_; intro v' w7 hown' hgrow' _; rw [← List.map_append, ← HFT.out] at hown'; obtain ⟨a7, c7, rfl, ho7⟩ := ownL_appended hown'; have hA7 : Below w5.heap.size wq w7 := (((Below.refl w5.heap.size wq).alloc hszq _).grown hgrow' (by simp; omega) (fun l hl => ((HOQ.out.kept ((Below.refl wq.heap.size wq).alloc (Nat.le_refl _) (.cells #[.int .i64 q] 2))).row.lt l hl).1)))
              have HO7 : Hid (OwnL w5.heap.size w7 a7 (hn + 1) c7 ((L.take (t + 1)).filter hA)) := ho7
              have HB7 : Hid (Below w5.heap.size w5 w7) := HBQ.out.trans hA7
              clear hown' hgrow' ho7 hA7
              go_roundw
              case rel => exact ⟨t + 1, hn + 1, c7, a7, by omega, rfl, by go_num, by omega, HO7, HB7⟩
              case measure => simp [intOf]; omega
            | false =>
              by_cases hqm : q ∈ y.pols
              · have HFT : Hid ((L.take (t + 1)).filter hA = (L.take t).filter hA ++ [q]) := by
                  show _ = _
                  rw [HFN, if_pos ((HHA.out q).2 (.inl hqm))]
                have HD2 : Hid (decide (q ∈ y.pols) = true) := decide_eq_true hqm
                clear HFN hqm
                go_wp2_with fail
                go_quiet (first
                  | (go_at_call 45; refine Calls.quiet_of_same (calls_boolP (l1HasNum_any a1 n1 d1 y.pols q _ (HPR.out.kept (below_drewNP (Below.refl _ _) _)) (Nat.le_trans HPC.out.le HPC.out.max)) HD2.out)))
                obtain ⟨wq, hwq⟩ : ∃ wq, wq = wr.drewN nq := ⟨_, rfl⟩
                have hqq : wq.cell? ⟨bo, oo + t, none⟩ = some (.int .i64 q) := by rw [hwq]; exact ((below_drewNP (Below.refl wr.heap.size wr) nq).cell (p := ⟨bo, oo + t, none⟩) hbo).trans hq
                have hszq : w5.heap.size ≤ wq.heap.size := by rw [hwq]; exact (below_drewNP HBH.out nq).size
                have hboq : bo < wq.heap.size := by rw [hwq]; exact Nat.lt_of_lt_of_le hbo (below_drewNP (Below.refl wr.heap.size wr) nq).size
                have HOQ : Hid (OwnL w5.heap.size wq ah hn hcap ((L.take t).filter hA)) := by show OwnL _ _ _ _ _ _; rw [hwq]; exact HOH.out.kept (below_drewNP (Below.refl _ _) nq)
                have HBQ : Hid (Below w5.heap.size w5 wq) := by show Below _ _ _; rw [hwq]; exact below_drewNP HBH.out nq
                rw [← hwq]
                clear hwq
                go_wp2_with (at_builtin; refine wpList_append_own _ rfl _ _ 32 rfl w5.heap.size 2 i0 (.int .i64 0) 1 8 Try.underlying32 ih hz0 hz1 hz2 rfl (by decide) _ hn _ rfl ((HOQ.out.kept ((Below.refl _ _).alloc (Nat.le_refl _) _)).row) ⟨wq.heap.size, 0, none⟩ 1 1 ([q].map (Value.int .i64)) rfl rfl (cell_one64P _ _) (ints_oneCell .i64 [q]) (by unfold maxLen; omega) (by omega) (by simp; omega) ?_; intro v' w7 hown' hgrow' _; rw [← List.map_append, ← HFT.out] at hown'; obtain ⟨a7, c7, rfl, ho7⟩ := ownL_appended hown'; have hA7 : Below w5.heap.size wq w7 := (((Below.refl w5.heap.size wq).alloc hszq _).grown hgrow' (by simp; omega) (fun l hl => ((HOQ.out.kept ((Below.refl wq.heap.size wq).alloc (Nat.le_refl _) (.cells #[.int .i64 q] 2))).row.lt l hl).1)))
                have HO7 : Hid (OwnL w5.heap.size w7 a7 (hn + 1) c7 ((L.take (t + 1)).filter hA)) := ho7
                have HB7 : Hid (Below w5.heap.size w5 w7) := HBQ.out.trans hA7
                clear hown' hgrow' ho7 hA7
                go_roundw
                case rel => exact ⟨t + 1, hn + 1, c7, a7, by omega, rfl, by go_num, by omega, HO7, HB7⟩
                case measure => simp [intOf]; omega
              · have HFT : Hid ((L.take (t + 1)).filter hA = (L.take t).filter hA) := by
                  show _ = _
                  rw [HFN, if_neg (fun h => by rcases (HHA.out q).1 h with h | h; exact hqm h; exact absurd h (by decide)), List.append_nil]
                have HD2 : Hid (decide (q ∈ y.pols) = false) := decide_eq_false hqm
                clear HFN hqm
                go_wp2_with fail
                go_quiet (first
                  | (go_at_call 45; refine Calls.quiet_of_same (calls_boolP (l1HasNum_any a1 n1 d1 y.pols q _ (HPR.out.kept (below_drewNP (Below.refl _ _) _)) (Nat.le_trans HPC.out.le HPC.out.max)) HD2.out)))
                obtain ⟨wq, hwq⟩ : ∃ wq, wq = wr.drewN nq := ⟨_, rfl⟩
                have HOQ : Hid (OwnL w5.heap.size wq ah hn hcap ((L.take (t + 1)).filter hA)) := by show OwnL _ _ _ _ _ _; rw [hwq, HFT.out]; exact HOH.out.kept (below_drewNP (Below.refl _ _) nq)
                have HBQ : Hid (Below w5.heap.size w5 wq) := by show Below _ _ _; rw [hwq]; exact below_drewNP HBH.out nq
                rw [← hwq]
                clear hwq
                go_wp2
                go_roundw
                case rel => exact ⟨t + 1, hn, hcap, ah, by omega, rfl, by go_num, by omega, HOQ, HBQ⟩
                case measure => simp [intOf]; omega
          · obtain rfl : t = ln := by omega
            have hge : ¬ ((t : Int) < (t : Int)) := by omega
            have HTK : Hid ((L.take t).filter hA = L.filter hA) := by show _ = _; rw [List.take_of_length_le (by rw [HL5.out]; exact Nat.le_refl _)]
            rw [HTK.out] at HOH
            have HHL : Hid ((L.filter hA).length = hn) := HOH.out.len
            cases la with
            | true =>
              have hkn : k + 1 = np := of_decide_eq_true HLA.out.symm
              have FIN : Hid (decide (0 < hn) = true ↔ V) := by
                show _ ↔ _
                rw [← HI.out, decide_eq_true_iff, show np - k = 1 by omega]
                constructor
                · intro hpos
                  have : (L.filter hA) ≠ [] := fun e => by rw [e] at HHL; have := HHL.out; simp at this; omega
                  obtain ⟨q, hq⟩ := List.exists_mem_of_ne_nil _ this
                  exact ⟨q, (List.mem_filter.1 hq).1, (chn_last _ _ _ _ _).2 ((HHD.out q).1 (List.mem_filter.1 hq).2)⟩
                · rintro ⟨q, hq, h0⟩
                  have : q ∈ L.filter hA := List.mem_filter.2 ⟨hq, (HHD.out q).2 ((chn_last _ _ _ _ _).1 h0)⟩
                  have := List.length_pos_of_mem this
                  rw [HHL.out] at this
                  omega
              have BF : Hid (Below w.heap.size w wr) := HB5.out.trans (HBH.out.mono HB5.out.size)
              clear hkn x0 x1 x2 x4 x5 lx
              go_wp2
              go_ret
              exact ⟨_, rfl, FIN, BF.out⟩
            | false =>
              have hkn : k + 1 ≠ np := of_decide_eq_false HLA.out.symm
              obtain ⟨W7, hW7⟩ : ∃ W7, W7 = wr := ⟨_, rfl⟩
              rw [← hW7] at HBH HOH x0 x1 x2 x4 x5 lx ⊢
              clear hW7
              obtain ⟨H, hH⟩ : ∃ H, H = L.filter hA := ⟨_, rfl⟩
              rw [← hH] at HOH HHL
              have HH : Hid (H = L.filter hA) := hH
              have HRH : Hid (Row64 W7 ah hn H) := HOH.out.toRow
              have HO8 : Hid (OwnL W7.heap.size (W7.alloc (.cells #[] 2)) (some ⟨W7.heap.size, 0, none⟩) 0 0 []) := ownL_empty W7
              have HB8 : Hid (Below W7.heap.size W7 (W7.alloc (.cells #[] 2))) := (Below.refl _ _).alloc (Nat.le_refl _) _
              obtain ⟨N, hN⟩ : ∃ N : Int → List Int, N = fun q => nx xs m0 k q := ⟨_, rfl⟩
              have HN : Hid (∀ q, N q = if tosOf y.maps q = [] then [q] else if 0 < mc then tosOf y.maps q else []) := fun q => by
                rw [hN]
                show nx xs m0 k q = _
                unfold nx
                rw [← HY.out, ← HMC.out]
              have HNN : Hid (∀ q, N q = nx xs m0 k q) := fun q => by rw [hN]
              have HM6 : Hid (y.maps.length ≤ 6) := by show _ ≤ _; rw [HY.out]; exact HP.out.maps k
              have HMN : Hid (y.maps.length = n2) := HPC.out.mp.len
              have hn26 : n2 ≤ 6 := by have := HM6.out; rw [HMN.out] at this; exact this
              clear hH hN HOH x0 x1 x2 x4 x5 lx
              go_wp2
              go_loopw [11, 18] (fun s j wr => ∃ (t' mn mcap : Nat) (am : Option Addr) (M : List Int), t' ≤ hn ∧ s = .slice am mn mcap ∧ j = .int .i64 t' ∧ mn ≤ 6 * t' ∧ Hid (OwnL W7.heap.size wr am mn mcap M) ∧ Hid (∀ x, x ∈ M ↔ ∃ q ∈ H.take t', x ∈ N q) ∧ Hid (Below W7.heap.size W7 wr)) (fun _ j _ => hn - (intOf j).toNat)
              case atStart => exact ⟨0, 0, 0, _, [], Nat.zero_le _, rfl, rfl, Nat.le_refl _, HO8, fun x => by simp, HB8⟩
              case round =>
                obtain ⟨t', mn, mcap, am, M, ht', rfl, rfl, hmn, HOM, HMM, HBM⟩ := hrel
                clear HO8 HB8
                have BW5 : Hid (Below w5.heap.size w5 wr) := HBH.out.trans (HBM.out.mono HBH.out.size)
                obtain ⟨⟨x0, x1, x2, x4, x5⟩, lx⟩ := HX.out _ BW5.out
                by_cases htl' : t' < hn
                · obtain ⟨bo, oo, rfl, hbo, hq⟩ := HRH.out.get t' htl'
                  obtain ⟨q, hqq⟩ : ∃ q, q = H.getD t' 0 := ⟨_, rfl⟩
                  rw [← hqq] at hq
                  have HQ : Hid (q = H.getD t' 0) := hqq
                  have htli : (t' : Int) < (hn : Int) := by omega
                  obtain ⟨W9, hW9⟩ : ∃ W9, W9 = wr := ⟨_, rfl⟩
                  rw [← hW9] at HOM HBM BW5 x0 x1 x2 x4 x5 lx ⊢
                  clear hqq hW9
                  go_wp2
                  go_loopw [11, 19, 20] (fun s b j wr => ∃ (u mn2 mcap2 : Nat) (am2 : Option Addr) (M2 : List Int) (mb : Bool), u ≤ n2 ∧ s = .slice am2 mn2 mcap2 ∧ b = .bool mb ∧ j = .int .i64 u ∧ mn2 ≤ mn + u ∧ Hid (mn2 ≤ mn + (tosOf (y.maps.take u) q).length) ∧ Hid (mb = true ↔ tosOf (y.maps.take u) q ≠ []) ∧ Hid (OwnL W7.heap.size wr am2 mn2 mcap2 M2) ∧ Hid (∀ x, x ∈ M2 ↔ x ∈ M ∨ (0 < mc ∧ x ∈ tosOf (y.maps.take u) q)) ∧ Hid (Below W7.heap.size W7 wr)) (fun _ _ j _ => n2 - (intOf j).toNat)
                  case atStart => exact ⟨0, mn, mcap, am, M, false, Nat.zero_le _, rfl, rfl, rfl, Nat.le_refl _, Nat.le_refl _, ⟨fun h => (by cases h), fun h => absurd rfl h⟩, HOM, fun x => ⟨.inl, fun h => h.elim id (fun h => absurd h.2 (by simp [tosOf]))⟩, HBM⟩
                  case round =>
                    obtain ⟨u, mn2, mcap2, am2, M2, mb, hu, rfl, rfl, rfl, hmn2, HTL, HMB, HO2, HM2, HB2⟩ := hrel
                    have BW6 : Hid (Below w5.heap.size w5 wr) := HBH.out.trans (HB2.out.mono HBH.out.size)
                    obtain ⟨⟨z0, z1, z2, z4, z5⟩, lz⟩ := HX.out _ BW6.out
                    have hqr : wr.cell? ⟨bo, oo + t', none⟩ = some (.int .i64 q) := (HB2.out.cell (p := ⟨bo, oo + t', none⟩) hbo).trans hq
                    have hbor : bo < wr.heap.size := Nat.lt_of_lt_of_le hbo HB2.out.size
                    clear x0 x1 x2 x4 x5 lx
                    by_cases hul : u < n2
                    · obtain ⟨b2, o2, rfl, hlb2, m1, m2⟩ := (HPC.out.mp.kept BW6.out).get u hul
                      obtain ⟨pm, hpm⟩ : ∃ pm, pm = y.maps.getD u (0, 0) := ⟨_, rfl⟩
                      rw [← hpm] at m1 m2
                      have HTN : Hid (tosOf (y.maps.take (u + 1)) q = tosOf (y.maps.take u) q ++ (if pm.1 = q then [pm.2] else [])) := by show _ = _; rw [hpm]; exact tos_next y.maps q u (by rw [HMN.out]; exact hul)
                      have huli : (u : Int) < (n2 : Int) := by omega
                      clear hpm
                      by_cases he : pm.1 = q
                      · have hbe : (pm.1 == q) = true := beq_iff_eq.2 he
                        rw [if_pos he] at HTN
                        have HMB2 : Hid (tosOf (y.maps.take (u + 1)) q ≠ []) := by show _ ≠ _; rw [HTN.out]; simp
                        have HTL2 : Hid (mn2 + 1 ≤ mn + (tosOf (y.maps.take (u + 1)) q).length) := by
                          show _ ≤ _
                          rw [HTN.out, List.length_append, List.length_singleton]
                          have := HTL.out
                          omega
                        clear HTL
                        clear he
                        by_cases hpos : 0 < mc
                        · have HMP : Hid (∀ x, x ∈ putL M2 pm.2 ↔ x ∈ M ∨ (0 < mc ∧ x ∈ tosOf (y.maps.take (u + 1)) q)) := fun x => by
                            rw [mem_putL, HM2.out, HTN.out, List.mem_append, List.mem_singleton]
                            constructor
                            · rintro ((h | h) | h)
                              · exact .inl h
                              · exact .inr ⟨h.1, .inl h.2⟩
                              · exact .inr ⟨hpos, .inr h⟩
                            · rintro (h | ⟨_, h | h⟩)
                              · exact .inl (.inl h)
                              · exact .inl (.inr ⟨hpos, h⟩)
                              · exact .inr h
                          have HPL : Hid ((putL M2 pm.2).length ≤ mn2 + 1) := by
                            show _ ≤ _
                            have := len_putL M2 pm.2
                            rw [HO2.out.len] at this
                            exact this
                          go_wp2_with fail
                          go_quiet (fail)
                          have hm2q : (wr.drewN nq).cell? ⟨b2, o2 + u * 2 + 1, none⟩ = some (.int .i64 pm.2) := ((below_drewNP (Below.refl wr.heap.size wr) nq).cell (p := ⟨b2, o2 + u * 2 + 1, none⟩) hlb2).trans m2
                          obtain ⟨⟨v0, hz1q, v2, v4, v5⟩, lq2⟩ := HX.out (wr.drewN nq) (below_drewNP BW6.out nq)
                          clear v0 v2 v4 v5
                          have hsq : wr.heap.size ≤ (wr.drewN nq).heap.size := (below_drewNP (Below.refl wr.heap.size wr) nq).size
                          have HOQ : Hid (OwnL W7.heap.size (wr.drewN nq) am2 mn2 mcap2 M2) := HO2.out.kept (below_drewNP (Below.refl _ _) nq)
                          have HBQ : Hid (Below W7.heap.size W7 (wr.drewN nq)) := below_drewNP HB2.out nq
                          obtain ⟨wq, hwq⟩ : ∃ wq, wq = wr.drewN nq := ⟨_, rfl⟩
                          rw [← hwq] at hm2q hz1q hsq lq2 HOQ HBQ ⊢
                          have lq1 : b2 < wq.heap.size := Nat.lt_of_lt_of_le hlb2 hsq
                          clear hwq m1 m2 z0 z1 z2 z4 z5 lz hqr hbor
                          go_wp2_with fail
                          refine (l12Put_any W7.heap.size am2 mn2 mcap2 M2 pm.2 _ HOQ.out (by omega) HBQ.out.size).mono ?_
                          rintro e w8 ⟨a8, n8, c8, rfl, ho8, hb8⟩
                          have hn8' : n8 ≤ mn2 + 1 := by rw [← ho8.len]; exact HPL.out
                          have HO8 : Hid (OwnL W7.heap.size w8 a8 n8 c8 (putL M2 pm.2)) := ho8
                          have HB8 : Hid (Below W7.heap.size W7 w8) := HBQ.out.trans hb8
                          clear ho8 hb8
                          go_wp2
                          go_roundw
                          case rel => exact ⟨u + 1, n8, c8, a8, putL M2 pm.2, true, by omega, rfl, rfl, by go_num, by omega, Nat.le_trans hn8' HTL2.out, ⟨fun _ => HMB2.out, fun _ => rfl⟩, HO8, HMP, HB8⟩
                          case measure => simp [intOf]; omega
                        · have HMP : Hid (∀ x, x ∈ M2 ↔ x ∈ M ∨ (0 < mc ∧ x ∈ tosOf (y.maps.take (u + 1)) q)) := fun x => by
                            rw [HM2.out]
                            exact ⟨fun h => h.elim .inl (fun h => absurd h.1 hpos), fun h => h.elim .inl (fun h => absurd h.1 hpos)⟩
                          go_wp2_with fail
                          go_quiet (fail)
                          have HOQ : Hid (OwnL W7.heap.size (wr.drewN nq) am2 mn2 mcap2 M2) := HO2.out.kept (below_drewNP (Below.refl _ _) nq)
                          have HBQ : Hid (Below W7.heap.size W7 (wr.drewN nq)) := below_drewNP HB2.out nq
                          clear m1 m2 z0 z1 z2 z4 z5 lz hqr hbor
                          go_wp2
                          go_roundw
                          case rel => exact ⟨u + 1, mn2, mcap2, am2, M2, true, by omega, rfl, rfl, by go_num, by omega, Nat.le_trans (Nat.le_succ _) HTL2.out, ⟨fun _ => HMB2.out, fun _ => rfl⟩, HOQ, HMP, HBQ⟩
                          case measure => simp [intOf]; omega
                      · have hbe : (pm.1 == q) = false := beq_false_of_ne he
                        rw [if_neg he, List.append_nil] at HTN
                        clear he
                        go_wp2_with fail
                        go_quiet (fail)
                        have HOQ : Hid (OwnL W7.heap.size (wr.drewN nq) am2 mn2 mcap2 M2) := HO2.out.kept (below_drewNP (Below.refl _ _) nq)
                        have HBQ : Hid (Below W7.heap.size W7 (wr.drewN nq)) := below_drewNP HB2.out nq
                        rw [← HTN.out] at HMB HM2 HTL
                        clear m1 m2 z0 z1 z2 z4 z5 lz hqr hbor
                        go_wp2
                        go_roundw
                        case rel => exact ⟨u + 1, mn2, mcap2, am2, M2, mb, by omega, rfl, rfl, by go_num, by omega, HTL, HMB, HOQ, HM2, HBQ⟩
                        case measure => simp [intOf]; omega
                    · obtain rfl : u = n2 := by omega
                      have hge2 : ¬ ((u : Int) < (u : Int)) := by omega
                      have HTA : Hid (tosOf (y.maps.take u) q = tosOf y.maps q) := tos_all y.maps q u (by rw [HMN.out]; exact Nat.le_refl _)
                      rw [HTA.out] at HMB HM2 HTL
                      have HTK : Hid (H.take (t' + 1) = H.take t' ++ [q]) := by
                        show _ = _
                        rw [List.take_succ_eq_append_getElem (by rw [HHL.out]; exact htl'), HQ.out]
                        congr 2
                        simp [show t' < H.length by rw [HHL.out]; exact htl']
                      cases mb with
                      | true =>
                        have HTE : Hid (tosOf y.maps q ≠ []) := HMB.out.1 rfl
                        have HMP : Hid (∀ x, x ∈ M2 ↔ ∃ q ∈ H.take (t' + 1), x ∈ N q) := fun x => by
                          rw [HM2.out, HMM.out, HTK.out]
                          have e : x ∈ N q ↔ 0 < mc ∧ x ∈ tosOf y.maps q := by
                            rw [HN.out, if_neg HTE.out]
                            split
                            · rename_i h; exact ⟨fun e => ⟨h, e⟩, fun e => e.2⟩
                            · rename_i h; exact ⟨fun e => absurd e List.not_mem_nil, fun e => absurd e.1 h⟩
                          rw [← e]
                          constructor
                          · rintro (⟨r, h1, h2⟩ | h)
                            · exact ⟨r, List.mem_append.2 (.inl h1), h2⟩
                            · exact ⟨q, List.mem_append.2 (.inr (by simp)), h⟩
                          · rintro ⟨r, h1, h2⟩
                            rcases List.mem_append.1 h1 with h1 | h1
                            · exact .inl ⟨r, h1, h2⟩
                            · simp at h1; subst h1; exact .inr h2
                        clear HMB z0 z2 z4 z5
                        go_wp2
                        go_roundw
                        case rel => exact ⟨t' + 1, mn2, mcap2, am2, M2, by omega, rfl, by go_num, by omega, HO2, HMP, HB2⟩
                        case measure => simp [intOf]; omega
                      | false =>
                        have hte : tosOf y.maps q = [] := Classical.not_not.1 (fun h => absurd (HMB.out.2 h) (by decide))
                        have HTE : Hid (tosOf y.maps q = []) := hte
                        have HMP : Hid (∀ x, x ∈ putL M2 q ↔ ∃ q ∈ H.take (t' + 1), x ∈ N q) := fun x => by
                          rw [mem_putL, HM2.out, HMM.out, HTK.out]
                          have e : x ∈ N q ↔ x = q := by
                            rw [HN.out, if_pos HTE.out]
                            simp
                          rw [HTE.out, ← e]
                          constructor
                          · rintro ((⟨r, h1, h2⟩ | h) | h)
                            · exact ⟨r, List.mem_append.2 (.inl h1), h2⟩
                            · exact absurd h.2 List.not_mem_nil
                            · exact ⟨q, List.mem_append.2 (.inr (by simp)), h⟩
                          · rintro ⟨r, h1, h2⟩
                            rcases List.mem_append.1 h1 with h1 | h1
                            · exact .inl (.inl ⟨r, h1, h2⟩)
                            · simp at h1; subst h1; exact .inr h2
                        have HPL : Hid ((putL M2 q).length ≤ mn + 1) := by
                          show _ ≤ _
                          have h1 := HTL.out
                          have h2 := len_putL M2 q
                          rw [HTE.out, List.length_nil] at h1
                          rw [HO2.out.len] at h2
                          omega
                        clear HMB hte z0 z2 z4 z5
                        go_wp2_with fail
                        refine (l12Put_any W7.heap.size am2 mn2 mcap2 M2 q _ HO2.out (by omega) HB2.out.size).mono ?_
                        rintro e w8 ⟨a8, n8, c8, rfl, ho8, hb8⟩
                        have hn8' : n8 ≤ mn + 1 := by rw [← ho8.len]; exact HPL.out
                        have HO8 : Hid (OwnL W7.heap.size w8 a8 n8 c8 (putL M2 q)) := ho8
                        have HB8 : Hid (Below W7.heap.size W7 w8) := HB2.out.trans hb8
                        clear ho8 hb8
                        go_wp2
                        go_roundw
                        case rel => exact ⟨t' + 1, n8, c8, a8, putL M2 q, by omega, rfl, by go_num, by omega, HO8, HMP, HB8⟩
                        case measure => simp [intOf]; omega
                · obtain rfl : t' = hn := by omega
                  have hge3 : ¬ ((t' : Int) < (t' : Int)) := by omega
                  have HST : Hid ((∃ q ∈ M, 0 < chn xs m0 a0 (np - (k + 1)) (k + 1) q) ↔ V) := by
                    show _ ↔ _
                    rw [← HI.out, show np - k = (np - (k + 1)) + 1 by omega]
                    refine (means_step xs m0 a0 (np - (k + 1)) k (by omega) L M (fun x => ?_)).symm
                    rw [HMM.out, List.take_of_length_le (by rw [HHL.out]; exact Nat.le_refl _), HH.out]
                    constructor
                    · rintro ⟨q, h1, h2⟩
                      exact ⟨q, (List.mem_filter.1 h1).1, (HHD.out q).1 (List.mem_filter.1 h1).2, by rw [← HNN.out]; exact h2⟩
                    · rintro ⟨q, h1, h2, h3⟩
                      exact ⟨q, List.mem_filter.2 ⟨h1, (HHD.out q).2 h2⟩, by rw [HNN.out]; exact h3⟩
                  have hmn6 : mn ≤ 6 ^ (k + 1) := by rw [Nat.pow_succ]; omega
                  have HOF : Hid (OwnL w.heap.size wr am mn mcap M) := ownL_mono HOM.out (Nat.le_trans HB5.out.size HBH.out.size)
                  have HBF : Hid (Below w.heap.size w wr) := HB5.out.trans (BW5.out.mono HB5.out.size)
                  have HX1 : Hid (ctr PC.nomap m0 xs (k + 1) = nxt mc y.self y.nomap) := by show _ = _; rw [HMC.out, HY.out]; rfl
                  have HX2 : Hid (ctr PC.noany a0 xs (k + 1) = nxt ac y.self y.noany) := by show _ = _; rw [HAC.out, HY.out]; rfl
                  go_wp2_with fail
                  refine (l12Next_any mc y.self y.nomap _ bmc.1 bmc.2).mono ?_
                  rintro e w1 ⟨rfl, hw1⟩; have hw2 := hw1.symm; subst hw2
                  go_wp2_with fail
                  refine (l12Next_any ac y.self y.noany _ bac.1 bac.2).mono ?_
                  rintro e w1 ⟨rfl, hw1⟩; have hw2 := hw1.symm; subst hw2
                  rw [← HX1.out, ← HX2.out]
                  clear x0 x1 x2 x4 x5 lx
                  go_wp2
                  go_roundw
                  case rel => exact ⟨k + 1, mn, mcap, am, M, by omega, rfl, rfl, rfl, by go_num, HOF, hmn6, HST, HBF⟩
                  case measure => simp [intOf]; omega
    · obtain rfl : k = np := by omega
      have hge : ¬ ((k : Int) < (k : Int)) := by omega
      have HNV : Hid (¬ V) := by
        show ¬ V
        rw [← HI.out, Nat.sub_self]
        rintro ⟨q, _, h0⟩
        exact absurd h0 (by show ¬ (0 : Int) < 0; decide)
      go_wp2
      go_ret
      exact saysP_f HNV.out HB.out

end Go.Proofs.Ytdkgilkjcndonaa
