import Derived.Test.YtdkgilkjcndonaaPK1
import Derived.Deep.DeepCutAuto
namespace Go.Proofs.Ytdkgilkjcndonaa
open Go.RowKit

/-- What is asked of chain, m certificates from the end. -/
def ChP (ap : Option Addr) (np cp : Nat) (xs : List PC) (noMap noAny : Bool) (m i : Nat) : Prop :=
  ∀ (q : Int) (w : World), Pcs w ap np xs → Calls Try.prog 11 #[.slice ap np cp, .int .i64 i, .int .i64 q, .bool noMap, .bool noAny] w (SaysP (0 < chn xs (ctr0 noMap np) (ctr0 noAny np) m i q) w)

theorem getD_mem' (ms : List (Int × Int)) (k : Nat) (h : k < ms.length) : ms.getD k (0, 0) ∈ ms := by
  have e : ms.getD k (0, 0) = ms[k] := by simp [h]
  rw [e]; exact List.getElem_mem h
theorem mem_tos (ms : List (Int × Int)) (q r : Int) : r ∈ tosOf ms q ↔ ∃ p ∈ ms, p.1 = q ∧ p.2 = r := by
  unfold tosOf
  constructor
  · intro h
    obtain ⟨p, hp, rfl⟩ := List.mem_map.1 h
    have := List.mem_filter.1 hp
    exact ⟨p, this.1, by simpa using this.2, rfl⟩
  · rintro ⟨p, h1, h2, rfl⟩
    exact List.mem_map.2 ⟨p, List.mem_filter.2 ⟨h1, by simpa using h2⟩, rfl⟩

set_option maxRecDepth 10000 in
set_option maxHeartbeats 4000000 in
theorem chain_of (ap : Option Addr) (np cp : Nat) (xs : List PC) (noMap noAny : Bool) (m i : Nat) (hp : pathP xs) (hl : xs.length = np) (hm : i + (m + 1) = np) (hC : m ≠ 0 → ChP ap np cp xs noMap noAny m (i + 1)) : ChP ap np cp xs noMap noAny (m + 1) i := by
  intro q w hW
  have hn8 : np ≤ 8 := by rw [← hl]; exact hp.1.2
  have hil : i < np := by omega
  have H0 : Hid (Pcs w ap np xs) := hW
  have HAM : Hid (∀ W, Below w.heap.size w W → Calls Try.prog 35 #[.slice ap np cp, .int .i64 i, .bool true, .bool noMap] W fun e w' => e = .returned (.int .i64 (ctr PC.nomap (ctr0 noMap np) xs i)) ∧ w' = W) := fun W h => ahead_true ap np cp xs noMap i W (hW.kept h) hp (by omega)
  have HAA : Hid (∀ W, Below w.heap.size w W → Calls Try.prog 35 #[.slice ap np cp, .int .i64 i, .bool false, .bool noAny] W fun e w' => e = .returned (.int .i64 (ctr PC.noany (ctr0 noAny np) xs i)) ∧ w' = W) := fun W h => ahead_false ap np cp xs noAny i W (hW.kept h) hp (by omega)
  obtain ⟨m0, hm0⟩ : ∃ q, q = ctr0 noMap np := ⟨_, rfl⟩
  obtain ⟨a0, ha0⟩ : ∃ q, q = ctr0 noAny np := ⟨_, rfl⟩
  have HC : Hid (∀ (q : Int) (W : World), m ≠ 0 → Below w.heap.size w W → Calls Try.prog 11 #[.slice ap np cp, .int .i64 ((i : Int) + 1), .int .i64 q, .bool noMap, .bool noAny] W (SaysP (0 < chn xs m0 a0 m (i + 1) q) W)) := fun q W h0 h1 => by rw [hm0, ha0]; exact hC h0 q W (hW.kept h1)
  rw [← hm0] at HAM ⊢
  rw [← ha0] at HAA ⊢
  obtain ⟨V, hV⟩ : ∃ V : Prop, V = (0 < chn xs m0 a0 (m + 1) i q) := ⟨_, rfl⟩
  rw [← hV]
  have HV : Hid (V = (0 < chn xs m0 a0 (m + 1) i q)) := hV
  have HMAP : Hid ((xs.getD i default).maps.length ≤ 6) := hp.maps i
  obtain ⟨b, off, a1, n1, d1, a2, n2, d2, rfl, hlb, hc, hpc⟩ := hW.get i hil
  obtain ⟨y, hy⟩ : ∃ y, y = xs.getD i default := ⟨_, rfl⟩
  rw [← hy] at hc hpc HMAP
  obtain ⟨c0, c1, c2, c3, c4, c5⟩ := hc
  obtain ⟨mc, hmc⟩ : ∃ mc, mc = ctr PC.nomap m0 xs i := ⟨_, rfl⟩
  obtain ⟨ac, hac⟩ : ∃ ac, ac = ctr PC.noany a0 xs i := ⟨_, rfl⟩
  rw [← hmc] at HAM
  rw [← hac] at HAA
  have hld : ((i : Int) == (np : Int) - 1) = decide (i + 1 = np) := by
    by_cases h : i + 1 = np
    · rw [decide_eq_true h]; exact beq_iff_eq.2 (by omega)
    · rw [decide_eq_false h]; exact beq_false_of_ne (by omega)
  obtain ⟨la, hla⟩ : ∃ la, la = decide (i + 1 = np) := ⟨_, rfl⟩
  rw [← hla] at hld
  have HLA : Hid (la = decide (i + 1 = np)) := hla
  have HALL : Hid (allIn xs a0 i ↔ 0 < ac ∨ (y.self = true ∧ la = false)) := by
    show _ ↔ _
    unfold allIn
    rw [← hac, ← hy, hla, hl]
    simp
  obtain ⟨al, hal⟩ : ∃ al, al = decide (0 ∈ y.pols ∧ allIn xs a0 i) := ⟨_, rfl⟩
  have HAL : Hid (al = true ↔ 0 ∈ y.pols ∧ allIn xs a0 i) := by show _ ↔ _; rw [hal]; simp
  have HHA : Hid (hAt xs a0 i q ↔ q ∈ y.pols ∨ al = true) := by
    show _ ↔ _
    rw [HAL.out]
    unfold hAt
    rw [← hy]
  have HNX : Hid (nx xs m0 i q = if tosOf y.maps q = [] then [q] else if 0 < mc then tosOf y.maps q else []) := by show _ = _; rw [hmc, hy]; rfl
  obtain ⟨w5, hw5⟩ : ∃ w5, w5 = w.alloc (.cells #[.slice a1 n1 d1, .slice a2 n2 d2, .bool y.self, .int .i64 y.need, .int .i64 y.nomap, .int .i64 y.noany] 41) := ⟨_, rfl⟩
  have hh5 : w5.heap[w.heap.size]? = some (.cells #[.slice a1 n1 d1, .slice a2 n2 d2, .bool y.self, .int .i64 y.need, .int .i64 y.nomap, .int .i64 y.noany] 41 (0, 0)) := by rw [hw5]; exact heap_alloc_new _ _
  have HK5 : Hid (Below w.heap.size w w5) := by show Below _ _ _; rw [hw5]; exact (Below.refl _ _).alloc (Nat.le_refl _) _
  have x0 : w5.cell? ⟨w.heap.size, 0, none⟩ = some (.slice a1 n1 d1) := (cell_of_row _ _ 0 _ 41 (0, 0) hh5).trans rfl
  have x1 : w5.cell? ⟨w.heap.size, 1, none⟩ = some (.slice a2 n2 d2) := (cell_of_row _ _ 1 _ 41 (0, 0) hh5).trans rfl
  have x2 : w5.cell? ⟨w.heap.size, 2, none⟩ = some (.bool y.self) := (cell_of_row _ _ 2 _ 41 (0, 0) hh5).trans rfl
  have lx : w.heap.size < w5.heap.size := (Array.getElem?_eq_some_iff.1 hh5).1
  have HPC : Hid (PcAt w5 a1 n1 d1 a2 n2 y) := hpc.kept HK5.out
  have HW5 : Hid (_ = _) := hw5
  have hii : (i : Int) < (np : Int) := by omega
  clear hC hW hV hy hmc hac hla hal hpc hh5 hw5 hm0 ha0 hp hl
  go_enter Try.func11, Try.ntmps11
  go_upto_region 2 with fail
  rw [← HW5.out]
  clear HW5 c0 c1 c2 c3 c4 c5
  go_upto_region 3 with fail
  go_cut [13] (fun c wx => c = .bool al ∧ w5 = wx)
  case first =>
    go_wp2_with fail
    refine (hasNum_any a1 n1 d1 y.pols 0 _ HPC.out.pol (Nat.le_trans HPC.out.le HPC.out.max)).mono ?_
    rintro e w1 ⟨rfl, hw1⟩; have hw2 := hw1.symm; subst hw2
    by_cases hz : 0 ∈ y.pols
    · rw [decide_eq_true hz]
      go_wp2_with fail
      refine (HAA.out _ HK5.out).mono ?_
      rintro e w1 ⟨rfl, hw1⟩; have hw2 := hw1.symm; subst hw2
      by_cases hpos : 0 < ac
      · have ZB : Hid (al = true) := HAL.out.2 ⟨hz, HALL.out.2 (.inl hpos)⟩
        clear hz
        go_wp2
        go_meet
        exact ⟨by rw [ZB.out], rfl⟩
      · obtain ⟨sf, hsf⟩ : ∃ sf, sf = y.self := ⟨_, rfl⟩
        rw [← hsf] at x2 HALL
        clear hsf
        have ZP : Hid (decide (0 < ac) = false) := decide_eq_false hpos
        cases sf with
        | false =>
          have ZB : Hid (al = false) := by
            show _ = _
            cases hal : al with
            | false => rfl
            | true => rcases HALL.out.1 (HAL.out.1 hal).2 with h | h; exact absurd h hpos; exact absurd h.1 (by decide)
          clear hz
          go_wp2
          go_meet
          exact ⟨by rw [ZB.out, ZP.out], rfl⟩
        | true =>
          have ZB : Hid (al = !la) := by
            show _ = _
            cases hal : al with
            | false =>
              cases hla : la with
              | true => rfl
              | false => exact absurd (HAL.out.2 ⟨hz, HALL.out.2 (.inr ⟨rfl, hla⟩)⟩) (by rw [hal]; decide)
            | true => rcases HALL.out.1 (HAL.out.1 hal).2 with h | h; exact absurd h hpos; rw [h.2]; rfl
          clear hz
          go_wp2
          go_meet
          exact ⟨by rw [ZB.out, ZP.out, Bool.false_or], rfl⟩
    · rw [decide_eq_false hz]
      have ZB : Hid (al = false) := by
        show _ = _
        cases hal : al with
        | false => rfl
        | true => exact absurd (HAL.out.1 hal).1 hz
      clear hz
      go_wp2
      go_meet
      exact ⟨by rw [ZB.out], rfl⟩
  case rest =>
    obtain ⟨rfl, rfl⟩ := hcut
    clear HALL HAL HAA
    by_cases hh : hAt xs a0 i q
    · have HCH : Hid (V ↔ (if m = 0 then True else ∃ q' ∈ nx xs m0 i q, 0 < chn xs m0 a0 m (i + 1) q')) := by
        show _ ↔ _
        rw [HV.out]
        by_cases hm0 : m = 0
        · subst hm0; simp only [if_true, iff_true]; exact (chn_last _ _ _ _ _).2 hh
        · rw [if_neg hm0]; exact (chn_step _ _ _ _ _ _ hm0).trans ⟨fun h => h.2, fun h => ⟨hh, h⟩⟩
      have HOR := HHA.out.1 hh
      go_upto_region 4 with fail
      go_cut [51] (fun c wx => c = .bool false ∧ w5 = wx)
      case first =>
        go_wp2_with fail
        refine (hasNum_any a1 n1 d1 y.pols q _ HPC.out.pol (Nat.le_trans HPC.out.le HPC.out.max)).mono ?_
        rintro e w1 ⟨rfl, hw1⟩; have hw2 := hw1.symm; subst hw2
        by_cases hq : q ∈ y.pols
        · rw [decide_eq_true hq]
          clear HOR
          go_wp2
          go_meet
          exact ⟨rfl, rfl⟩
        · rw [decide_eq_false hq]
          have ZB : Hid (al = true) := HOR.resolve_left hq
          clear HOR
          go_wp2
          go_meet
          exact ⟨by rw [ZB.out]; rfl, rfl⟩
      case rest =>
        obtain ⟨rfl, rfl⟩ := hcut
        clear HOR HHA hh
        cases la with
        | true =>
          have hin : i + 1 = np := of_decide_eq_true HLA.out.symm
          have HT : Hid V := HCH.out.2 (by rw [if_pos (show m = 0 by omega)]; trivial)
          clear hin
          go_wp2
          go_ret
          exact saysP_t HT.out HK5.out
        | false =>
          have hin : i + 1 ≠ np := of_decide_eq_false HLA.out.symm
          have hmz : m ≠ 0 := by omega
          rw [if_neg hmz] at HCH
          have HMN : Hid (y.maps.length = n2) := HPC.out.mp.len
          have hn26 : n2 ≤ 6 := by have := HMAP.out; rw [HMN.out] at this; exact this
          go_wp2
          go_loopw [14, 15] (fun bb j wr => ∃ (u : Nat) (mb : Bool), u ≤ n2 ∧ bb = .bool mb ∧ j = .int .i64 u ∧ Hid (mb = true ↔ tosOf (y.maps.take u) q ≠ []) ∧ Hid (¬ (0 < mc ∧ ∃ r ∈ tosOf (y.maps.take u) q, 0 < chn xs m0 a0 m (i + 1) r)) ∧ Hid (Below w5.heap.size w5 wr)) (fun _ j _ => n2 - (intOf j).toNat)
          case atStart => exact ⟨0, false, Nat.zero_le _, rfl, rfl, ⟨fun h => (by cases h), fun h => absurd rfl h⟩, fun h => by obtain ⟨r, hr, _⟩ := h.2; simp [tosOf] at hr, Below.refl _ _⟩
          case round =>
            obtain ⟨u, mb, hu, rfl, rfl, HMB, HNO, HBR⟩ := hrel
            have B5 : Hid (Below w.heap.size w wr) := keepP HK5.out HBR.out
            have z1 : wr.cell? ⟨w.heap.size, 1, none⟩ = some (.slice a2 n2 d2) := (HBR.out.cell (p := ⟨w.heap.size, 1, none⟩) lx).trans x1
            have lz : w.heap.size < wr.heap.size := Nat.lt_of_lt_of_le lx HBR.out.size
            by_cases hul : u < n2
            · obtain ⟨b2, o2, rfl, hlb2, m1, m2⟩ := (HPC.out.mp.kept HBR.out).get u hul
              obtain ⟨pm, hpm⟩ : ∃ pm, pm = y.maps.getD u (0, 0) := ⟨_, rfl⟩
              rw [← hpm] at m1 m2
              have HTN : Hid (tosOf (y.maps.take (u + 1)) q = tosOf (y.maps.take u) q ++ (if pm.1 = q then [pm.2] else [])) := by show _ = _; rw [hpm]; exact tos_next y.maps q u (by rw [HMN.out]; exact hul)
              have HMEM : Hid (pm.1 = q → pm.2 ∈ tosOf y.maps q) := fun e => (mem_tos _ _ _).2 ⟨pm, by rw [hpm]; exact getD_mem' y.maps u (by rw [HMN.out]; exact hul), e, rfl⟩
              have huli : (u : Int) < (n2 : Int) := by omega
              clear hpm
              by_cases he : pm.1 = q
              · have hbe : (pm.1 == q) = true := beq_iff_eq.2 he
                rw [if_pos he] at HTN
                have HIN : Hid (pm.2 ∈ tosOf y.maps q) := HMEM.out he
                have HMB2 : Hid (tosOf (y.maps.take (u + 1)) q ≠ []) := by show _ ≠ _; rw [HTN.out]; simp
                clear he HMEM
                go_wp2_with fail
                refine (HAM.out _ B5.out).mono ?_
                rintro e w1 ⟨rfl, hw1⟩; have hw2 := hw1.symm; subst hw2
                by_cases hpos : 0 < mc
                · go_wp2_with fail
                  refine (HC.out pm.2 _ hmz B5.out).mono ?_
                  rintro e w7 ⟨b7, rfl, HB7, hb7⟩
                  have BF : Hid (Below w.heap.size w w7) := keepP B5.out hb7
                  cases b7 with
                  | true =>
                    have HT : Hid V := HCH.out.2 ⟨pm.2, by rw [HNX.out, if_neg (fun e => by rw [e] at HIN; exact absurd HIN.out List.not_mem_nil), if_pos hpos]; exact HIN.out, HB7.out.1 rfl⟩
                    clear HB7
                    go_wp2
                    go_ret
                    exact saysP_t HT.out BF.out
                  | false =>
                    have HNO2 : Hid (¬ (0 < mc ∧ ∃ r ∈ tosOf (y.maps.take (u + 1)) q, 0 < chn xs m0 a0 m (i + 1) r)) := by
                      rintro ⟨_, r, hr, h0⟩
                      rw [HTN.out] at hr
                      rcases List.mem_append.1 hr with hr | hr
                      · exact HNO.out ⟨hpos, r, hr, h0⟩
                      · simp at hr; subst hr; exact absurd (HB7.out.2 h0) (by decide)
                    have HBB : Hid (Below w5.heap.size w5 w7) := keepP HBR.out hb7
                    clear HB7 hb7 z1 lz m1 m2
                    go_wp2
                    go_roundw
                    case rel => exact ⟨u + 1, true, by omega, rfl, by go_num, ⟨fun _ => HMB2.out, fun _ => rfl⟩, HNO2, HBB⟩
                    case measure => simp [intOf]; omega
                · have HNO2 : Hid (¬ (0 < mc ∧ ∃ r ∈ tosOf (y.maps.take (u + 1)) q, 0 < chn xs m0 a0 m (i + 1) r)) := fun h => hpos h.1
                  clear z1 lz m1 m2
                  go_wp2
                  go_roundw
                  case rel => exact ⟨u + 1, true, by omega, rfl, by go_num, ⟨fun _ => HMB2.out, fun _ => rfl⟩, HNO2, HBR⟩
                  case measure => simp [intOf]; omega
              · have hbe : (pm.1 == q) = false := beq_false_of_ne he
                rw [if_neg he, List.append_nil] at HTN
                rw [← HTN.out] at HMB HNO
                clear he HMEM
                go_wp2
                go_roundw
                case rel => exact ⟨u + 1, mb, by omega, rfl, by go_num, HMB, HNO, HBR⟩
                case measure => simp [intOf]; omega
            · obtain rfl : u = n2 := by omega
              have hge : ¬ ((u : Int) < (u : Int)) := by omega
              have HTA : Hid (tosOf (y.maps.take u) q = tosOf y.maps q) := tos_all y.maps q u (by rw [HMN.out]; exact Nat.le_refl _)
              rw [HTA.out] at HMB HNO
              cases mb with
              | true =>
                have hte : tosOf y.maps q ≠ [] := HMB.out.1 rfl
                have HF : Hid (¬ V) := by
                  show ¬ V
                  rw [HCH.out, HNX.out, if_neg hte]
                  rintro ⟨r, hr, h0⟩
                  by_cases hpos : 0 < mc
                  · rw [if_pos hpos] at hr; exact HNO.out ⟨hpos, r, hr, h0⟩
                  · rw [if_neg hpos] at hr; exact absurd hr List.not_mem_nil
                clear hte
                go_wp2
                go_ret
                exact saysP_f HF.out B5.out
              | false =>
                have hte : tosOf y.maps q = [] := Classical.not_not.1 (fun h => absurd (HMB.out.2 h) (by decide))
                have HE : Hid (V ↔ 0 < chn xs m0 a0 m (i + 1) q) := by
                  show _ ↔ _
                  rw [HCH.out, HNX.out, if_pos hte]
                  simp
                clear hte
                go_wp2_with fail
                refine (HC.out q _ hmz B5.out).mono ?_
                rintro e w7 ⟨b7, rfl, HB7, hb7⟩
                have FIN : Hid (b7 = true ↔ V) := HB7.out.trans HE.out.symm
                have BF : Hid (Below w.heap.size w w7) := keepP B5.out hb7
                clear HB7 hb7
                go_wp2
                go_ret
                exact ⟨_, rfl, FIN, BF.out⟩
    · have HF : Hid (¬ V) := by
        show ¬ V
        rw [HV.out]
        intro h0
        rw [chn_succ, if_neg hh] at h0
        exact absurd h0 (by decide)
      have hq : q ∉ y.pols := fun h => hh (HHA.out.2 (.inl h))
      have ZB : al = false := by
        cases hal : al with
        | false => rfl
        | true => exact absurd (HHA.out.2 (.inr hal)) hh
      subst ZB
      clear HHA hh
      go_wp2_with fail
      refine (hasNum_any a1 n1 d1 y.pols q _ HPC.out.pol (Nat.le_trans HPC.out.le HPC.out.max)).mono ?_
      rintro e w1 ⟨rfl, hw1⟩; have hw2 := hw1.symm; subst hw2
      rw [decide_eq_false hq]
      clear hq
      go_wp2
      go_ret
      exact saysP_f HF.out HK5.out

theorem chainP_any (ap : Option Addr) (np cp : Nat) (xs : List PC) (noMap noAny : Bool) (hp : pathP xs) (hl : xs.length = np) : ∀ m i, i + m = np → m ≠ 0 → ChP ap np cp xs noMap noAny m i
  | 0, _, _, h => absurd rfl h
  | m + 1, i, h, _ => chain_of ap np cp xs noMap noAny m i hp hl h (fun hm => chainP_any ap np cp xs noMap noAny hp hl m (i + 1) (by omega) hm)

end Go.Proofs.Ytdkgilkjcndonaa
