import Derived.Test.YtdkgilkjcndonaaPL9a
namespace Go.Proofs.Ytdkgilkjcndonaa
open Go.RowKit

/-- A list of numbers is told. -/
def BcR (w : World) (l : List Int) (e : Ending) (w' : World) : Prop := ∃ a c, e = .returned (.slice a l.length c) ∧ Row64 w' a l.length l ∧ Below w.heap.size w w'
/-- A walk along a path, in memory. -/
structure WkAt (w : World) (ap : Option Addr) (np : Nat) (ac : Option Addr) (xs : List PC) (q0 m0 a0 : Int) : Prop where
  path : Pcs w ap np xs
  ctrs : Ctrs w ac (np + 1) (trip xs q0 m0 a0)
  right : pathP xs
theorem WkAt.keptC {w w' : World} {ap : Option Addr} {np : Nat} {ac : Option Addr} {xs : List PC} {q0 m0 a0 : Int} (h : WkAt w ap np ac xs q0 m0 a0) (k : KeptC w w') : WkAt w' ap np ac xs q0 m0 a0 := ⟨h.path.keptC k, h.ctrs.keptC k, h.right⟩
theorem WkAt.le {w : World} {ap : Option Addr} {np : Nat} {ac : Option Addr} {xs : List PC} {q0 m0 a0 : Int} (h : WkAt w ap np ac xs q0 m0 a0) : 1 ≤ np ∧ np ≤ 8 := by rw [← h.path.len]; exact h.right.1

set_option maxRecDepth 10000 in
set_option maxHeartbeats 2000000 in
theorem holdsAt_any (ap : Option Addr) (np cp : Nat) (ac : Option Addr) (cc bm i : Nat) (xs : List PC) (q0 m0 a0 q : Int) (w : World) (h : WkAt w ap np ac xs q0 m0 a0) (hi : i < np) :
    Calls Try.prog 87 #[walkV ap np cp ac (np + 1) cc bm, .int .i64 i, .int .i64 q] w fun e w' => e = .returned (.bool (decide (hAt xs a0 i q))) ∧ Below w.heap.size w w' := by
  have H0 : Hid (WkAt w ap np ac xs q0 m0 a0) := h
  have hnp := h.le.2
  obtain ⟨b', off', a1, n1, d1, a2, n2, d2, rfl, hlb', hc, hpc⟩ := h.path.get i hi
  obtain ⟨y, hy⟩ : ∃ y, y = xs.getD i default := ⟨_, rfl⟩
  rw [← hy] at hc hpc
  obtain ⟨c0, c1, c2, c3, c4, c5⟩ := hc
  have HPC : Hid (PcAt w a1 n1 d1 a2 n2 y) := hpc
  have HN : Hid (∀ W q', PcAt W a1 n1 d1 a2 n2 y → Calls Try.prog 101 #[.agg #[.slice a1 n1 d1, .slice a2 n2 d2, .bool y.self, .int .i64 y.need, .int .i64 y.nomap, .int .i64 y.noany], .int .i64 q'] W fun e w' => e = .returned (.bool (decide (q' ∈ y.pols))) ∧ Below W.heap.size W w') := fun W q' hW => names_any a1 n1 d1 a2 n2 d2 y q' W hW
  have HAC : Hid (∀ W, WkAt W (some ⟨b', off', none⟩) np ac xs q0 m0 a0 → Calls Try.prog 102 #[.agg #[.slice (some ⟨b', off', none⟩) np cp, .slice ac (np + 1) cc, .map (some bm)], .int .i64 i] W fun e w' => e = .returned (.bool (decide (allIn xs a0 i))) ∧ Below W.heap.size W w') := fun W hW => anyCounts_any _ np cp ac (np + 1) cc bm i xs q0 m0 a0 W hW.ctrs (by omega) hW.path hnp hi
  have HH : Hid (hAt xs a0 i q ↔ q ∈ y.pols ∨ (0 ∈ y.pols ∧ allIn xs a0 i)) := by show _ ↔ _; rw [hy]; exact Iff.rfl
  have hii : (i : Int) < (np : Int) := by omega
  unfold walkV
  clear h hy hpc
  obtain ⟨w0, hw0⟩ : ∃ w0, w0 = (w.alloc (.cells #[.slice (some ⟨b', off', none⟩) np cp, .slice ac (np + 1) cc, .map (some bm)] 61)).alloc (.cells #[.slice a1 n1 d1, .slice a2 n2 d2, .bool y.self, .int .i64 y.need, .int .i64 y.nomap, .int .i64 y.noany] 41) := ⟨_, rfl⟩
  have hbl : Below w.heap.size w w0 := by rw [hw0]; exact ((Below.refl _ _).alloc (Nat.le_refl _) _).alloc (by simp) _
  have b0 := two_blocksP w (.cells #[.slice (some ⟨b', off', none⟩) np cp, .slice ac (np + 1) cc, .map (some bm)] 61) (.cells #[.slice a1 n1 d1, .slice a2 n2 d2, .bool y.self, .int .i64 y.need, .int .i64 y.nomap, .int .i64 y.noany] 41)
  rw [← hw0] at b0
  have l0 : w.heap.size + 1 < w0.heap.size := (Array.getElem?_eq_some_iff.1 b0.2).1
  have HB0 : Hid (_ ∧ _) := b0
  have HBL : Hid (Below w.heap.size w w0) := hbl
  have HW0 : Hid (_ = _) := hw0
  clear b0 hbl hw0
  go_enter Try.func87, Try.ntmps87
  go_wp2_with fail
  rw [← HW0.out]
  clear HW0 c0 c1 c2 c3 c4 c5
  refine (HN.out _ q (HPC.out.kept HBL.out)).mono ?_
  rintro e w1 ⟨rfl, hb1⟩
  have HB1 : Hid (Below w.heap.size w w1) := keepP HBL.out hb1
  have y0 := (hb1.block _ (by omega)).trans HB0.out.1
  have y1 := (hb1.block _ l0).trans HB0.out.2
  by_cases hq : q ∈ y.pols
  · have HD : Hid (decide (hAt xs a0 i q) = true) := decide_eq_true (HH.out.2 (.inl hq))
    have HQ : Hid (decide (q ∈ y.pols) = true) := decide_eq_true hq
    rw [HQ.out]
    clear hq HQ hb1 y0 y1 l0
    go_wp2
    go_ret
    exact ⟨by rw [HD.out]; rfl, HB1.out⟩
  · have HQ : Hid (decide (q ∈ y.pols) = false) := decide_eq_false hq
    have HH2 : Hid (hAt xs a0 i q ↔ (0 ∈ y.pols ∧ allIn xs a0 i)) := ⟨fun h => (HH.out.1 h).resolve_left hq, fun h => HH.out.2 (.inr h)⟩
    rw [HQ.out]
    have l1 : w.heap.size + 1 < w1.heap.size := (Array.getElem?_eq_some_iff.1 y1).1
    have e0 : w1.cell? ⟨w.heap.size + 1, 0, none⟩ = some (.slice a1 n1 d1) := (cell_of_row _ _ 0 _ 41 (0, 0) y1).trans rfl
    have e1 : w1.cell? ⟨w.heap.size + 1, 1, none⟩ = some (.slice a2 n2 d2) := (cell_of_row _ _ 1 _ 41 (0, 0) y1).trans rfl
    have e2 : w1.cell? ⟨w.heap.size + 1, 2, none⟩ = some (.bool y.self) := (cell_of_row _ _ 2 _ 41 (0, 0) y1).trans rfl
    have e3 : w1.cell? ⟨w.heap.size + 1, 3, none⟩ = some (.int .i64 y.need) := (cell_of_row _ _ 3 _ 41 (0, 0) y1).trans rfl
    have e4 : w1.cell? ⟨w.heap.size + 1, 4, none⟩ = some (.int .i64 y.nomap) := (cell_of_row _ _ 4 _ 41 (0, 0) y1).trans rfl
    have e5 : w1.cell? ⟨w.heap.size + 1, 5, none⟩ = some (.int .i64 y.noany) := (cell_of_row _ _ 5 _ 41 (0, 0) y1).trans rfl
    have HY0 : Hid (_ = _) := y0
    clear hq HQ hb1 y0 y1 l0 HH HB0
    go_wp2_with fail
    refine (HN.out _ 0 (HPC.out.kept HB1.out)).mono ?_
    rintro e w2 ⟨rfl, hb2⟩
    have HB2 : Hid (Below w.heap.size w w2) := keepP HB1.out hb2
    by_cases hz : 0 ∈ y.pols
    · have HQ : Hid (decide (0 ∈ y.pols) = true) := decide_eq_true hz
      have HD : Hid (decide (hAt xs a0 i q) = decide (allIn xs a0 i)) := by show _ = _; exact decide_eq_decide.2 ⟨fun h => (HH2.out.1 h).2, fun h => HH2.out.2 ⟨hz, h⟩⟩
      rw [HQ.out]
      have z0 := (hb2.block _ (by omega)).trans HY0.out
      have l2 : w.heap.size < w2.heap.size := (Array.getElem?_eq_some_iff.1 z0).1
      have k0 : w2.cell? ⟨w.heap.size, 0, none⟩ = some (.slice (some ⟨b', off', none⟩) np cp) := (cell_of_row _ _ 0 _ 61 (0, 0) z0).trans rfl
      have k1 : w2.cell? ⟨w.heap.size, 1, none⟩ = some (.slice ac (np + 1) cc) := (cell_of_row _ _ 1 _ 61 (0, 0) z0).trans rfl
      have k2 : w2.cell? ⟨w.heap.size, 2, none⟩ = some (.map (some bm)) := (cell_of_row _ _ 2 _ 61 (0, 0) z0).trans rfl
      obtain ⟨da, hda⟩ : ∃ da, da = decide (allIn xs a0 i) := ⟨_, rfl⟩
      rw [← hda] at HAC HD
      clear hz HQ HH2 hb2 z0 hda e0 e1 e2 e3 e4 e5 HY0
      go_wp2_with fail
      refine (HAC.out _ (H0.out.keptC (KeptC.of_below HB2.out))).mono ?_
      rintro e w3 ⟨rfl, hb3⟩
      have B3 : Below w.heap.size w w3 := keepP HB2.out hb3
      go_wp2
      go_ret
      exact ⟨by rw [HD.out]; rfl, B3⟩
    · have HQ : Hid (decide (0 ∈ y.pols) = false) := decide_eq_false hz
      have HD : Hid (decide (hAt xs a0 i q) = false) := decide_eq_false (fun h => hz (HH2.out.1 h).1)
      rw [HQ.out]
      clear hz HQ HH2 hb2 e0 e1 e2 e3 e4 e5
      go_wp2
      go_ret
      exact ⟨by rw [HD.out]; rfl, HB2.out⟩

set_option maxRecDepth 10000 in
set_option maxHeartbeats 2000000 in
theorem becomes_any (ap : Option Addr) (np cp : Nat) (ac : Option Addr) (cc bm i : Nat) (xs : List PC) (q0 m0 a0 q : Int) (w : World) (h : WkAt w ap np ac xs q0 m0 a0) (hi : i < np) :
    Calls Try.prog 89 #[walkV ap np cp ac (np + 1) cc bm, .int .i64 i, .int .i64 q] w (BcR w (nx xs m0 i q)) := by
  obtain ⟨i0, ih, hz0, hz1, hz2⟩ := info_parts Try.info2P
  have H0 : Hid (WkAt w ap np ac xs q0 m0 a0) := h
  have hnp := h.le.2
  have HML : Hid ((xs.getD i default).maps.length ≤ 6) := h.right.maps i
  obtain ⟨b', off', a1, n1, d1, a2, n2, d2, rfl, hlb', hc, hpc⟩ := h.path.get i hi
  have k1 := hc.c1
  have HMP : Hid (Pms w a2 n2 (xs.getD i default).maps) := hpc.mp
  have hmax := hpc.mp.max
  have HMN : Hid ((xs.getD i default).maps.length = n2) := hpc.mp.len
  have HN6 : n2 ≤ 6 := by have := HML.out; rw [HMN.out] at this; exact this
  obtain ⟨ms, hms⟩ : ∃ ms, ms = (xs.getD i default).maps := ⟨_, rfl⟩
  rw [← hms] at HMP HMN
  have HNX : Hid (nx xs m0 i q = if tosOf ms q = [] then [q] else if 0 < ctr PC.nomap m0 xs i then tosOf ms q else []) := by show _ = _; rw [hms]; rfl
  have HMC : Hid (∀ W, Ctrs W ac (np + 1) (trip xs q0 m0 a0) → Calls Try.prog 103 #[.agg #[.slice (some ⟨b', off', none⟩) np cp, .slice ac (np + 1) cc, .map (some bm)], .int .i64 i] W fun e w' => e = .returned (.bool (decide (0 < ctr PC.nomap m0 xs i))) ∧ Below W.heap.size W w') := fun W hW => mapsCount_any _ np cp ac (np + 1) cc bm i _ W hW (by omega)
  have hii : (i : Int) < (np : Int) := by omega
  unfold walkV
  clear h hpc hc hms HML
  obtain ⟨w0, hw0⟩ : ∃ w0, w0 = w.alloc (.cells #[.slice (some ⟨b', off', none⟩) np cp, .slice ac (np + 1) cc, .map (some bm)] 61) := ⟨_, rfl⟩
  have HBL : Hid (Below w.heap.size w w0) := by show Below _ _ _; rw [hw0]; exact (Below.refl _ _).alloc (Nat.le_refl _) _
  have HB0 : Hid (w0.heap[w.heap.size]? = some (.cells #[.slice (some ⟨b', off', none⟩) np cp, .slice ac (np + 1) cc, .map (some bm)] 61 (0, 0))) := by show _ = _; rw [hw0]; exact heap_alloc_new _ _
  have HW0 : Hid (_ = _) := hw0
  clear hw0
  go_enter Try.func89, Try.ntmps89
  go_wp2
  rw [← HW0.out]
  clear HW0 k1
  go_loopw [7, 17] (fun s j wr => ∃ (k m c : Nat) (ao : Option Addr), k ≤ n2 ∧ s = .slice ao m c ∧ j = .int .i64 k ∧ m ≤ k ∧ Hid (OwnL (w.heap.size + 1) wr ao m c (tosOf (ms.take k) q)) ∧ Hid (wr.heap[w.heap.size]? = some (.cells #[.slice (some ⟨b', off', none⟩) np cp, .slice ac (np + 1) cc, .map (some bm)] 61 (0, 0))) ∧ Hid (Below w.heap.size w wr) ∧ w.heap.size < wr.heap.size) (fun _ j _ => n2 - (intOf j).toNat)
  case atStart => exact ⟨0, 0, 0, none, Nat.zero_le _, rfl, rfl, Nat.le_refl _, ownL_none _ _, HB0, HBL, (Array.getElem?_eq_some_iff.1 HB0.out).1⟩
  case round =>
    obtain ⟨k, m, c, ao, hk, rfl, rfl, hmk, HO, HB, HBE, hsz⟩ := hrel
    clear HB0 HBL
    by_cases hlt : k < n2
    · obtain ⟨b, off, rfl, hlb, x0, x1⟩ := (HMP.out.kept HBE.out).get k hlt
      obtain ⟨p, hp⟩ : ∃ p, p = ms.getD k (0, 0) := ⟨_, rfl⟩
      rw [← hp] at x0 x1
      have HTN : Hid (tosOf (ms.take (k + 1)) q = tosOf (ms.take k) q ++ (if p.1 = q then [p.2] else [])) := by show _ = _; rw [hp]; exact tos_next ms q k (by rw [HMN.out]; exact hlt)
      have hlti : (k : Int) < (n2 : Int) := by omega
      clear hp
      obtain ⟨w1, hw1⟩ : ∃ w1, w1 = wr.alloc (.cells #[.int .i64 p.1, .int .i64 p.2] 43) := ⟨_, rfl⟩
      have hb1 : Below wr.heap.size wr w1 := by rw [hw1]; exact (Below.refl _ _).alloc (Nat.le_refl _) _
      have hh1 : w1.heap[wr.heap.size]? = some (.cells #[.int .i64 p.1, .int .i64 p.2] 43 (0, 0)) := by rw [hw1]; exact heap_alloc_new _ _
      have l1 : wr.heap.size < w1.heap.size := (Array.getElem?_eq_some_iff.1 hh1).1
      have y0 : w1.cell? ⟨wr.heap.size, 0, none⟩ = some (.int .i64 p.1) := (cell_of_row _ _ 0 _ 43 (0, 0) hh1).trans rfl
      have y1 : w1.cell? ⟨wr.heap.size, 1, none⟩ = some (.int .i64 p.2) := (cell_of_row _ _ 1 _ 43 (0, 0) hh1).trans rfl
      have HO1 : Hid (OwnL (w.heap.size + 1) w1 ao m c (tosOf (ms.take k) q)) := HO.out.kept hb1
      have HB1 : Hid (w1.heap[w.heap.size]? = some (.cells #[.slice (some ⟨b', off', none⟩) np cp, .slice ac (np + 1) cc, .map (some bm)] 61 (0, 0))) := (hb1.block _ hsz).trans HB.out
      have HBE1 : Hid (Below w.heap.size w w1) := HBE.out.trans (hb1.mono HBE.out.size)
      have HW1 : Hid (_ = _) := hw1
      clear hw1 hb1 hh1 HO HB HBE
      go_upto_region 5 with fail
      rw [← HW1.out]
      clear HW1 x0 x1
      by_cases he : p.1 = q
      · have hbe : (p.1 == q) = true := beq_iff_eq.2 he
        rw [if_pos he] at HTN
        clear he
        go_wp2_with (at_builtin; refine wpList_append_own _ rfl _ _ 32 rfl (w.heap.size + 1) 2 i0 (.int .i64 0) 1 8 Try.underlying32 ih hz0 hz1 hz2 rfl (by decide) _ m _ rfl (HO1.out.kept ((Below.refl _ _).alloc (Nat.le_refl _) _)).row ⟨w1.heap.size, 0, none⟩ 1 1 ([p.2].map (Value.int .i64)) rfl rfl (cell_one64P _ _) (ints_oneCell .i64 [p.2]) (by unfold maxLen; omega) (by omega) (by simp; omega) ?_; intro v' w5 hown' hgrow' _; rw [← List.map_append, ← HTN.out] at hown'; obtain ⟨a5, c5, rfl, ho5⟩ := ownL_appended hown'; have hA5 : Below (w.heap.size + 1) w1 w5 := (((Below.refl (w.heap.size + 1) w1).alloc (by omega) _).grown hgrow' (by simp; omega) (fun l hl => ((HO1.out.kept ((Below.refl w1.heap.size w1).alloc (Nat.le_refl _) (.cells #[.int .i64 p.2] 2))).row.lt l hl).1)))
        have s5 := hA5.size
        have HO5 : Hid (OwnL (w.heap.size + 1) w5 a5 (m + 1) c5 (tosOf (ms.take (k + 1)) q)) := ho5
        have HB5 : Hid (w5.heap[w.heap.size]? = some (.cells #[.slice (some ⟨b', off', none⟩) np cp, .slice ac (np + 1) cc, .map (some bm)] 61 (0, 0))) := (hA5.block _ (by omega)).trans HB1.out
        have HBE5 : Hid (Below w.heap.size w w5) := HBE1.out.trans (hA5.mono (by omega))
        clear hown' hgrow' ho5 hA5
        go_roundw
        case rel => exact ⟨k + 1, m + 1, c5, a5, by omega, rfl, by go_num, by omega, HO5, HB5, HBE5, by omega⟩
        case measure => simp [intOf]; omega
      · have hbe : (p.1 == q) = false := beq_false_of_ne he
        rw [if_neg he, List.append_nil] at HTN
        rw [← HTN.out] at HO1
        clear he HTN
        go_wp2
        go_roundw
        case rel => exact ⟨k + 1, m, c, ao, by omega, rfl, by go_num, by omega, HO1, HB1, HBE1, by omega⟩
        case measure => simp [intOf]; omega
    · obtain rfl : k = n2 := by omega
      have hge : ¬ ((k : Int) < (k : Int)) := by omega
      rw [tos_all ms q k (by rw [HMN.out]; exact Nat.le_refl _)] at HO
      have hml : Hid ((tosOf ms q).length = m) := HO.out.len
      by_cases hm0 : m = 0
      · have ht : tosOf ms q = [] := List.eq_nil_of_length_eq_zero (by rw [hml.out]; exact hm0)
        have HNQ : Hid (nx xs m0 i q = [q]) := by show _ = _; rw [HNX.out, if_pos ht]
        have hbe : ((m : Int) == 0) = true := by simp [hm0]
        have HO1 := ownL_one wr q
        have BA : Below wr.heap.size wr (wr.alloc (.cells #[.int .i64 q] 2)) := (Below.refl _ _).alloc (Nat.le_refl _) _
        have FIN : Hid (_ ∧ _) := ⟨HO1.toRow, HBE.out.trans (BA.mono HBE.out.size)⟩
        clear ht hm0 HO1 BA HO HMC
        go_wp2
        go_ret
        exact ⟨some ⟨wr.heap.size, 0, none⟩, 1, by rw [HNQ.out]; rfl, by rw [HNQ.out]; exact FIN.out.1, FIN.out.2⟩
      · have ht : tosOf ms q ≠ [] := fun e => hm0 (by rw [← hml.out, e]; rfl)
        have hbe : ((m : Int) == 0) = false := beq_false_of_ne (by omega)
        have y0 : wr.cell? ⟨w.heap.size, 0, none⟩ = some (.slice (some ⟨b', off', none⟩) np cp) := (cell_of_row _ _ 0 _ 61 (0, 0) HB.out).trans rfl
        have y1 : wr.cell? ⟨w.heap.size, 1, none⟩ = some (.slice ac (np + 1) cc) := (cell_of_row _ _ 1 _ 61 (0, 0) HB.out).trans rfl
        have y2 : wr.cell? ⟨w.heap.size, 2, none⟩ = some (.map (some bm)) := (cell_of_row _ _ 2 _ 61 (0, 0) HB.out).trans rfl
        have HNQ : Hid (nx xs m0 i q = if 0 < ctr PC.nomap m0 xs i then tosOf ms q else []) := by show _ = _; rw [HNX.out, if_neg ht]
        clear ht hm0 HNX
        go_wp2_with fail
        refine (HMC.out _ (H0.out.ctrs.keptC (KeptC.of_below HBE.out))).mono ?_
        rintro e w4 ⟨rfl, hb4⟩
        have HB4 : Hid (Below w.heap.size w w4) := HBE.out.trans (hb4.mono HBE.out.size)
        have HO4 : Hid (Row64 w4 ao m (tosOf ms q)) := (HO.out.kept hb4).toRow
        by_cases hpos : 0 < ctr PC.nomap m0 xs i
        · rw [if_pos hpos] at HNQ
          rw [decide_eq_true hpos]
          clear hpos hb4 HO HBE HB
          go_wp2
          go_ret
          exact ⟨ao, c, by rw [HNQ.out, hml.out]; rfl, by rw [HNQ.out, hml.out]; exact HO4.out, HB4.out⟩
        · rw [if_neg hpos] at HNQ
          rw [decide_eq_false hpos]
          clear hpos hb4 HO HBE HB
          go_wp2
          go_ret
          exact ⟨none, 0, by rw [HNQ.out]; rfl, by rw [HNQ.out]; exact ⟨rfl, fun k hk => absurd hk (Nat.not_lt_zero _)⟩, HB4.out⟩

end Go.Proofs.Ytdkgilkjcndonaa
