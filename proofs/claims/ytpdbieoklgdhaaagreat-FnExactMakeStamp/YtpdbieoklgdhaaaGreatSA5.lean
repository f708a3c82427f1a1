import Derived.Test.YtpdbieoklgdhaaaGreatSA4
namespace Go.Proofs.YtpdbieoklgdhaaaGreat
open Go.RowKit

set_option maxRecDepth 10000 in
set_option maxHeartbeats 4000000 in
theorem l8SigBytes_any (leaf : Int) (a1 : Option Addr) (n1 c1 : Nat) (es : List Int) (a2 : Option Addr) (n2 c2 : Nat) (ps : List Int) (w : World) (hl : leaf ≤ 9223372036854775807) (h1 : RowU w a1 n1 es) (h2 : RowU w a2 n2 ps) (hn1 : n1 ≤ 1000) (hn2 : n2 ≤ 1000) :
    Calls Tryz.prog 28 #[tsv leaf a1 n1 c1 a2 n2 c2] w fun e w' => ∃ a cap, e = .returned (.slice a ((putI leaf).length + 8 * n1 + 8 * n2) cap) ∧ Own w.heap.size w' a ((putI leaf).length + 8 * n1 + 8 * n2) cap (putI leaf ++ flatL es ++ flatL ps) ∧ Below w.heap.size w w' := by
  obtain ⟨i0, hi, hz0, hz1, hz2⟩ := info_parts Tryz.info5
  obtain ⟨w1, hw1⟩ : ∃ w1, w1 = w.alloc (.cells #[.int .i64 leaf, .slice a1 n1 c1, .slice a2 n2 c2] 60) := ⟨_, rfl⟩
  have hbb : Below w.heap.size w w1 := by rw [hw1]; exact (Below.refl _ _).alloc (Nat.le_refl _) _
  have HG : Hid (w1.heap[w.heap.size]? = some (.cells #[.int .i64 leaf, .slice a1 n1 c1, .slice a2 n2 c2] 60)) := by show _ = _; rw [hw1]; exact heap_alloc_new w _
  have hlw : w.heap.size < w1.heap.size := (Array.getElem?_eq_some_iff.1 HG.out).1
  have HX : Hid (∀ W, Below w1.heap.size w1 W → W.cell? ⟨w.heap.size, 0, none⟩ = some (.int .i64 leaf) ∧ W.cell? ⟨w.heap.size, 1, none⟩ = some (.slice a1 n1 c1) ∧ W.cell? ⟨w.heap.size, 2, none⟩ = some (.slice a2 n2 c2)) := fun W hW => cells3' ((hW.block _ hlw).trans HG.out)
  have HW : Hid (_ = _) := hw1
  have H1 : Hid (∀ W, Below w1.heap.size w1 W → RowU W a1 n1 es) := fun W hW => h1.kept (keepT hbb hW)
  have H2 : Hid (∀ W, Below w1.heap.size w1 W → RowU W a2 n2 ps) := fun W hW => h2.kept (keepT hbb hW)
  have HL1 : Hid (es.length = n1) := h1.len
  have HL2 : Hid (ps.length = n2) := h2.len
  clear hw1 h1 h2
  have hpl := putI_len leaf hl
  rw [tsv]
  go_enter Tryz.func28, Tryz.ntmps28
  go_upto_region 1 with fail
  rw [← HW.out]
  clear HW
  obtain ⟨g0, g1, g2⟩ := HX.out _ (Below.refl _ _)
  go_wp2_with fail
  refine (specPutNum_any leaf _ hl).mono ?_
  rintro e w2 ⟨a7, c7, rfl, ho7, hb7⟩
  clear g0 g1 g2
  have HO0 : Hid (Own w1.heap.size w2 a7 ((putI leaf).length + 8 * 0) c7 (putI leaf ++ flatL (es.take 0))) := by
    show Own _ _ _ _ _ _
    simpa [flatL] using ho7
  clear ho7
  go_wp2
  go_loopw [3, 4] (fun o i wr => ∃ (j cc : Nat) (ao : Option Addr), j ≤ n1 ∧ i = .int .i64 j ∧ o = .slice ao ((putI leaf).length + 8 * j) cc ∧ Own w1.heap.size wr ao ((putI leaf).length + 8 * j) cc (putI leaf ++ flatL (es.take j)) ∧ Below w1.heap.size w1 wr) (fun _ i _ => n1 - (intOf i).toNat)
  case atStart => exact ⟨0, c7, a7, by omega, rfl, rfl, HO0.out, hb7⟩
  case round =>
    obtain ⟨j, cc, ao, hj, rfl, rfl, hor, hbr⟩ := hrel
    have hszr := hbr.size
    obtain ⟨g0, g1, g2⟩ := HX.out _ hbr
    by_cases hlt : j < n1
    · have hlti : (j : Int) < (n1 : Int) := by omega
      obtain ⟨b, off, rfl, hlb, hc0⟩ := (H1.out _ hbr).get j hlt
      have hzb := (H1.out _ hbr).rng j
      obtain ⟨z, hz⟩ : ∃ z, z = es.getD j 0 := ⟨_, rfl⟩
      have HNX : Hid (flatL (es.take (j + 1)) = flatL (es.take j) ++ eightI z) := by show _ = _; rw [hz]; exact flatL_next es j (by rw [HL1.out]; exact hlt)
      rw [← hz] at hc0 hzb
      have HOR : Hid (_) := hor
      clear hz hor
      go_wp2_with fail
      refine (l1Eight_any z _ hzb.1 hzb.2).mono ?_
      rintro e wd ⟨ad, cd, rfl, hrd, hbd⟩
      have hod := HOR.out.kept hbd
      have hcd := keepT hbr hbd
      have hszd := hcd.size
      clear hc0 g0 g1 g2
      go_wp2_with (first | (refine wpList_append_row _ rfl _ _ 25 rfl w1.heap.size i0 Tryz.underlying25 hi hz0 hz1 hz2 _ ((putI leaf).length + 8 * j) _ rfl hod.row ad 8 cd (eightI z) rfl hrd.toRow hrd.nil (by omega) hszd ?_; intro v4 w4 hv4 hg4))
      have hbr4 : Below w1.heap.size w1 w4 := below_appended hcd hszd hod.row hg4
      obtain ⟨a4, c4, rfl, ho4⟩ := own_appended hv4 hod.byte (eightI_byte z)
      rw [List.append_assoc, ← HNX.out, Nat.add_assoc, show 8 * j + 8 = 8 * (j + 1) by omega] at ho4
      have HO4 : Hid (_) := ho4
      have e8 : (putI leaf).length + 8 * j + 8 = (putI leaf).length + 8 * (j + 1) := by omega
      rw [e8]
      clear ho4 hv4 hg4 hod
      go_wp2
      go_roundw
      case rel => exact ⟨j + 1, c4, a4, by omega, by go_num, rfl, HO4.out, hbr4⟩
      case measure => simp [intOf]; omega
    · obtain rfl : j = n1 := by omega
      have hnl : ¬ ((j : Int) < (j : Int)) := by omega
      have HO1 : Hid (Own w1.heap.size wr ao ((putI leaf).length + 8 * j + 8 * 0) cc (putI leaf ++ flatL es ++ flatL (ps.take 0))) := by
        show Own _ _ _ _ _ _
        rw [List.take_of_length_le (by rw [HL1.out]; exact Nat.le_refl _)] at hor
        simpa [flatL] using hor
      clear hor
      go_wp2
      go_loopw [3, 5] (fun o i wr => ∃ (q cc : Nat) (ao : Option Addr), q ≤ n2 ∧ i = .int .i64 q ∧ o = .slice ao ((putI leaf).length + 8 * j + 8 * q) cc ∧ Own w1.heap.size wr ao ((putI leaf).length + 8 * j + 8 * q) cc (putI leaf ++ flatL es ++ flatL (ps.take q)) ∧ Below w1.heap.size w1 wr) (fun _ i _ => n2 - (intOf i).toNat)
      case atStart => exact ⟨0, cc, ao, by omega, rfl, rfl, HO1.out, hbr⟩
      case round =>
        obtain ⟨q, cq, aq, hq, rfl, rfl, hor, hbq⟩ := hrel
        have hszq := hbq.size
        clear g0 g1 g2
        obtain ⟨g0, g1, g2⟩ := HX.out _ hbq
        by_cases hlt2 : q < n2
        · have hlti : (q : Int) < (n2 : Int) := by omega
          obtain ⟨b, off, rfl, hlb, hc0⟩ := (H2.out _ hbq).get q hlt2
          have hzb := (H2.out _ hbq).rng q
          obtain ⟨z, hz⟩ : ∃ z, z = ps.getD q 0 := ⟨_, rfl⟩
          have HNX : Hid (flatL (ps.take (q + 1)) = flatL (ps.take q) ++ eightI z) := by show _ = _; rw [hz]; exact flatL_next ps q (by rw [HL2.out]; exact hlt2)
          rw [← hz] at hc0 hzb
          have HOR : Hid (_) := hor
          clear hz hor
          go_wp2_with fail
          refine (l1Eight_any z _ hzb.1 hzb.2).mono ?_
          rintro e wd ⟨ad, cd, rfl, hrd, hbd⟩
          have hod := HOR.out.kept hbd
          have hcd := keepT hbq hbd
          have hszd := hcd.size
          clear hc0 g0 g1 g2
          go_wp2_with (first | (refine wpList_append_row _ rfl _ _ 25 rfl w1.heap.size i0 Tryz.underlying25 hi hz0 hz1 hz2 _ ((putI leaf).length + 8 * j + 8 * q) _ rfl hod.row ad 8 cd (eightI z) rfl hrd.toRow hrd.nil (by omega) hszd ?_; intro v4 w4 hv4 hg4))
          have hbr4 : Below w1.heap.size w1 w4 := below_appended hcd hszd hod.row hg4
          obtain ⟨a4, c4, rfl, ho4⟩ := own_appended hv4 hod.byte (eightI_byte z)
          rw [List.append_assoc, ← HNX.out, Nat.add_assoc, show 8 * q + 8 = 8 * (q + 1) by omega] at ho4
          have HO4 : Hid (_) := ho4
          have e8 : (putI leaf).length + 8 * j + 8 * q + 8 = (putI leaf).length + 8 * j + 8 * (q + 1) := by omega
          rw [e8]
          clear ho4 hv4 hg4 hod
          go_wp2
          go_roundw
          case rel => exact ⟨q + 1, c4, a4, by omega, by go_num, rfl, HO4.out, hbr4⟩
          case measure => simp [intOf]; omega
        · obtain rfl : q = n2 := by omega
          have hnl2 : ¬ ((q : Int) < (q : Int)) := by omega
          have HO2 : Hid (Own w1.heap.size wr aq ((putI leaf).length + 8 * j + 8 * q) cq (putI leaf ++ flatL es ++ flatL ps)) := by
            show Own _ _ _ _ _ _
            rw [List.take_of_length_le (by rw [HL2.out]; exact Nat.le_refl _)] at hor
            exact hor
          clear hor
          go_wp2
          go_ret
          exact ⟨_, _, rfl, by rw [← List.append_assoc]; exact HO2.out.mono hbb.size, keepT hbb hbq⟩

end Go.Proofs.YtpdbieoklgdhaaaGreat
