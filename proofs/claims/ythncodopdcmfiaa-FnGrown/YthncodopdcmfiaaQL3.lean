import Derived.Test.YthncodopdcmfiaaQL2
namespace Go.Proofs.Ythncodopdcmfiaa
open Go.RowKit Go.Sort

set_option maxRecDepth 10000 in
set_option maxHeartbeats 2000000 in
theorem pairedUp_any (B g n c : Nat) (zs : List Int) (w : World) (h : OwnU B w (some ⟨g, 0, none⟩) n c zs) (hn : n ≤ 1000) (hn0 : 0 < n) (hnc : n ≤ c) :
    Calls Try.prog 55 #[.slice (some ⟨g, 0, none⟩) n c] w fun e w' => e = .returned (.slice (some ⟨g, 0, none⟩) ((n + 1) / 2 : Nat) c) ∧ OwnU B w' (some ⟨g, 0, none⟩) ((n + 1) / 2) c (pairUp zs) ∧ Below B w w' := by
  obtain ⟨m, hm⟩ : ∃ m, m = n / 2 := ⟨_, rfl⟩
  have HM : Hid (m = n / 2) := hm
  have hmi : (n : Int) / 2 = (m : Int) := by omega
  clear hm
  have HL : Hid (zs.length = n) := h.len
  have HRG : Hid (∀ k, U64 (zs.getD k 0)) := h.rng
  have H0 : Hid (OwnU B w (some ⟨g, 0, none⟩) n c (mixU zs 0)) := by rw [mixU_zero]; exact h
  have hgB : B ≤ g := (h.shape hn0).elim fun x hx => by have := hx.1; simp at this; omega
  clear h
  have hm5 : m ≤ 500 := by have := HM.out; omega
  go_enter Try.func55, Try.ntmps55
  go_wp2
  go_loopw [9] (fun i wr => ∃ k : Nat, k ≤ m ∧ i = .int .i64 k ∧ Hid (OwnU B wr (some ⟨g, 0, none⟩) n c (mixU zs k)) ∧ Below B w wr) (fun i _ => m - (intOf i).toNat)
  case atStart => exact ⟨0, Nat.zero_le _, rfl, H0, Below.refl _ _⟩
  case round =>
    obtain ⟨k, hk, rfl, HO, hbr⟩ := hrel
    by_cases hlt : k < m
    · have h2n : 2 * k + 1 < n := by have := HM.out; omega
      have hgs : g < wr.heap.size := (HO.out.shape hn0).elim fun x hx => by have := hx.1; simp at this; omega
      obtain ⟨x, hx⟩ : ∃ x, x = zs.getD (2 * k) 0 := ⟨_, rfl⟩
      obtain ⟨y, hy⟩ : ∃ y, y = zs.getD (2 * k + 1) 0 := ⟨_, rfl⟩
      have hxb := HRG.out (2 * k)
      have hyb := HRG.out (2 * k + 1)
      rw [← hx] at hxb
      rw [← hy] at hyb
      have hk2 : k ≤ (zs.length + 1) / 2 := by rw [HL.out]; have := HM.out; omega
      have q0 : wr.cell? ⟨g, 2 * k, none⟩ = some (.int .u64 x) := by
        obtain ⟨b, off, e, _, hc⟩ := HO.out.toRow.get (2 * k) (by omega)
        simp only [Option.some.injEq, Addr.mk.injEq, and_true] at e
        obtain ⟨rfl, rfl⟩ := e
        rw [Nat.zero_add] at hc
        rw [hc, mixU_get zs k _ hk2 (by omega), hx]
      have q1 : wr.cell? ⟨g, 2 * k + 1, none⟩ = some (.int .u64 y) := by
        obtain ⟨b, off, e, _, hc⟩ := HO.out.toRow.get (2 * k + 1) (by omega)
        simp only [Option.some.injEq, Addr.mk.injEq, and_true] at e
        obtain ⟨rfl, rfl⟩ := e
        rw [Nat.zero_add] at hc
        rw [hc, mixU_get zs k _ hk2 (by omega), hy]
      have HV : Hid (pairN x y = (pairUp zs).getD k 0) := by show _ = _; rw [pairUp_get zs k (by rw [HL.out, ← HM.out]; exact hlt), hx, hy]
      have i2 : (k : Int) < (m : Int) := by omega
      have i3 : 2 * (k : Int) < (n : Int) := by omega
      have i4 : 2 * (k : Int) + 1 < (n : Int) := by omega
      have i5 : (k : Int) < (n : Int) := by omega
      have t1 : (2 * (k : Int)).toNat = 2 * k := by omega
      have t2 : (2 * (k : Int) + 1).toNat = 2 * k + 1 := by omega
      have u1 : IntKind.i64.wrap (2 * (k : Int)) = 2 * (k : Int) := by rw [IntKind.wrap_i64]; omega
      have u2 : IntKind.i64.wrap (2 * (k : Int) + 1) = 2 * (k : Int) + 1 := by rw [IntKind.wrap_i64]; omega
      have u3 : 0 ≤ 2 * (k : Int) := by omega
      have u4 : 0 ≤ 2 * (k : Int) + 1 := by omega
      clear hx hy
      have HST2 : Hid (∀ w7, Below wr.heap.size wr w7 → OwnU B w7 (some ⟨g, 0, none⟩) n c (mixU zs k)) := fun w7 h7 => HO.out.kept h7
      have hal : Below wr.heap.size wr wr.drew := (Below.refl _ _).drew
      have HBS : Hid (B ≤ wr.heap.size) := by show _ ≤ _; omega
      go_wp2_with fail
      go_region_with ((go_at_call 63; refine (pairOf_any x y _ hxb hyb).mono ?_; rintro e w3 ⟨rfl, hb3⟩; rw [HV.out]; have hb37 := keepT hal hb3; have hor := HST2.out _ hb37; have f0 : w3.frozen? ⟨g, k, none⟩ = false := hor.row.frozenAt _; have hvl : ((mixU zs k).map (Value.int .u64)).length = n * 1 := hor.row.1; obtain ⟨y0, hy0⟩ : ∃ y, w3.cell? ⟨g, k, none⟩ = some y := ⟨_, (hor.row.cellAt _ (by omega)).trans (List.getElem?_eq_getElem (by omega))⟩))
      all_goals
        have hs := (hor.row.stored k (.int .u64 ((pairUp zs).getD k 0))).1
        rw [← List.map_set, mixU_put zs k (by rw [HL.out]; have := HM.out; omega) (by rw [HL.out]; omega)] at hs
        have HN : Hid (OwnU B (w3.setCell ⟨g, k, none⟩ (.int .u64 ((pairUp zs).getD k 0))) (some ⟨g, 0, none⟩) n c (mixU zs (k + 1))) := ⟨hs, mixU_bd zs HRG.out _⟩
        have HBN : Hid (Below B w (w3.setCell ⟨g, k, none⟩ (.int .u64 ((pairUp zs).getD k 0)))) := (hbr.trans (hb37.mono HBS.out)).setCell hgB _
        clear hs hor hb3 hb37 hbr HO hvl HST2 hal
        go_wp2
        go_roundw
        case rel => exact ⟨k + 1, by omega, by go_num, HN, HBN.out⟩
        case measure => simp [intOf]; omega
    · obtain rfl : k = m := by omega
      by_cases hodd : n % 2 = 1
      · have hoi : (n : Int) % 2 = 1 := by omega
        have i5 : (k : Int) < (n : Int) := by have := HM.out; omega
        have i6 : (n : Int) - 1 < (n : Int) := by omega
        have i7 : 0 ≤ (n : Int) - 1 := by omega
        have t1 : ((n : Int) - 1).toNat = n - 1 := by omega
        have hkn : k ≤ n - 1 := by have := HM.out; omega
        have hk2 : k ≤ (zs.length + 1) / 2 := by rw [HL.out]; have := HM.out; omega
        obtain ⟨x, hx⟩ : ∃ x, x = (pairUp zs).getD k 0 := ⟨_, rfl⟩
        have q0 : wr.cell? ⟨g, n - 1, none⟩ = some (.int .u64 x) := by
          obtain ⟨b, off, e, _, hc⟩ := HO.out.toRow.get (n - 1) (by omega)
          simp only [Option.some.injEq, Addr.mk.injEq, and_true] at e
          obtain ⟨rfl, rfl⟩ := e
          rw [Nat.zero_add] at hc
          rw [hc, mixU_get zs k _ hk2 (by omega), hx]
          have := pairUp_last zs (by rw [HL.out]; exact hodd)
          rw [HL.out, ← HM.out] at this
          rw [this]
        have hor := HO.out
        have f0 : wr.frozen? ⟨g, k, none⟩ = false := hor.row.frozenAt _
        have hvl : ((mixU zs k).map (Value.int .u64)).length = n * 1 := hor.row.1
        obtain ⟨y0, hy0⟩ : ∃ y, wr.cell? ⟨g, k, none⟩ = some y := ⟨_, (hor.row.cellAt _ (by omega)).trans (List.getElem?_eq_getElem (by omega))⟩
        have hs := (hor.row.stored k (.int .u64 ((pairUp zs).getD k 0))).1
        rw [← List.map_set, mixU_put zs k (by rw [HL.out]; have := HM.out; omega) (by rw [HL.out]; omega), ← hx] at hs
        have HN : Hid (OwnU B (wr.setCell ⟨g, k, none⟩ (.int .u64 x)) (some ⟨g, 0, none⟩) ((n + 1) / 2) c (pairUp zs)) := by
          have hh : OwnU B (wr.setCell ⟨g, k, none⟩ (.int .u64 x)) (some ⟨g, 0, none⟩) n c (mixU zs (k + 1)) := ⟨hs, mixU_bd zs HRG.out _⟩
          have := hh.take ((n + 1) / 2) (by omega) hn0
          have e := mixU_all zs
          rw [HL.out, show (n + 1) / 2 = k + 1 by have := HM.out; omega] at e
          rw [show (n + 1) / 2 = k + 1 by have := HM.out; omega, e] at this
          rw [show (n + 1) / 2 = k + 1 by have := HM.out; omega]
          exact this
        have HBN : Hid (Below B w (wr.setCell ⟨g, k, none⟩ (.int .u64 x))) := hbr.setCell hgB _
        have HE : Hid ((n + 1) / 2 = k + 1) := by show _ = _; have := HM.out; omega
        have hc1 : (k : Int) + 1 ≤ (c : Int) := by omega
        have t3 : ((k : Int) + 1).toNat = k + 1 := by omega
        clear hs hor hvl HO hx H0
        go_wp2
        go_ret
        exact ⟨by rw [HE.out]; rfl, HN.out, HBN.out⟩
      · have hoi : (n : Int) % 2 = 0 := by omega
        have hc1 : (k : Int) ≤ (c : Int) := by have := HM.out; omega
        have HN : Hid (OwnU B wr (some ⟨g, 0, none⟩) ((n + 1) / 2) c (pairUp zs)) := by
          have := HO.out.take ((n + 1) / 2) (by omega) hn0
          have e := mixU_all zs
          rw [HL.out, show (n + 1) / 2 = k by have := HM.out; omega] at e
          rw [show (n + 1) / 2 = k by have := HM.out; omega, e] at this
          rw [show (n + 1) / 2 = k by have := HM.out; omega]
          exact this
        have HE : Hid ((n + 1) / 2 = k) := by show _ = _; have := HM.out; omega
        clear HO H0
        go_wp2
        go_ret
        exact ⟨by rw [HE.out]; rfl, HN.out, hbr⟩

end Go.Proofs.Ythncodopdcmfiaa
