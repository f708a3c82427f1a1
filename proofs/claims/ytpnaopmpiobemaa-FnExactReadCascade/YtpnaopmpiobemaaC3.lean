import Derived.Test.YtpnaopmpiobemaaC2
namespace Go.Proofs.Ytpnaopmpiobemaa
open Go.RowKit

def inRow (bs : List Int) (i x : Int) : Bool := decide (bs.getD (plP i 0 x bs.length).toNat 0 = 1) && decide (bs.getD (plP i 1 x bs.length).toNat 0 = 1)

theorem run_index2 (w : World) (x y : Int) : (Instr.index 79 (.agg #[.int .i64 x, .int .i64 y]) (.int .i64 0)).run Try.prog w = .ok (.int .i64 x) w ∧ (Instr.index 79 (.agg #[.int .i64 x, .int .i64 y]) (.int .i64 1)).run Try.prog w = .ok (.int .i64 y) w := by
  constructor
  · simp [Instr.index, run_underlying Try.underlying79, asIntOf, part, go_sem]
  · simp [Instr.index, run_underlying Try.underlying79, asIntOf, part, go_sem]

set_option maxRecDepth 10000 in
set_option maxHeartbeats 2000000 in
theorem has_any (a : Option Addr) (n c : Nat) (bs : List Int) (i x : Int) (w : World) (h : Row w a n bs) (hn0 : 0 < n) (hn1 : n ≤ 9223372036854775807) (hx : 0 ≤ x ∧ x ≤ 18446744073709551615) (hl : i ≤ 9223372036854775807) :
    Calls Try.prog 39 #[.agg #[.slice a n c], .int .i64 i, .int .u64 x] w fun e w' => e = .returned (.bool (inRow bs i x)) ∧ Below w.heap.size w w' := by
  have hn0' : 0 < (n : Int) := by omega
  have hn1' : (n : Int) ≤ 9223372036854775807 := by omega
  obtain ⟨q0, hq0⟩ := Int.eq_ofNat_of_zero_le (plP_bd i 0 x n hn0').1
  obtain ⟨q1, hq1⟩ := Int.eq_ofNat_of_zero_le (plP_bd i 1 x n hn0').1
  have l0 : q0 < n := by have := (plP_bd i 0 x n hn0').2; omega
  have l1 : q1 < n := by have := (plP_bd i 1 x n hn0').2; omega
  have HIN : Hid (inRow bs i x = (decide (bs.getD q0 0 = 1) && decide (bs.getD q1 0 = 1))) := by show _ = _; unfold inRow; rw [h.len, hq0, hq1]; rfl
  obtain ⟨b, off, ha, hb, hc0⟩ := h.get q0 l0
  obtain ⟨b', off', ha', _, hc1⟩ := h.get q1 l1
  subst ha
  obtain ⟨rfl, rfl⟩ : b = b' ∧ off = off' := by simpa using ha'
  obtain ⟨v0, hv0⟩ : ∃ v, v = bs.getD q0 0 := ⟨_, rfl⟩
  obtain ⟨v1, hv1⟩ : ∃ v, v = bs.getD q1 0 := ⟨_, rfl⟩
  rw [← hv0] at hc0 HIN
  rw [← hv1] at hc1 HIN
  clear hv0 hv1 ha' h
  obtain ⟨wb, hwb⟩ : ∃ wb, wb = w.alloc (.cells #[.slice (some ⟨b, off, none⟩) n c] 54) := ⟨_, rfl⟩
  have hbb : Below w.heap.size w wb := by rw [hwb]; exact (Below.refl _ _).alloc (Nat.le_refl _) _
  have hbx : wb.heap[w.heap.size]? = some (.cells #[.slice (some ⟨b, off, none⟩) n c] 54) := by rw [hwb]; exact heap_alloc_new w _
  have hsz : w.heap.size < wb.heap.size := (Array.getElem?_eq_some_iff.1 hbx).1
  have HWB : Hid (_ = _) := hwb
  have kb : wb.cell? ⟨w.heap.size, 0, none⟩ = some (.slice (some ⟨b, off, none⟩) n c) := (cell_of_row _ _ 0 _ 54 (0, 0) hbx).trans rfl
  clear hwb hbx
  go_enter Try.func39, Try.ntmps39
  go_upto_region 1 with fail
  rw [← HWB.out]
  clear HWB
  go_wp2_with fail
  refine (rowPlaces_any i n x _ hx hl hn0' hn1').mono ?_
  rintro e w1 ⟨rfl, hb1⟩
  rw [hq0, hq1]
  have B1 : Below w.heap.size w w1 := keepT hbb hb1
  have kr : w1.cell? ⟨w.heap.size, 0, none⟩ = some (.slice (some ⟨b, off, none⟩) n c) := (hb1.cell (p := ⟨w.heap.size, 0, none⟩) hsz).trans kb
  have d0 : w1.cell? ⟨b, off + q0, none⟩ = some (.int .u8 v0) := (B1.cell (p := ⟨b, off + q0, none⟩) hb).trans hc0
  have d1 : w1.cell? ⟨b, off + q1, none⟩ = some (.int .u8 v1) := (B1.cell (p := ⟨b, off + q1, none⟩) hb).trans hc1
  have HB1 : Hid (_) := B1
  have hix0 := (run_index2 w1 q0 q1).1
  have hix1 := (run_index2 w1 q0 q1).2
  clear hc0 hc1 kb hb1 hbb B1 hq0 hq1
  go_wp2
  go_loop [15] (fun j => (j = .int .i64 0) ∨ (j = .int .i64 1 ∧ v0 = 1) ∨ (j = .int .i64 2 ∧ v0 = 1 ∧ v1 = 1)) (fun j => (2 - (intOf j)).toNat)
  case atStart => exact .inl rfl
  case round =>
    rcases hrel with rfl | ⟨rfl, rfl⟩ | ⟨rfl, rfl, rfl⟩
    · by_cases e : v0 = 1
      · subst e
        go_wp2
        go_round
        case rel => exact .inr (.inl ⟨rfl, by first | rfl | trivial⟩)
        case measure => simp [intOf]
      · go_wp2
        go_ret
        exact ⟨by rw [HIN.out, decide_eq_false e]; rfl, HB1.out⟩
    · by_cases e : v1 = 1
      · subst e
        go_wp2
        go_round
        case rel => exact .inr (.inr ⟨rfl, by first | rfl | trivial, by first | rfl | trivial⟩)
        case measure => simp [intOf]
      · go_wp2
        go_ret
        exact ⟨by rw [HIN.out, decide_eq_false e]; rfl, HB1.out⟩
    · go_wp2
      go_ret
      exact ⟨by rw [HIN.out]; rfl, HB1.out⟩

set_option maxRecDepth 10000 in
set_option maxHeartbeats 2000000 in
theorem l11In_any (a : Option Addr) (n c : Nat) (bs : List Int) (i x : Int) (w : World) (h : Row w a n bs) (hn0 : 0 < n) (hn1 : n ≤ 9223372036854775807) (hx : 0 ≤ x ∧ x ≤ 18446744073709551615) (hl : i ≤ 9223372036854775807) :
    Calls Try.prog 29 #[.slice a n c, .int .i64 i, .int .u64 x] w fun e w' => e = .returned (.bool (inRow bs i x)) ∧ Below w.heap.size w w' := by
  have hn0' : 0 < (n : Int) := by omega
  have hn1' : (n : Int) ≤ 9223372036854775807 := by omega
  obtain ⟨q0, hq0⟩ := Int.eq_ofNat_of_zero_le (plP_bd i 0 x n hn0').1
  obtain ⟨q1, hq1⟩ := Int.eq_ofNat_of_zero_le (plP_bd i 1 x n hn0').1
  have l0 : q0 < n := by have := (plP_bd i 0 x n hn0').2; omega
  have l1 : q1 < n := by have := (plP_bd i 1 x n hn0').2; omega
  have HIN : Hid (inRow bs i x = (decide (bs.getD q0 0 = 1) && decide (bs.getD q1 0 = 1))) := by show _ = _; unfold inRow; rw [h.len, hq0, hq1]; rfl
  obtain ⟨b, off, ha, hb, hc0⟩ := h.get q0 l0
  obtain ⟨b', off', ha', _, hc1⟩ := h.get q1 l1
  subst ha
  obtain ⟨rfl, rfl⟩ : b = b' ∧ off = off' := by simpa using ha'
  obtain ⟨v0, hv0⟩ : ∃ v, v = bs.getD q0 0 := ⟨_, rfl⟩
  obtain ⟨v1, hv1⟩ : ∃ v, v = bs.getD q1 0 := ⟨_, rfl⟩
  rw [← hv0] at hc0 HIN
  rw [← hv1] at hc1 HIN
  have HQ0 : Hid (_ = _) := hq0
  have HQ1 : Hid (_ = _) := hq1
  clear hv0 hv1 ha' h hq0 hq1
  go_enter Try.func29, Try.ntmps29
  go_wp2_with fail
  refine (l11Place_any i 0 x n _ hx hl (by decide) hn0' hn1').mono ?_
  rintro e w1 ⟨rfl, hb1⟩
  rw [HQ0.out]
  have d0 : w1.cell? ⟨b, off + q0, none⟩ = some (.int .u8 v0) := (hb1.cell (p := ⟨b, off + q0, none⟩) hb).trans hc0
  have hs1 := hb1.size
  by_cases e0 : v0 = 1
  · subst e0
    go_wp2_with fail
    refine (l11Place_any i 1 x n _ hx hl (by decide) hn0' hn1').mono ?_
    rintro e w2 ⟨rfl, hb2⟩
    rw [HQ1.out]
    have B2 := keepT hb1 hb2
    have d1 : w2.cell? ⟨b, off + q1, none⟩ = some (.int .u8 v1) := (B2.cell (p := ⟨b, off + q1, none⟩) hb).trans hc1
    have hs2 := B2.size
    have HB2 : Hid (_) := B2
    clear B2 hb1 hb2 hc0 hc1
    go_wp2
    go_ret
    exact ⟨by rw [HIN.out]; first | rfl | simp, HB2.out⟩
  · go_wp2
    go_ret
    exact ⟨by rw [HIN.out, decide_eq_false e0]; rfl, hb1⟩

end Go.Proofs.Ytpnaopmpiobemaa
