import Derived.Test.YtlcojjcgaibbiaaGH1
namespace Go.Proofs.Ytlcojjcgaibbiaa
open Go.RowKit

theorem take_snoc (l : List Int) (k : Nat) (h : k < l.length) : l.take (k + 1) = l.take k ++ [l.getD k 0] := by
  have e : l.getD k 0 = l[k] := by simp [h]
  rw [List.take_succ_eq_append_getElem h, e]
def eightI (v : Int) : List Int := eight v.toNat
theorem eightI_len (v : Int) : (eightI v).length = 8 := rfl
theorem eightI_byte (v : Int) : ∀ k, 0 ≤ (eightI v).getD k 0 ∧ (eightI v).getD k 0 ≤ 255 := eight_byte _

set_option maxRecDepth 10000 in
set_option maxHeartbeats 1000000 in
theorem digestBytes_any (v : Int) (w : World) (h0 : 0 ≤ v) (h1 : v ≤ 18446744073709551615) :
    Calls Try.prog 63 #[.int .u64 v] w fun e w' => ∃ g, e = .returned (.slice (some ⟨g, 0, none⟩) 8 8) ∧ Row w' (some ⟨g, 0, none⟩) 8 (eightI v) ∧ (∃ cs fr, w'.heap[g]? = some (.cells cs 94 fr)) ∧ Below w.heap.size w w' := by
  obtain ⟨n, rfl⟩ := Int.eq_ofNat_of_zero_le h0
  go_enter Try.func63, Try.ntmps63
  go_wp2_with fail
  refine (eight_any n _ h1).mono ?_
  rintro e w1 ⟨x0, x1, x2, x3, x4, x5, x6, x7, rfl, hx, hb1⟩
  have HX : Hid (_ = _) := hx
  have HB1 : Hid (_) := hb1
  clear hx hb1
  go_wp2
  go_ret
  refine ⟨w1.heap.size, rfl, ⟨eightI_len _, fun k hk => ⟨w1.heap.size, 0, rfl, by simp, ?_⟩, eightI_byte _⟩, ⟨_, _, heap_alloc_new w1 _⟩, HB1.out.alloc HB1.out.size _⟩
  rw [Nat.zero_add, cell_of_row _ w1.heap.size k _ 94 _ (heap_alloc_new w1 _)]
  have e : eightI (n : Int) = [x0, x1, x2, x3, x4, x5, x6, x7] := by rw [HX.out]; rfl
  rw [e]
  match k, hk with
  | 0, _ | 1, _ | 2, _ | 3, _ | 4, _ | 5, _ | 6, _ | 7, _ => rfl

theorem eight_at (n q : Nat) (h : q ≤ 7) : (n : Int) / 2 ^ (8 * q) % 256 = (eightI (n : Int)).getD (7 - q) 0 := by
  have e : eightI (n : Int) = eight n := rfl
  rw [e]
  match q, h with
  | 0, _ => simp [eight]
  | 1, _ => simp [eight]
  | 2, _ => simp [eight]
  | 3, _ => simp [eight]
  | 4, _ => simp [eight]
  | 5, _ => simp [eight]
  | 6, _ => simp [eight]
  | 7, _ => simp [eight]

set_option maxRecDepth 10000 in
set_option maxHeartbeats 1000000 in
theorem l1Eight_any (v : Int) (w : World) (h0 : 0 ≤ v) (h1 : v ≤ 18446744073709551615) :
    Calls Try.prog 55 #[.int .u64 v] w fun e w' => ∃ a cap, e = .returned (.slice a 8 cap) ∧ Own w.heap.size w' a 8 cap (eightI v) ∧ Below w.heap.size w w' := by
  obtain ⟨i0, hi, hz0, hz1, hz2⟩ := info_parts Try.info5
  obtain ⟨n, rfl⟩ := Int.eq_ofNat_of_zero_le h0
  have hoe := own_empty w
  have hbe : Below w.heap.size w (w.alloc (.cells #[] 5)) := (Below.refl _ _).alloc (Nat.le_refl _) _
  go_enter Try.func55, Try.ntmps55
  go_wp2
  go_loopw [3, 4] (fun o i wr => ∃ (a : Option Addr) (q len cap : Nat), q ≤ 8 ∧ len = 8 - q ∧ i = .int .i64 ((q : Int) - 1) ∧ o = .slice a len cap ∧ Own w.heap.size wr a len cap ((eightI (n : Int)).take (8 - q)) ∧ Below w.heap.size w wr) (fun _ i _ => ((intOf i) + 1).toNat)
  case atStart => exact ⟨_, 8, 0, 0, Nat.le_refl _, rfl, rfl, rfl, hoe, hbe⟩
  case round =>
    obtain ⟨a, q, len, cap, hq, hle, rfl, rfl, hor, hbr⟩ := hrel
    have HLe : Hid (len = 8 - q) := hle
    clear hle
    rcases q with _ | q
    · go_wp2
      go_ret
      obtain rfl : len = 8 := HLe.out
      exact ⟨_, _, rfl, hor, hbr⟩
    · have e1 : ((q + 1 : Nat) : Int) - 1 = (q : Int) := by omega
      rw [e1]
      clear e1
      have hl9 : len ≤ 9 := by have := HLe.out; omega
      have hq7 : q ≤ 7 := by omega
      have hws : w.heap.size ≤ wr.heap.size := hbr.size
      have HE : Hid (_ = _) := eight_at n q hq7
      go_wp2_with (at_builtin; go_loud (refine wpList_append_own _ rfl _ _ 22 rfl w.heap.size 5 i0 (.int .u8 0) 1 1 Try.underlying22 hi hz0 hz1 hz2 rfl (by decide) _ _ _ rfl (hor.row.alloc _) ⟨wr.heap.size, 0, none⟩ 1 1 [_] rfl rfl (cell_one_new _ _ _) (by intro u hu; simp at hu; subst hu; rfl) (by unfold maxLen; omega) (by omega) (by simp; omega) ?_); intro v' w1 hown' hgrow' _)
      have hb1 : Below w.heap.size w w1 := below_appended (hbr.alloc hws _) (by simp; omega) (hor.row.alloc _) hgrow'
      rw [HE.out] at hown'
      obtain ⟨a', cap', rfl, ho⟩ := own_appended (ys := [(eightI (n : Int)).getD (7 - q) 0]) hown' hor.byte (by simpa using snoc_byte (xs := []) (by simp) _ (eightI_byte (n : Int) (7 - q)))
      have e2 : (eightI (n : Int)).take (8 - (q + 1)) ++ [(eightI (n : Int)).getD (7 - q) 0] = (eightI (n : Int)).take (8 - q) := by
        rw [show 8 - q = 7 - q + 1 by omega, show 8 - (q + 1) = 7 - q by omega, take_snoc _ _ (by rw [eightI_len]; omega)]
      rw [e2] at ho
      go_roundw
      case rel => exact ⟨a', q, len + 1, cap', by omega, by have := HLe.out; omega, rfl, rfl, ho, hb1⟩
      case measure => simp [intOf]

end Go.Proofs.Ytlcojjcgaibbiaa
