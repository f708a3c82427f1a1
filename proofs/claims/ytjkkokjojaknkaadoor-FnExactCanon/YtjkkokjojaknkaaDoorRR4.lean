import Derived.Test.YtjkkokjojaknkaaDoorRR3
namespace Go.Proofs.YtjkkokjojaknkaaDoor
open Go.RowKit

/-- How many bytes a length has. -/
def lnN (n : Int) : Nat := if n < 128 then 1 else if n < 256 then 2 else if n < 65536 then 3 else if n < 16777216 then 4 else 5
theorem lnN_small (n : Nat) (h : n < 16777216) : (lenL n).length = lnN (n : Int) := by
  unfold lenL lnN
  by_cases h1 : n < 128
  · have e1 : (n : Int) < 128 := by omega
    rw [if_pos h1, if_pos e1]; rfl
  have e1 : ¬ (n : Int) < 128 := by omega
  rw [if_neg h1, if_neg e1]
  by_cases h2 : n < 256
  · have e2 : (n : Int) < 256 := by omega
    rw [if_pos h2, if_pos e2]; rfl
  have e2 : ¬ (n : Int) < 256 := by omega
  rw [if_neg h2, if_neg e2]
  by_cases h3 : n < 65536
  · have e3 : (n : Int) < 65536 := by omega
    rw [if_pos h3, if_pos e3]; rfl
  have e3 : ¬ (n : Int) < 65536 := by omega
  have e4 : (n : Int) < 16777216 := by omega
  rw [if_neg h3, if_neg e3, if_pos e4]
  rfl
theorem eight_big (n : Nat) (h : n < 4294967296) (x0 x1 x2 x3 x4 x5 x6 x7 : Int) (he : [x0, x1, x2, x3, x4, x5, x6, x7] = eight n) :
    x0 = 0 ∧ x1 = 0 ∧ x2 = 0 ∧ x3 = 0 ∧ x4 = (n : Int) / 16777216 ∧ x5 = (n : Int) / 65536 % 256 ∧ x6 = (n : Int) / 256 % 256 ∧ x7 = (n : Int) % 256 := by
  simp only [eight, List.cons.injEq] at he
  omega

set_option maxRecDepth 10000 in
set_option maxHeartbeats 1000000 in
theorem lengthBytes_big (n : Nat) (w : World) (h0 : 16777216 ≤ n) (h : n < 4294967296) :
    Calls Tryd.prog 74 #[.int .i64 n] w fun e w' => ∃ a cap, e = .returned (.slice a 5 cap) ∧ Below w.heap.size w w' := by
  obtain ⟨i0, hi, hz0, hz1, hz2⟩ := info_parts Tryd.info5
  have h1' : ¬ (n : Int) < 128 := by omega
  go_enter Tryd.func74, Tryd.ntmps74
  go_wp2_with fail
  refine (eight_any n _ (by omega)).mono ?_
  rintro e w1 ⟨x0, x1, x2, x3, x4, x5, x6, x7, rfl, he, hb1⟩
  obtain ⟨rfl, rfl, rfl, rfl, h4, h5, h6, h7⟩ := eight_big n h _ _ _ _ _ _ _ _ he
  clear he
  have hs1 := hb1.size
  have hne : (x4 == 0) = false := by simp; omega
  have b4 : 0 ≤ x4 ∧ x4 ≤ 255 := by omega
  have b5 : 0 ≤ x5 ∧ x5 ≤ 255 := by omega
  have b6 : 0 ≤ x6 ∧ x6 ≤ 255 := by omega
  have b7 : 0 ≤ x7 ∧ x7 ≤ 255 := by omega
  have HO : Hid (Own w.heap.size ((w1.alloc (.cells #[.int .u8 0, .int .u8 0, .int .u8 0, .int .u8 0, .int .u8 x4, .int .u8 x5, .int .u8 x6, .int .u8 x7] 86)).alloc (.cells #[.int .u8 132] 5)) (some ⟨w1.heap.size + 1, 0, none⟩) 1 1 [132]) := own_one w.heap.size (w1.alloc (.cells #[.int .u8 0, .int .u8 0, .int .u8 0, .int .u8 0, .int .u8 x4, .int .u8 x5, .int .u8 x6, .int .u8 x7] 86)) _ (by simp) (by simp; omega) 132 (by decide)
  have HR : Hid (Row ((w1.alloc (.cells #[.int .u8 0, .int .u8 0, .int .u8 0, .int .u8 0, .int .u8 x4, .int .u8 x5, .int .u8 x6, .int .u8 x7] 86)).alloc (.cells #[.int .u8 132] 5)) (some ⟨w1.heap.size, 4, none⟩) 4 [x4, x5, x6, x7]) := row_tail w1 (0) (0) (0) (0) (x4) (x5) (x6) (x7) 86 (.cells #[.int .u8 132] 5) 4 4 rfl [x4, x5, x6, x7] rfl (fun k => by match k with | 0 => simpa using b4 | 1 => simpa using b5 | 2 => simpa using b6 | 3 => simpa using b7 | k + 4 => simp)
  have hB2 : Below w.heap.size w ((w1.alloc (.cells #[.int .u8 0, .int .u8 0, .int .u8 0, .int .u8 0, .int .u8 x4, .int .u8 x5, .int .u8 x6, .int .u8 x7] 86)).alloc (.cells #[.int .u8 132] 5)) := (hb1.alloc hs1 _).alloc (by simp; omega) _
  clear h4 h5 h6 h7
  go_wp2
  refine wp_loop_rounds 9 ?_
  iterate 4 (rw [rounds_succ]; go_wp2)
  rw [rounds_succ]
  go_wp2_with (at_builtin; refine wpList_append_row _ rfl (.tmp 22) (.tmp 24) 22 rfl w.heap.size i0 Tryd.underlying22 hi hz0 hz1 hz2 _ _ _ rfl HO.out.row _ 4 4 [x4, x5, x6, x7] rfl HR.out (by simp) (by omega) (by simp; omega) ?_; intro v3 w3 hv3 hg3)
  obtain ⟨a3, c3, rfl, ho3⟩ := own_appended (xs := [132]) (ys := [x4, x5, x6, x7]) hv3 HO.out.byte HR.out.byte
  have hb3 : Below w.heap.size w w3 := below_appended hB2 (by simp; omega) HO.out.row hg3
  go_ret
  exact ⟨a3, c3, rfl, hb3⟩

theorem lengthBytes_len (n : Int) (w : World) (h0 : 0 ≤ n) (h : n < 4294967296) :
    Calls Tryd.prog 74 #[.int .i64 n] w fun e w' => ∃ a cap, e = .returned (.slice a (lnN n) cap) ∧ Below w.heap.size w w' := by
  obtain ⟨k, rfl⟩ := Int.eq_ofNat_of_zero_le h0
  by_cases h1 : k < 16777216
  · refine (lengthBytes_any k w h1).mono ?_
    rintro e w' ⟨a, cap, rfl, _, hb⟩
    exact ⟨a, cap, by rw [lnN_small k h1], hb⟩
  · refine (lengthBytes_big k w (by omega) (by omega)).mono ?_
    rintro e w' ⟨a, cap, rfl, hb⟩
    refine ⟨a, cap, ?_, hb⟩
    have : lnN (k : Int) = 5 := by unfold lnN; rw [if_neg (by omega), if_neg (by omega), if_neg (by omega), if_neg (by omega)]
    rw [this]

theorem bigL_snoc (xs : List Int) (x : Int) : ∀ a, bigL (xs ++ [x]) a = bigL xs a * 256 + x := by
  induction xs with
  | nil => intro a; rfl
  | cons y ys ih => intro a; exact ih _
theorem digR_zero (bs : List Int) (q : Nat) : digR bs q 0 = 0 := by unfold digR; rw [List.take_zero]; rfl
theorem digR_succ (bs : List Int) (q k : Nat) (h : q + k < bs.length) : digR bs q (k + 1) = digR bs q k * 256 + bs.getD (q + k) 0 := by
  unfold digR
  have e : (bs.drop q).take (k + 1) = (bs.drop q).take k ++ [bs.getD (q + k) 0] := by
    rw [List.take_add_one, List.getElem?_drop]
    simp [h]
  rw [e, bigL_snoc]
theorem digR_first (bs : List Int) (q : Nat) (hb : ∀ i, 0 ≤ bs.getD i 0 ∧ bs.getD i 0 ≤ 255) : ∀ k, q + k < bs.length → bs.getD q 0 * 256 ^ k ≤ digR bs q (k + 1) ∧ digR bs q (k + 1) < (bs.getD q 0 + 1) * 256 ^ k := by
  intro k
  induction k with
  | zero => intro h; rw [digR_succ bs q 0 h, digR_zero]; simp only [Int.pow_zero, Nat.add_zero]; omega
  | succ k ih =>
    intro h
    have h1 := ih (by omega)
    have h2 := hb (q + (k + 1))
    rw [digR_succ bs q (k + 1) h]
    have e1 : bs.getD q 0 * 256 ^ (k + 1) = bs.getD q 0 * 256 ^ k * 256 := by rw [Int.pow_succ, Int.mul_assoc]
    have e2 : (bs.getD q 0 + 1) * 256 ^ (k + 1) = (bs.getD q 0 + 1) * 256 ^ k * 256 := by rw [Int.pow_succ, Int.mul_assoc]
    rw [e1, e2]
    omega
theorem digR_bounds (bs : List Int) (q : Nat) (hb : ∀ i, 0 ≤ bs.getD i 0 ∧ bs.getD i 0 ≤ 255) : ∀ k, q + k ≤ bs.length → 0 ≤ digR bs q k ∧ digR bs q k + 1 ≤ 256 ^ k := by
  intro k
  induction k with
  | zero => intro _; rw [digR_zero]; decide
  | succ k ih =>
    intro h
    have h1 := ih (by omega)
    have h2 := hb (q + k)
    rw [digR_succ bs q k (by omega), Int.pow_succ]
    omega
/-- A length in fewer bytes than it has. -/
theorem lnN_iff (bs : List Int) (q m : Nat) (hb : ∀ i, 0 ≤ bs.getD i 0 ∧ bs.getD i 0 ≤ 255) (h1 : 1 ≤ m) (h4 : m ≤ 4) (hl : q + m ≤ bs.length) : lnN (digR bs q m) < 1 + m ↔ (bs.getD q 0 = 0 ∨ digR bs q m < 128) := by
  obtain ⟨k, rfl⟩ : ∃ k, m = k + 1 := ⟨m - 1, by omega⟩
  have h2 := digR_first bs q hb k (by omega)
  have h3 := hb q
  generalize bs.getD q 0 = d at *
  generalize digR bs q (k + 1) = n at *
  have hk : k = 0 ∨ k = 1 ∨ k = 2 ∨ k = 3 := by omega
  have p1 : (256 : Int) ^ 1 = 256 := by decide
  have p2 : (256 : Int) ^ 2 = 65536 := by decide
  have p3 : (256 : Int) ^ 3 = 16777216 := by decide
  have p0 : (256 : Int) ^ 0 = 1 := by decide
  unfold lnN
  rcases hk with rfl | rfl | rfl | rfl
  · rw [p0] at h2; repeat (first | omega | split)
  · rw [p1] at h2; repeat (first | omega | split)
  · rw [p2] at h2; repeat (first | omega | split)
  · rw [p3] at h2; repeat (first | omega | split)

end Go.Proofs.YtjkkokjojaknkaaDoor
