import Derived.Test.YthncodopdcmfiaaTS3
namespace Go.Proofs.Ythncodopdcmfiaa
open Go.RowKit

def prW : List Int := [112, 97, 105, 114]
theorem prW_byte : ∀ k, 0 ≤ prW.getD k 0 ∧ prW.getD k 0 ≤ 255 := bytes_of_all (by decide)
/-- The pair of two digests. -/
def pairN (x y : Int) : Int := hashD prW [x, y]
theorem pairN_bd (x y : Int) : U64 (pairN x y) := hashD_bd _ _
theorem rowU_two (w : World) (x y : Int) (hx : U64 x) (hy : U64 y) : RowU (w.alloc (.cells #[.int .u64 x, .int .u64 y] 27)) (some ⟨w.heap.size, 0, none⟩) 2 [x, y] := by
  refine ⟨rfl, fun k hk => ⟨w.heap.size, 0, rfl, by simp, ?_⟩, fun k => ?_⟩
  · rw [Nat.zero_add, cell_of_row _ w.heap.size k _ 27 _ (heap_alloc_new w _)]
    match k, hk with
    | 0, _ => rfl
    | 1, _ => rfl
  · match k with
    | 0 => exact hx
    | 1 => exact hy
    | k + 2 => simp [U64]

set_option maxRecDepth 10000 in
set_option maxHeartbeats 1000000 in
theorem l15Pair_any (x y : Int) (w : World) (hx : U64 x) (hy : U64 y) :
    Calls Try.prog 57 #[.int .u64 x, .int .u64 y] w fun e w' => e = .returned (.int .u64 (pairN x y)) ∧ Below w.heap.size w w' := by
  have HT : Hid (total [prW, eightI x, eightI y] ≤ 2097152) := by show _ ≤ _; rw [show [prW, eightI x, eightI y] = prW :: [x, y].map eightI from rfl, total_parts]; show 4 + _ ≤ _; simp
  have hcv := Lib.run_convert_bytes_const (P := Try.prog) w 22 5 #[.int .u8 112, .int .u8 97, .int .u8 105, .int .u8 114] 4 4 Try.underlying22 Try.underlying5
  have hrw : Row (w.alloc (.cells #[.int .u8 112, .int .u8 97, .int .u8 105, .int .u8 114] 5 (4, 5))) (some ⟨w.heap.size, 0, none⟩) 4 prW := row_word w prW (4, 5) prW_byte
  have hb0 : Below w.heap.size w (w.alloc (.cells #[.int .u8 112, .int .u8 97, .int .u8 105, .int .u8 114] 5 (4, 5))) := (Below.refl _ _).alloc (Nat.le_refl _) _
  go_enter Try.func57, Try.ntmps57
  go_wp2_with fail
  clear hcv
  obtain ⟨w0, hw0⟩ : ∃ w0, w0 = w.alloc (.cells #[.int .u8 112, .int .u8 97, .int .u8 105, .int .u8 114] 5 (4, 5)) := ⟨_, rfl⟩
  rw [← hw0] at hrw hb0 ⊢
  clear hw0
  refine (l1Eight_any x _ hx.1 hx.2).mono ?_
  rintro e w1 ⟨a1, c1, rfl, ho1, hb1⟩
  go_wp2_with fail
  refine (l1Eight_any y _ hy.1 hy.2).mono ?_
  rintro e w2 ⟨a2, c2, rfl, ho2, hb2⟩
  have B2 : Below w0.heap.size w0 w2 := keepT hb1 hb2
  have B2' : Below w.heap.size w w2 := keepT hb0 B2
  have HRS : Hid (Rows2 (w2.alloc (.cells #[.slice (some ⟨w.heap.size, 0, none⟩) 4 4, .slice a1 8 c1, .slice a2 8 c2] 22)) (some ⟨w2.heap.size, 0, none⟩) 3 [prW, eightI x, eightI y]) := by
    refine rows2_lit w2 [(some ⟨w.heap.size, 0, none⟩, 4, 4, prW), (a1, 8, c1, eightI x), (a2, 8, c2, eightI y)] 22 ?_
    intro p hp
    simp only [List.mem_cons, List.not_mem_nil, or_false] at hp
    rcases hp with rfl | rfl | rfl
    · exact ⟨hrw.kept B2, fun h => by cases h⟩
    · exact ⟨(ho1.kept hb2).toRow, ho1.nil⟩
    · exact ⟨ho2.toRow, ho2.nil⟩
  have B3 : Below w.heap.size w (w2.alloc (.cells #[.slice (some ⟨w.heap.size, 0, none⟩) 4 4, .slice a1 8 c1, .slice a2 8 c2] 22)) := B2'.alloc B2'.size _
  clear ho1 ho2 hrw
  go_wp2_with fail
  refine (specHashAll_any _ 3 3 [prW, eightI x, eightI y] _ HRS.out (by decide) HT.out).mono ?_
  rintro e w3 ⟨rfl, hb3⟩
  go_wp2
  go_ret
  exact ⟨rfl, keepT B3 hb3⟩

set_option maxRecDepth 10000 in
set_option maxHeartbeats 1000000 in
theorem pairOf_any (x y : Int) (w : World) (hx : U64 x) (hy : U64 y) :
    Calls Try.prog 63 #[.int .u64 x, .int .u64 y] w fun e w' => e = .returned (.int .u64 (pairN x y)) ∧ Below w.heap.size w w' := by
  have HND : Hid (hashD (strL ⟨#[112, 97, 105, 114]⟩) [x, y] = pairN x y) := by show _ = _; rw [show strL ⟨#[112, 97, 105, 114]⟩ = prW by decide]; rfl
  have hbb : Below w.heap.size w (w.alloc (.cells #[.int .u64 x, .int .u64 y] 27)) := (Below.refl _ _).alloc (Nat.le_refl _) _
  go_enter Try.func63, Try.ntmps63
  go_wp2_with fail
  refine (hashDigests_any _ _ 2 2 [x, y] _ (rowU_two w x y hx hy) (by decide) (by decide)).mono ?_
  rintro e w3 ⟨rfl, hb3⟩
  rw [HND.out]
  go_wp2
  go_ret
  exact ⟨rfl, keepT hbb hb3⟩

/-- The greatest power of two below n. -/
def hk (n : Nat) : Nat := 2 ^ Nat.log2 (n - 1)
theorem hk_pos (n : Nat) : 0 < hk n := Nat.pow_pos (by decide)
theorem hk_lt {n : Nat} (h : 2 ≤ n) : hk n < n := by
  have := Nat.log2_self_le (n := n - 1) (by omega)
  unfold hk; omega
theorem hk_ge (n : Nat) : n ≤ 2 * hk n := by
  have h : n - 1 < 2 ^ (Nat.log2 (n - 1) + 1) := Nat.lt_log2_self
  rw [Nat.pow_succ] at h
  unfold hk; omega
theorem pow_uniq {a b n : Nat} (ha : 2 ^ a < n) (ha2 : n ≤ 2 * 2 ^ a) (hb : 2 ^ b < n) (hb2 : n ≤ 2 * 2 ^ b) : a = b := by
  rcases Nat.lt_trichotomy a b with h | h | h
  · have := Nat.pow_le_pow_right (n := 2) (by decide) (show a + 1 ≤ b by omega)
    rw [Nat.pow_succ] at this
    omega
  · exact h
  · have := Nat.pow_le_pow_right (n := 2) (by decide) (show b + 1 ≤ a by omega)
    rw [Nat.pow_succ] at this
    omega
theorem hk_of {n k : Nat} (hp : ∃ j, k = 2 ^ j) (h1 : k = 1 ∨ k < n) (h2 : n ≤ 2 * k) : hk n = k := by
  obtain ⟨j, rfl⟩ := hp
  rcases Nat.lt_or_ge n 2 with hn | hn
  · have e : n - 1 = 0 := by omega
    have hp := Nat.pow_pos (n := j) (show 0 < 2 by decide)
    unfold hk
    rw [e]
    have : 2 ^ j = 1 := by omega
    rw [this]; rfl
  · have hl := hk_lt hn
    have hg := hk_ge n
    unfold hk at hl hg ⊢
    rw [pow_uniq hl hg (by rcases h1 with h | h <;> omega) h2]
theorem hk_pow (n : Nat) : ∃ j, hk n = 2 ^ j := ⟨_, rfl⟩
theorem hk_even {n : Nat} (h : 3 ≤ n) : hk n % 2 = 0 := by
  obtain ⟨j, hj⟩ := hk_pow n
  have hg := hk_ge n
  cases j with
  | zero => rw [hj] at hg; simp at hg; omega
  | succ j => rw [hj, Nat.pow_succ]; omega
theorem hk_half {n : Nat} (h : 3 ≤ n) : hk ((n + 1) / 2) = hk n / 2 := by
  obtain ⟨j, hj⟩ := hk_pow n
  have hg := hk_ge n
  have hl := hk_lt (show 2 ≤ n by omega)
  have he := hk_even h
  refine hk_of ?_ (.inr (by omega)) (by omega)
  cases j with
  | zero => rw [hj] at he; simp at he
  | succ j => exact ⟨j, by rw [hj, Nat.pow_succ]; omega⟩
theorem hk_two : hk 2 = 1 := rfl

set_option maxRecDepth 10000 in
set_option maxHeartbeats 1000000 in
theorem firstPart_any (n : Nat) (w : World) (hn : n ≤ 1000000) :
    Calls Try.prog 58 #[.int .i64 n] w fun e w' => e = .returned (.int .i64 (hk n : Nat)) ∧ w' = w := by
  have HN : Hid (n ≤ 1000000) := hn
  go_enter Try.func58, Try.ntmps58
  go_wp2
  go_loop [3] (fun kk => ∃ k : Nat, kk = .int .i64 k ∧ 0 < k ∧ k ≤ 1000000 ∧ Hid (∃ j, k = 2 ^ j) ∧ Hid (k = 1 ∨ k < n)) (fun kk => n - (intOf kk).toNat)
  case atStart => exact ⟨1, rfl, by decide, by decide, ⟨0, rfl⟩, .inl rfl⟩
  case round =>
    obtain ⟨k, rfl, h0, h1, HJ, HK⟩ := hrel
    by_cases hlt : 2 * k < n
    · have hlti : 2 * (k : Int) < (n : Int) := by omega
      go_wp2
      go_round
      case rel => exact ⟨k * 2, by go_num, by omega, by have := HN.out; omega, by obtain ⟨j, hj⟩ := HJ.out; exact ⟨j + 1, by rw [hj, Nat.pow_succ]⟩, .inr (by omega)⟩
      case measure => simp [intOf]; omega
    · have hlti : ¬ 2 * (k : Int) < (n : Int) := by omega
      have HE : Hid (hk n = k) := hk_of HJ.out HK.out (by omega)
      go_wp2
      go_ret
      exact ⟨by rw [HE.out]; rfl, rfl⟩

set_option maxRecDepth 10000 in
set_option maxHeartbeats 1000000 in
theorem l15Half_any (n : Nat) (w : World) (hn : n ≤ 1000000) :
    Calls Try.prog 56 #[.int .i64 n] w fun e w' => e = .returned (.int .i64 (hk n : Nat)) ∧ w' = w := by
  have HN : Hid (n ≤ 1000000) := hn
  go_enter Try.func56, Try.ntmps56
  go_wp2
  go_loop [3] (fun kk => ∃ k : Nat, kk = .int .i64 k ∧ 0 < k ∧ k ≤ 1000000 ∧ Hid (∃ j, k = 2 ^ j) ∧ Hid (k = 1 ∨ k < n)) (fun kk => n - (intOf kk).toNat)
  case atStart => exact ⟨1, rfl, by decide, by decide, ⟨0, rfl⟩, .inl rfl⟩
  case round =>
    obtain ⟨k, rfl, h0, h1, HJ, HK⟩ := hrel
    by_cases hlt : 2 * k < n
    · have hlti : 2 * (k : Int) < (n : Int) := by omega
      go_wp2
      go_round
      case rel => exact ⟨2 * k, by go_num, by omega, by have := HN.out; omega, by obtain ⟨j, hj⟩ := HJ.out; exact ⟨j + 1, by rw [hj, Nat.pow_succ]; omega⟩, .inr (by omega)⟩
      case measure => simp [intOf]; omega
    · have hlti : ¬ 2 * (k : Int) < (n : Int) := by omega
      have HE : Hid (hk n = k) := hk_of HJ.out HK.out (by omega)
      go_wp2
      go_ret
      exact ⟨by rw [HE.out]; rfl, rfl⟩

end Go.Proofs.Ythncodopdcmfiaa
