import Derived.Test.YtlcojjcgaibbiaaW2
namespace Go.Proofs.Ytlcojjcgaibbiaa
open Go.RowKit

def mix (x : Int) : Int := IntKind.u64.wrap (IntKind.u64.wrap (x * 6364136223846793005) + 1442695040888963407)
def stir (h b : Int) : Int := bits .xor .u64 (mix (bits .xor .u64 h b)) (mix (bits .xor .u64 h b) / 536870912)

/-- The eight bytes of a number, the highest first. -/
def eight (n : Nat) : List Int := [(n : Int) / 72057594037927936 % 256, (n : Int) / 281474976710656 % 256, (n : Int) / 1099511627776 % 256, (n : Int) / 4294967296 % 256, (n : Int) / 16777216 % 256, (n : Int) / 65536 % 256, (n : Int) / 256 % 256, (n : Int) % 256]

theorem eight_byte (n : Nat) : ∀ k, 0 ≤ (eight n).getD k 0 ∧ (eight n).getD k 0 ≤ 255 := by
  intro k
  match k with
  | 0 | 1 | 2 | 3 | 4 | 5 | 6 | 7 => simp [eight]; omega
  | k + 8 => simp [eight]

theorem eight_mem (n : Nat) : ∀ x ∈ eight n, 0 ≤ x ∧ x ≤ 255 := by
  intro x hx
  simp only [eight, List.mem_cons, List.not_mem_nil, or_false] at hx
  omega

theorem eight_div (n : Nat) (h : (n : Int) ≤ 18446744073709551615) : [(n : Int) / 256 / 256 / 256 / 256 / 256 / 256 / 256, (n : Int) / 256 / 256 / 256 / 256 / 256 / 256 % 256, (n : Int) / 256 / 256 / 256 / 256 / 256 % 256, (n : Int) / 256 / 256 / 256 / 256 % 256, (n : Int) / 256 / 256 / 256 % 256, (n : Int) / 256 / 256 % 256, (n : Int) / 256 % 256, (n : Int) % 256] = eight n := by
  simp only [eight, List.cons.injEq]
  refine ⟨by omega, by omega, by omega, by omega, by omega, by omega, trivial⟩

set_option maxRecDepth 10000 in
set_option maxHeartbeats 400000 in
theorem eight_any (n : Nat) (w : World) (hn : (n : Int) ≤ 18446744073709551615) :
    Calls Try.prog 71 #[.int .u64 n] w fun e w' => ∃ x0 x1 x2 x3 x4 x5 x6 x7 : Int, e = .returned (.agg #[.int .u8 x0, .int .u8 x1, .int .u8 x2, .int .u8 x3, .int .u8 x4, .int .u8 x5, .int .u8 x6, .int .u8 x7]) ∧ [x0, x1, x2, x3, x4, x5, x6, x7] = eight n ∧ Below w.heap.size w w' := by
  have hd := eight_div n hn
  have HD : Hid (_ = eight n) := hd
  clear hd
  go_enter Try.func71, Try.ntmps71
  go_wp2
  refine wp_loop_rounds 9 ?_
  iterate 9 (rw [rounds_succ]; go_wp2)
  refine bodyPost_ret (v := .agg #[.int .u8 ((n : Int) / 256 / 256 / 256 / 256 / 256 / 256 / 256), .int .u8 ((n : Int) / 256 / 256 / 256 / 256 / 256 / 256 % 256), .int .u8 ((n : Int) / 256 / 256 / 256 / 256 / 256 % 256), .int .u8 ((n : Int) / 256 / 256 / 256 / 256 % 256), .int .u8 ((n : Int) / 256 / 256 / 256 % 256), .int .u8 ((n : Int) / 256 / 256 % 256), .int .u8 ((n : Int) / 256 % 256), .int .u8 ((n : Int) % 256)]) (by simp [results, Try.results71, go_sem]) rfl ?_
  exact ⟨_, _, _, _, _, _, _, _, rfl, HD.out, ((Below.refl _ _).alloc (Nat.le_refl _) _).alloc (by simp) _⟩

def start : Int := 7809847782465536322
def stirs (h : Int) (l : List Int) : Int := l.foldl stir h
def hashL (bs : List Int) : Int := stirs (stirs start bs) (eight bs.length)

theorem stirs_next (h : Int) (bs : List Int) (k : Nat) (hk : k < bs.length) : stirs h (bs.take (k + 1)) = stir (stirs h (bs.take k)) (bs.getD k 0) := by
  unfold stirs
  rw [List.take_succ_eq_append_getElem hk, List.foldl_append]
  simp [hk]

theorem index8 (x0 x1 x2 x3 x4 x5 x6 x7 : Value) (w : World) :
    (Instr.index 94 (.agg #[x0, x1, x2, x3, x4, x5, x6, x7]) (.int .i64 0)).run Try.prog w = .ok x0 w ∧ (Instr.index 94 (.agg #[x0, x1, x2, x3, x4, x5, x6, x7]) (.int .i64 1)).run Try.prog w = .ok x1 w ∧
    (Instr.index 94 (.agg #[x0, x1, x2, x3, x4, x5, x6, x7]) (.int .i64 2)).run Try.prog w = .ok x2 w ∧ (Instr.index 94 (.agg #[x0, x1, x2, x3, x4, x5, x6, x7]) (.int .i64 3)).run Try.prog w = .ok x3 w ∧
    (Instr.index 94 (.agg #[x0, x1, x2, x3, x4, x5, x6, x7]) (.int .i64 4)).run Try.prog w = .ok x4 w ∧ (Instr.index 94 (.agg #[x0, x1, x2, x3, x4, x5, x6, x7]) (.int .i64 5)).run Try.prog w = .ok x5 w ∧
    (Instr.index 94 (.agg #[x0, x1, x2, x3, x4, x5, x6, x7]) (.int .i64 6)).run Try.prog w = .ok x6 w ∧ (Instr.index 94 (.agg #[x0, x1, x2, x3, x4, x5, x6, x7]) (.int .i64 7)).run Try.prog w = .ok x7 w := by
  refine ⟨?_, ?_, ?_, ?_, ?_, ?_, ?_, ?_⟩ <;> kernel_rfl

end Go.Proofs.Ytlcojjcgaibbiaa
