import Derived.Test.YtcgmcdelgfemkaaEM5
import Derived.Test.YtcgmcdelgfemkaaWInjE
namespace Go.Proofs.Ytcgmcdelgfemkaa
open Go.RowKit

theorem xor8_back (x y : Int) (hx : 0 ≤ x ∧ x ≤ 255) (hy : 0 ≤ y ∧ y ≤ 255) : bits .xor .u8 (bits .xor .u8 x y) y = x := by
  obtain ⟨X, rfl⟩ := Int.eq_ofNat_of_zero_le hx.1
  obtain ⟨Y, rfl⟩ := Int.eq_ofNat_of_zero_le hy.1
  have hl : X ^^^ Y < 2 ^ 8 := Nat.xor_lt_two_pow (by omega) (by omega)
  rw [u8_xor_nat X Y (by omega) (by omega), u8_xor_nat _ Y (by omega) (by omega), Nat.xor_assoc, Nat.xor_self, Nat.xor_zero]
theorem xor8_comm (x y : Int) : bits .xor .u8 x y = bits .xor .u8 y x := by simp only [bits, BitVec.xor_comm]
theorem xor8_self (x : Int) (hx : 0 ≤ x ∧ x ≤ 255) : bits .xor .u8 x x = 0 := by
  obtain ⟨X, rfl⟩ := Int.eq_ofNat_of_zero_le hx.1
  rw [u8_xor_nat X X (by omega) (by omega), Nat.xor_self]; rfl

theorem xorL_get (xs ys : List Int) (hy : ys ≠ []) (i : Nat) (h : i < xs.length) : (xorL xs ys).getD i 0 = xr xs ys i := by
  rw [xorL, if_neg hy]; simp [xorTo, h]
theorem xorL_nil (xs : List Int) : xorL xs [] = xs := by rw [xorL, if_pos rfl]
theorem xorL_length (xs ys : List Int) : (xorL xs ys).length = xs.length := by
  unfold xorL
  split
  · rfl
  · exact xorTo_len _ _ _
theorem ext_getD {xs ys : List Int} (hl : xs.length = ys.length) (h : ∀ i, i < xs.length → xs.getD i 0 = ys.getD i 0) : xs = ys := by
  apply List.ext_getElem hl
  intro i h1 h2
  have := h i h1
  simpa [h1, h2] using this
theorem xorL_back (xs ys : List Int) (hx : ∀ k, 0 ≤ xs.getD k 0 ∧ xs.getD k 0 ≤ 255) (hy : ∀ k, 0 ≤ ys.getD k 0 ∧ ys.getD k 0 ≤ 255) : xorL (xorL xs ys) ys = xs := by
  by_cases h0 : ys = []
  · subst h0; rw [xorL_nil, xorL_nil]
  · apply ext_getD (by rw [xorL_length, xorL_length])
    intro i hi
    rw [xorL_length, xorL_length] at hi
    rw [xorL_get _ _ h0 i (by rw [xorL_length]; exact hi), xr, xorL_get _ _ h0 i hi, xr, xor8_back _ _ (hx i) (hy _)]

theorem strm_byte (k : Int) (j : Nat) : ∀ i, 0 ≤ (strm k j).getD i 0 ∧ (strm k j).getD i 0 ≤ 255 := by
  induction j with
  | zero => intro i; simp [strm]
  | succ j ih => rw [strm]; exact append_byte ih (eightI_byte _)
theorem mask_twice (k : Int) (bs : List Int) (h : ∀ i, 0 ≤ bs.getD i 0 ∧ bs.getD i 0 ≤ 255) : maskL k (maskL k bs) = bs := by
  have e : maskL k (maskL k bs) = xorL (maskL k bs) (strm k (nblk bs.length)) := by
    show xorL (maskL k bs) (strm k (nblk (maskL k bs).length)) = _
    rw [maskL_len]
  rw [e, maskL, xorL_back _ _ h (strm_byte _ _)]
theorem lock_unlock (xs : List Int) (s : ByteArray) (ys : List Int) (r : Int) (hx : ∀ i, 0 ≤ xs.getD i 0 ∧ xs.getD i 0 ≤ 255) (hok : (lockR xs s ys r).ok = true) : unlR (lockR xs s ys r).ss (lockR xs s ys r).rd (lockR xs s ys r).bs (lockR xs s ys r).tg s = (xs, 0) := by
  by_cases hp : lkP xs.length s.size ys.length r
  · have e : lockR xs s ys r = lockT xs s ys r := by unfold lockR; rw [if_pos hp]
    rw [e]
    unfold unlR
    rw [if_pos (show lkP (lockT xs s ys r).bs.length s.size (lockT xs s ys r).ss.length (lockT xs s ys r).rd from (by show lkP (maskL _ xs).length _ _ _; rw [maskL_len]; exact hp)), if_pos (show (lockT xs s ys r).tg = tagN (pkN s (lockT xs s ys r).ss (lockT xs s ys r).rd.toNat) (lockT xs s ys r).bs from rfl)]
    show (maskL (pkN s ys r.toNat) (maskL (pkN s ys r.toNat) xs), (0 : Int)) = _
    rw [mask_twice _ _ hx]
  · exfalso
    have e : lockR xs s ys r = ⟨[], 0, [], 0, false⟩ := by unfold lockR; rw [if_neg hp]
    rw [e] at hok
    cases hok
theorem lockR_bs (xs : List Int) (s : ByteArray) (ys : List Int) (r : Int) (hok : (lockR xs s ys r).ok = true) : (lockR xs s ys r).bs.length = xs.length := by
  unfold lockR at hok ⊢
  split
  · exact maskL_len _ _
  · rename_i hp; rw [if_neg hp] at hok; cases hok
theorem lockR_no (xs : List Int) (s : ByteArray) (ys : List Int) (r : Int) (hok : (lockR xs s ys r).ok = false) : (lockR xs s ys r).bs = [] ∧ (lockR xs s ys r).rd = 0 := by
  unfold lockR at hok ⊢
  split
  · rename_i hp; rw [if_pos hp] at hok; cases hok
  · exact ⟨rfl, rfl⟩
theorem tag_turned (k : Int) (bs : List Int) (hb : ∀ i, 0 ≤ bs.getD i 0 ∧ bs.getD i 0 ≤ 255) (j : Nat) (hj : j < bs.length) (y : Int) (hy : 0 ≤ y ∧ y ≤ 255) (hne : bs.getD j 0 ≠ y) : tagN k (bs.set j y) ≠ tagN k bs := by
  have h := parts_turned [tgX, eightI k, bs] (by
    intro p hp
    simp only [List.mem_cons, List.not_mem_nil, or_false] at hp
    rcases hp with rfl | rfl | rfl
    · exact allB_of tgX_byte
    · exact allB_of (eightI_byte k)
    · exact allB_of hb) 2 j (by simp) (by simpa using hj) y hy (by simpa using hne)
  simpa [tagN, triN] using h
theorem lock_turned (xs : List Int) (s : ByteArray) (ys : List Int) (r : Int) (j : Nat) (y : Int) (hb : ∀ i, 0 ≤ (lockR xs s ys r).bs.getD i 0 ∧ (lockR xs s ys r).bs.getD i 0 ≤ 255) (hok : (lockR xs s ys r).ok = true) (hj : j < (lockR xs s ys r).bs.length) (hy : 0 ≤ y ∧ y ≤ 255) (hne : (lockR xs s ys r).bs.getD j 0 ≠ y) :
    unlR (lockR xs s ys r).ss (lockR xs s ys r).rd ((lockR xs s ys r).bs.set j y) (lockR xs s ys r).tg s = ([], 2) := by
  by_cases hp : lkP xs.length s.size ys.length r
  · have e : lockR xs s ys r = lockT xs s ys r := by unfold lockR; rw [if_pos hp]
    rw [e] at hb hj hne ⊢
    have ht := tag_turned (pkN s ys r.toNat) (lockT xs s ys r).bs hb j hj y hy hne
    unfold unlR
    have hl : ((lockT xs s ys r).bs.set j y).length = xs.length := by rw [List.length_set]; exact maskL_len _ _
    rw [hl, if_pos (show lkP xs.length s.size (lockT xs s ys r).ss.length (lockT xs s ys r).rd from hp), if_neg]
    intro h
    exact ht h.symm
  · exfalso
    have e : lockR xs s ys r = ⟨[], 0, [], 0, false⟩ := by unfold lockR; rw [if_neg hp]
    rw [e] at hok
    cases hok

end Go.Proofs.Ytcgmcdelgfemkaa
