import Derived.Test.YtpnaopmpiobemaaC7
namespace Go.Proofs.Ytpnaopmpiobemaa
open Go.RowKit

/-- A bit at its place in a byte, when it is among the first k. -/
def byT (bs : List Int) (k i j : Nat) : Int := if 8 * i + j < k then bs.getD (8 * i + j) 0 * 2 ^ (7 - j) else 0
def byV (bs : List Int) (k i : Nat) : Int := byT bs k i 0 + byT bs k i 1 + byT bs k i 2 + byT bs k i 3 + byT bs k i 4 + byT bs k i 5 + byT bs k i 6 + byT bs k i 7
def Bits (bs : List Int) : Prop := ∀ k, 0 ≤ bs.getD k 0 ∧ bs.getD k 0 ≤ 1
theorem byT_other (bs : List Int) (k i j : Nat) (h : 8 * i + j ≠ k) : byT bs (k + 1) i j = byT bs k i j := by
  unfold byT
  by_cases e : 8 * i + j < k
  · rw [if_pos e, if_pos (by omega)]
  · rw [if_neg e, if_neg (by omega)]
theorem byT_new (bs : List Int) (k i j : Nat) (h : 8 * i + j = k) : byT bs (k + 1) i j = bs.getD k 0 * 2 ^ (7 - j) ∧ byT bs k i j = 0 := by
  unfold byT
  rw [if_pos (by omega), if_neg (by omega), h]
  exact ⟨rfl, rfl⟩
theorem byT_out (bs : List Int) (k i j : Nat) (h : k ≤ 8 * i + j) : byT bs k i j = 0 := if_neg (by omega)
theorem byT_bd (bs : List Int) (hb : Bits bs) (k i j : Nat) : 0 ≤ byT bs k i j ∧ byT bs k i j ≤ 2 ^ (7 - j) := by
  unfold byT
  have h2 : (0 : Int) < 2 ^ (7 - j) := Int.pow_pos (by decide)
  split
  · have h := hb (8 * i + j)
    rcases (show bs.getD (8 * i + j) 0 = 0 ∨ bs.getD (8 * i + j) 0 = 1 by omega) with e | e
    · rw [e]; omega
    · rw [e]; omega
  · omega
theorem byV_bd (bs : List Int) (hb : Bits bs) (k i : Nat) : 0 ≤ byV bs k i ∧ byV bs k i ≤ 255 := by
  have h0 := byT_bd bs hb k i 0
  have h1 := byT_bd bs hb k i 1
  have h2 := byT_bd bs hb k i 2
  have h3 := byT_bd bs hb k i 3
  have h4 := byT_bd bs hb k i 4
  have h5 := byT_bd bs hb k i 5
  have h6 := byT_bd bs hb k i 6
  have h7 := byT_bd bs hb k i 7
  unfold byV
  simp at h0 h1 h2 h3 h4 h5 h6 h7
  omega
theorem byV_zero (bs : List Int) (k i : Nat) (h : k ≤ 8 * i) : byV bs k i = 0 := by
  unfold byV
  rw [byT_out _ _ _ 0 (by omega), byT_out _ _ _ 1 (by omega), byT_out _ _ _ 2 (by omega), byT_out _ _ _ 3 (by omega), byT_out _ _ _ 4 (by omega), byT_out _ _ _ 5 (by omega), byT_out _ _ _ 6 (by omega), byT_out _ _ _ 7 (by omega)]
  rfl
theorem byV_other (bs : List Int) (k i : Nat) (h : i ≠ k / 8) : byV bs (k + 1) i = byV bs k i := by
  unfold byV
  rw [byT_other _ _ _ 0 (by omega), byT_other _ _ _ 1 (by omega), byT_other _ _ _ 2 (by omega), byT_other _ _ _ 3 (by omega), byT_other _ _ _ 4 (by omega), byT_other _ _ _ 5 (by omega), byT_other _ _ _ 6 (by omega), byT_other _ _ _ 7 (by omega)]
theorem byV_next (bs : List Int) (k : Nat) : byV bs (k + 1) (k / 8) = byV bs k (k / 8) + bs.getD k 0 * 2 ^ (7 - k % 8) := by
  obtain ⟨q, r, hr, rfl⟩ : ∃ q r, r < 8 ∧ k = 8 * q + r := ⟨k / 8, k % 8, Nat.mod_lt _ (by decide), by omega⟩
  rw [show (8 * q + r) / 8 = q by omega, show (8 * q + r) % 8 = r by omega]
  have ht : ∀ j, j ≠ r → byT bs (8 * q + r + 1) q j = byT bs (8 * q + r) q j := fun j hj => byT_other _ _ _ _ (by omega)
  obtain ⟨e1, e2⟩ := byT_new bs (8 * q + r) q r rfl
  unfold byV
  match r, hr with
  | 0, _ => rw [ht 1 (by decide), ht 2 (by decide), ht 3 (by decide), ht 4 (by decide), ht 5 (by decide), ht 6 (by decide), ht 7 (by decide), e1, e2]; omega
  | 1, _ => rw [ht 0 (by decide), ht 2 (by decide), ht 3 (by decide), ht 4 (by decide), ht 5 (by decide), ht 6 (by decide), ht 7 (by decide), e1, e2]; omega
  | 2, _ => rw [ht 0 (by decide), ht 1 (by decide), ht 3 (by decide), ht 4 (by decide), ht 5 (by decide), ht 6 (by decide), ht 7 (by decide), e1, e2]; omega
  | 3, _ => rw [ht 0 (by decide), ht 1 (by decide), ht 2 (by decide), ht 4 (by decide), ht 5 (by decide), ht 6 (by decide), ht 7 (by decide), e1, e2]; omega
  | 4, _ => rw [ht 0 (by decide), ht 1 (by decide), ht 2 (by decide), ht 3 (by decide), ht 5 (by decide), ht 6 (by decide), ht 7 (by decide), e1, e2]; omega
  | 5, _ => rw [ht 0 (by decide), ht 1 (by decide), ht 2 (by decide), ht 3 (by decide), ht 4 (by decide), ht 6 (by decide), ht 7 (by decide), e1, e2]; omega
  | 6, _ => rw [ht 0 (by decide), ht 1 (by decide), ht 2 (by decide), ht 3 (by decide), ht 4 (by decide), ht 5 (by decide), ht 7 (by decide), e1, e2]; omega
  | 7, _ => rw [ht 0 (by decide), ht 1 (by decide), ht 2 (by decide), ht 3 (by decide), ht 4 (by decide), ht 5 (by decide), ht 6 (by decide), e1, e2]; omega
/-- Bits that are not yet there are 0: the byte is a multiple of the next place's double. -/
theorem byV_mod (bs : List Int) (k : Nat) : byV bs k (k / 8) % 2 ^ (8 - k % 8) = 0 := by
  obtain ⟨q, r, hr, rfl⟩ : ∃ q r, r < 8 ∧ k = 8 * q + r := ⟨k / 8, k % 8, Nat.mod_lt _ (by decide), by omega⟩
  rw [show (8 * q + r) / 8 = q by omega, show (8 * q + r) % 8 = r by omega]
  have ho : ∀ j, r ≤ j → byT bs (8 * q + r) q j = 0 := fun j hj => byT_out _ _ _ _ (by omega)
  have hi : ∀ j, j < r → byT bs (8 * q + r) q j = bs.getD (8 * q + j) 0 * 2 ^ (7 - j) := fun j hj => if_pos (by omega)
  unfold byV
  match r, hr with
  | 0, _ => rw [ho 0 (by decide), ho 1 (by decide), ho 2 (by decide), ho 3 (by decide), ho 4 (by decide), ho 5 (by decide), ho 6 (by decide), ho 7 (by decide)]; rfl
  | 1, _ => rw [hi 0 (by decide), ho 1 (by decide), ho 2 (by decide), ho 3 (by decide), ho 4 (by decide), ho 5 (by decide), ho 6 (by decide), ho 7 (by decide)]; first | (simp; done) | (simp; omega)
  | 2, _ => rw [hi 0 (by decide), hi 1 (by decide), ho 2 (by decide), ho 3 (by decide), ho 4 (by decide), ho 5 (by decide), ho 6 (by decide), ho 7 (by decide)]; first | (simp; done) | (simp; omega)
  | 3, _ => rw [hi 0 (by decide), hi 1 (by decide), hi 2 (by decide), ho 3 (by decide), ho 4 (by decide), ho 5 (by decide), ho 6 (by decide), ho 7 (by decide)]; first | (simp; done) | (simp; omega)
  | 4, _ => rw [hi 0 (by decide), hi 1 (by decide), hi 2 (by decide), hi 3 (by decide), ho 4 (by decide), ho 5 (by decide), ho 6 (by decide), ho 7 (by decide)]; first | (simp; done) | (simp; omega)
  | 5, _ => rw [hi 0 (by decide), hi 1 (by decide), hi 2 (by decide), hi 3 (by decide), hi 4 (by decide), ho 5 (by decide), ho 6 (by decide), ho 7 (by decide)]; first | (simp; done) | (simp; omega)
  | 6, _ => rw [hi 0 (by decide), hi 1 (by decide), hi 2 (by decide), hi 3 (by decide), hi 4 (by decide), hi 5 (by decide), ho 6 (by decide), ho 7 (by decide)]; first | (simp; done) | (simp; omega)
  | 7, _ => rw [hi 0 (by decide), hi 1 (by decide), hi 2 (by decide), hi 3 (by decide), hi 4 (by decide), hi 5 (by decide), hi 6 (by decide), ho 7 (by decide)]; first | (simp; done) | (simp; omega)
theorem or_all : ∀ r : Nat, r < 8 → ∀ x : Nat, x < 256 → x % 2 ^ (8 - r) = 0 → bits .or .u8 (x : Int) ((2 ^ (7 - r) : Nat) : Int) = ((x + 2 ^ (7 - r) : Nat) : Int) ∧ bits .or .u8 (x : Int) 0 = (x : Int) := by decide +kernel
/-- What 'or' puts in. -/
theorem or_bit (bs : List Int) (hb : Bits bs) (k : Nat) : bits .or .u8 (byV bs k (k / 8)) (bs.getD k 0 * 2 ^ (7 - k % 8)) = byV bs (k + 1) (k / 8) := by
  have h0 := byV_bd bs hb k (k / 8)
  have h1 := byV_mod bs k
  rw [byV_next]
  obtain ⟨x, hx⟩ := Int.eq_ofNat_of_zero_le h0.1
  rw [hx] at h0 h1 ⊢
  have hm : x % 2 ^ (8 - k % 8) = 0 := by
    have : ((x % 2 ^ (8 - k % 8) : Nat) : Int) = 0 := by push_cast; exact h1
    exact Int.ofNat.inj this
  obtain ⟨a1, a2⟩ := or_all (k % 8) (Nat.mod_lt _ (by decide)) x (by omega) hm
  rcases (show bs.getD k 0 = 0 ∨ bs.getD k 0 = 1 by have := hb k; omega) with e | e
  · rw [e, Int.zero_mul, a2]; simp
  · rw [e, Int.one_mul]; push_cast at a1; exact a1
/-- The first m bytes, with k bits. -/
def pkL (bs : List Int) (k m : Nat) : List Int := (List.range m).map (byV bs k)
theorem pkL_len (bs : List Int) (k m : Nat) : (pkL bs k m).length = m := by simp [pkL]
theorem pkL_get (bs : List Int) (k m i : Nat) (h : i < m) : (pkL bs k m).getD i 0 = byV bs k i := by simp [pkL, h]
theorem pkL_byte (bs : List Int) (hb : Bits bs) (k m : Nat) : ∀ i, 0 ≤ (pkL bs k m).getD i 0 ∧ (pkL bs k m).getD i 0 ≤ 255 := by
  intro i
  by_cases h : i < m
  · rw [pkL_get _ _ _ _ h]; exact byV_bd bs hb k i
  · rw [List.getD_eq_getElem?_getD, List.getElem?_eq_none (by rw [pkL_len]; omega)]; simp
theorem pkL_set (bs : List Int) (k m : Nat) : (pkL bs k m).set (k / 8) (byV bs (k + 1) (k / 8)) = pkL bs (k + 1) m := by
  apply List.ext_getElem?
  intro i
  rw [List.getElem?_set]
  by_cases e : k / 8 = i
  · subst e
    simp only [if_true, pkL_len]
    by_cases hi : k / 8 < m
    · rw [if_pos hi]; simp [pkL, hi]
    · rw [if_neg hi, List.getElem?_eq_none (by rw [pkL_len]; omega)]
  · rw [if_neg e]
    by_cases hi : i < m
    · simp [pkL, hi, byV_other bs k i (fun h => e h.symm)]
    · rw [List.getElem?_eq_none (by rw [pkL_len]; omega), List.getElem?_eq_none (by rw [pkL_len]; omega)]
theorem pkL_more (bs : List Int) (k m : Nat) (h : k ≤ 8 * m) : pkL bs k m ++ [0] = pkL bs k (m + 1) := by
  unfold pkL
  rw [List.range_succ, List.map_append, List.map_singleton, byV_zero bs k m h]
theorem pkL_zero (bs : List Int) (m : Nat) : List.replicate m (0 : Int) = pkL bs 0 m := by
  apply List.ext_getElem?
  intro i
  by_cases hi : i < m
  · simp [pkL, hi, byV_zero bs 0 i (Nat.zero_le _)]
  · rw [List.getElem?_eq_none (by simp; omega), List.getElem?_eq_none (by rw [pkL_len]; omega)]
/-- Eight bits a byte. -/
def packL (bs : List Int) : List Int := pkL bs bs.length ((bs.length + 7) / 8)

end Go.Proofs.Ytpnaopmpiobemaa
