import Derived.Test.YtjdfbebdcpjpiaaDoorDT1
namespace Go.Proofs.YtjdfbebdcpjpiaaDoor
open Go.RowKit

/-! Times as texts: read back, in order. -/

theorem bl_lt : ∀ (a a' b b' : List UInt8), a.length = a'.length → Op.bytesLess a a' = true → Op.bytesLess (a ++ b) (a' ++ b') = true
  | [], [], _, _, _, h => by simp [Op.bytesLess] at h
  | x :: a, y :: a', b, b', hl, h => by
    simp only [Op.bytesLess, List.cons_append, Bool.or_eq_true, Bool.and_eq_true] at h ⊢
    rcases h with h | ⟨h1, h2⟩
    · exact .inl h
    · exact .inr ⟨h1, bl_lt a a' b b' (by simpa using hl) h2⟩
  | [], _ :: _, _, _, hl, _ => by simp at hl
  | _ :: _, [], _, _, hl, _ => by simp at hl
theorem bl_eq : ∀ (a b b' : List UInt8), Op.bytesLess b b' = true → Op.bytesLess (a ++ b) (a ++ b') = true
  | [], _, _, h => h
  | x :: a, b, b', h => by
    simp only [Op.bytesLess, List.cons_append, Bool.or_eq_true, Bool.and_eq_true]
    exact .inr ⟨by simp, bl_eq a b b' h⟩
theorem bl_irr : ∀ (a : List UInt8), Op.bytesLess a a = false
  | [] => rfl
  | x :: a => by simp [Op.bytesLess, bl_irr a]
theorem bl_asym : ∀ (a b : List UInt8), Op.bytesLess a b = true → Op.bytesLess b a = false
  | [], [], h => by simp [Op.bytesLess] at h
  | [], _ :: _, _ => rfl
  | _ :: _, [], h => by simp [Op.bytesLess] at h
  | x :: a, y :: b, h => by
    simp only [Op.bytesLess, Bool.or_eq_true, Bool.and_eq_true, decide_eq_true_eq, Bool.or_eq_false_iff, Bool.and_eq_false_iff, decide_eq_false_iff_not] at h ⊢
    rcases h with h | ⟨h1, h2⟩
    · refine ⟨fun h3 => ?_, .inl ?_⟩
      · have a1 := UInt8.lt_iff_toNat_lt.1 h
        have a2 := UInt8.lt_iff_toNat_lt.1 h3
        omega
      · simp
        intro e
        subst e
        exact absurd (UInt8.lt_iff_toNat_lt.1 h) (by omega)
    · have e : x = y := by simpa using h1
      subst e
      refine ⟨fun h3 => absurd (UInt8.lt_iff_toNat_lt.1 h3) (by omega), .inr (bl_asym a b h2)⟩

def dgt (n : Nat) : UInt8 := UInt8.ofNat (48 + n % 10)
theorem dgt_nat (n : Nat) : (dgt n).toNat = 48 + n % 10 := by
  unfold dgt
  rw [UInt8.toNat_ofNat']
  omega
def pd : Nat → Nat → List UInt8
  | 0, _ => []
  | k + 1, n => pd k (n / 10) ++ [dgt n]
theorem pd_len (k n : Nat) : (pd k n).length = k := by
  induction k generalizing n with
  | zero => rfl
  | succ k ih => rw [pd, List.length_append, ih]; rfl
theorem pd_lt (k n m : Nat) (h : n < m) (hm : m < 10 ^ k) : Op.bytesLess (pd k n) (pd k m) = true := by
  induction k generalizing n m with
  | zero => simp at hm; omega
  | succ k ih =>
    rw [pd, pd]
    have h10 : m / 10 < 10 ^ k := by rw [Nat.pow_succ] at hm; omega
    by_cases h2 : n / 10 < m / 10
    · exact bl_lt _ _ _ _ (by rw [pd_len, pd_len]) (ih _ _ h2 h10)
    · have e : n / 10 = m / 10 := by omega
      rw [e]
      refine bl_eq _ _ _ ?_
      simp only [Op.bytesLess, Bool.or_eq_true, decide_eq_true_eq]
      left
      rw [UInt8.lt_iff_toNat_lt, dgt_nat, dgt_nat]
      omega
theorem pd_zero (k : Nat) : pd k 0 = List.replicate k 48 := by
  induction k with
  | zero => rfl
  | succ k ih =>
    rw [pd, List.replicate_succ', show 0 / 10 = 0 from rfl, ih]
    rfl
theorem padL_pd (k n : Nat) (h : n < 10 ^ (k + 1)) : padL n (k + 1) = pd (k + 1) n := by
  induction k generalizing n with
  | zero =>
    have h1 : n < 10 := by simpa using h
    unfold padL
    rw [Lib.decDigits_one h1]
    show [UInt8.ofNat (48 + n)] = [dgt n]
    unfold dgt
    rw [Nat.mod_eq_of_lt h1]
  | succ k ih =>
    by_cases h1 : n < 10
    · have e : n / 10 = 0 := by omega
      rw [pd, e, pd_zero]
      unfold padL
      rw [Lib.decDigits_one h1]
      unfold dgt
      rw [Nat.mod_eq_of_lt h1]
      rfl
    · have ih' := ih (n / 10) (by rw [Nat.pow_succ] at h; omega)
      rw [pd, ← ih']
      have hl := dec_len (n := n / 10) (k := k + 1) (by omega) (by rw [Nat.pow_succ] at h; omega)
      have e : Lib.decDigits n = Lib.decDigits (n / 10) ++ [dgt n] := by rw [Lib.decDigits, dif_neg h1]; rfl
      unfold padL
      rw [e, List.length_append, ← List.append_assoc]
      congr 3
      simp
theorem pad_list (n : Int) (k : Nat) (h1 : n.toNat < 10 ^ k) (hk : 1 ≤ k) : (pad n k).data.toList = pd k n.toNat := by
  obtain ⟨j, rfl⟩ : ∃ j, k = j + 1 := ⟨k - 1, by omega⟩
  show ((padL n.toNat (j + 1)).toArray).toList = _
  rw [List.toList_toArray, padL_pd _ _ h1]
theorem ext_list (s : ByteArray) (a b : Nat) : (s.extract a b).data.toList = (s.data.toList.drop a).take (b - a) := by
  rw [ByteArray.data_extract, Array.toList_extract, List.extract_eq_take_drop]
theorem ba_ext {s t : ByteArray} (h : s.data.toList = t.data.toList) : s = t := by
  cases s; cases t
  congr 1
  exact Array.toList_inj.1 h

/-- The signs of a time, told by numbers. -/
def tmL (y m z h i s : Nat) : List UInt8 := (pd 4 y ++ (45 :: (pd 2 m ++ (45 :: pd 2 z)))) ++ (32 :: (pd 2 h ++ (58 :: (pd 2 i ++ (58 :: pd 2 s)))))
structure TmB (y m z h i s : Nat) : Prop where
  y : y < 10000
  m : m < 100
  z : z < 100
  h : h < 100
  i : i < 100
  s : s < 100
theorem timeTx_list (y m z s : Int) (hy : 0 ≤ y ∧ y < 10000) (hm : 0 ≤ m ∧ m < 100) (hz : 0 ≤ z ∧ z < 100) (hs : 0 ≤ s ∧ s < 86400) :
    (timeTx y m z s).data.toList = tmL y.toNat m.toNat z.toNat (s / 3600).toNat (s / 60 % 60).toNat (s % 60).toNat := by
  unfold timeTx tmL
  simp only [ByteArray.data_append, Array.toList_append]
  rw [pad_list y 4 (by omega) (by decide), pad_list m 2 (by omega) (by decide), pad_list z 2 (by omega) (by decide), pad_list (s / 3600) 2 (by omega) (by decide), pad_list (s / 60 % 60) 2 (by omega) (by decide), pad_list (s % 60) 2 (by omega) (by decide)]
  simp only [List.append_assoc, List.cons_append, List.nil_append]
theorem tmL_len (y m z h i s : Nat) : (tmL y m z h i s).length = 19 := by
  unfold tmL
  simp only [List.length_append, List.length_cons, pd_len]
theorem tmL_back (y m z h i s : Nat) : (tmL y m z h i s).drop 10 = 32 :: (pd 2 h ++ (58 :: (pd 2 i ++ (58 :: pd 2 s)))) := by
  unfold tmL
  rw [List.drop_left' (by simp only [List.length_append, List.length_cons, pd_len])]
theorem tmL_front (y m z h i s : Nat) : (tmL y m z h i s).take 10 = pd 4 y ++ (45 :: (pd 2 m ++ (45 :: pd 2 z))) := by
  unfold tmL
  rw [List.take_left' (by simp only [List.length_append, List.length_cons, pd_len])]
theorem front_lt {y m z y' m' z' : Nat} (hy : y' < 10000) (hm : m' < 100) (hz : z' < 100) (h : y < y' ∨ (y = y' ∧ (m < m' ∨ (m = m' ∧ z < z')))) :
    Op.bytesLess (pd 4 y ++ (45 :: (pd 2 m ++ (45 :: pd 2 z)))) (pd 4 y' ++ (45 :: (pd 2 m' ++ (45 :: pd 2 z')))) = true := by
  rcases h with h | ⟨rfl, h⟩
  · exact bl_lt _ _ _ _ (by rw [pd_len, pd_len]) (pd_lt 4 _ _ h (by omega))
  · refine bl_eq _ _ _ (bl_eq [45] _ _ ?_)
    rcases h with h | ⟨rfl, h⟩
    · exact bl_lt _ _ _ _ (by rw [pd_len, pd_len]) (pd_lt 2 _ _ h (by omega))
    · exact bl_eq (pd 2 m) (45 :: pd 2 z) (45 :: pd 2 z') (bl_eq [45] (pd 2 z) (pd 2 z') (pd_lt 2 _ _ h (by omega)))
theorem back_lt {h i s h' i' s' : Nat} (hh : h' < 100) (hi : i' < 100) (hs : s' < 100) (k : h < h' ∨ (h = h' ∧ (i < i' ∨ (i = i' ∧ s < s')))) :
    Op.bytesLess (32 :: (pd 2 h ++ (58 :: (pd 2 i ++ (58 :: pd 2 s))))) (32 :: (pd 2 h' ++ (58 :: (pd 2 i' ++ (58 :: pd 2 s'))))) = true := by
  refine bl_eq [32] _ _ ?_
  rcases k with k | ⟨rfl, h⟩
  · exact bl_lt _ _ _ _ (by rw [pd_len, pd_len]) (pd_lt 2 _ _ k (by omega))
  · refine bl_eq (pd 2 _) (58 :: (pd 2 i ++ (58 :: pd 2 s))) (58 :: (pd 2 i' ++ (58 :: pd 2 s'))) (bl_eq [58] (pd 2 i ++ (58 :: pd 2 s)) (pd 2 i' ++ (58 :: pd 2 s')) ?_)
    rcases h with h | ⟨rfl, h⟩
    · exact bl_lt _ _ _ _ (by rw [pd_len, pd_len]) (pd_lt 2 _ _ h (by omega))
    · exact bl_eq (pd 2 i) (58 :: pd 2 s) (58 :: pd 2 s') (bl_eq [58] (pd 2 s) (pd 2 s') (pd_lt 2 _ _ h (by omega)))

theorem dateR_lt {d y m z d' y' m' z' : Int} (h : dateR d y m z) (h' : dateR d' y' m' z') (hd : d < d') : y < y' ∨ (y = y' ∧ (m < m' ∨ (m = m' ∧ z < z'))) := by
  obtain ⟨a1, a2, a3, k, rfl, a5, a6, a7, rfl⟩ := h
  obtain ⟨b1, b2, b3, l, rfl, b5, b6, b7, rfl⟩ := h'
  rcases Int.lt_trichotomy y y' with h | h | h
  · exact .inl h
  · subst h
    refine .inr ⟨rfl, ?_⟩
    rcases Nat.lt_trichotomy k l with h | h | h
    · exact .inl (by omega)
    · subst h; exact .inr ⟨rfl, by omega⟩
    · have := msum_mono y (l + 1) (k - (l + 1)) (by omega)
      rw [show l + 1 + (k - (l + 1)) = k by omega] at this
      omega
  · have := dAhead_lt h; omega

/-- A time's text, told by its numbers. -/
theorem timeX_open {t : Int} {x : ByteArray} (h : timeX t x true) : (0 ≤ t ∧ t ≤ 253402300799) ∧ ∃ y m z : Nat, dateR (t / 86400) y m z ∧ (1970 ≤ y ∧ y < 10000 ∧ 1 ≤ m ∧ m ≤ 12 ∧ 1 ≤ z ∧ z ≤ 31) ∧ x.data.toList = tmL y m z (t % 86400 / 3600).toNat (t % 86400 / 60 % 60).toNat (t % 86400 % 60).toNat := by
  rcases h with ⟨_, h1, y, m, z, h2, rfl⟩ | ⟨h, _⟩
  · have hb := dateR_bd h2 (by omega)
    refine ⟨h1, y.toNat, m.toNat, z.toNat, ?_, ?_, timeTx_list y m z _ (by omega) (by omega) (by omega) (by omega)⟩
    · rw [show ((y.toNat : Nat) : Int) = y by omega, show ((m.toNat : Nat) : Int) = m by omega, show ((z.toNat : Nat) : Int) = z by omega]
      exact h2
    · omega
  · cases h
theorem size_list (s : ByteArray) : s.size = s.data.toList.length := by rw [Lib.size_eq]
theorem timeX_size {t : Int} {x : ByteArray} (h : timeX t x true) : x.size = 19 := by
  obtain ⟨_, y, m, z, _, _, e⟩ := timeX_open h
  rw [size_list, e, tmL_len]
/-- The later one has the greater text. -/
theorem timeX_lt {t u : Int} {x x' : ByteArray} (h : timeX t x true) (k : timeX u x' true) (hl : t < u) : Op.bytesLess x.data.toList x'.data.toList = true := by
  obtain ⟨h1, y, m, z, h2, h3, e⟩ := timeX_open h
  obtain ⟨k1, y', m', z', k2, k3, e'⟩ := timeX_open k
  rw [e, e']
  unfold tmL
  by_cases hd : t / 86400 < u / 86400
  · have := dateR_lt h2 k2 hd
    exact bl_lt _ _ _ _ (by simp only [List.length_append, List.length_cons, pd_len]) (front_lt (by omega) (by omega) (by omega) (by omega))
  · have hd2 : t / 86400 = u / 86400 := by omega
    rw [hd2] at h2
    obtain ⟨q1, q2, q3⟩ := dateR_one h2 k2
    obtain rfl : y = y' := by omega
    obtain rfl : m = m' := by omega
    obtain rfl : z = z' := by omega
    exact bl_eq _ _ _ (back_lt (by omega) (by omega) (by omega) (by omega))
theorem timeX_order {t u : Int} {x x' : ByteArray} (h : timeX t x true) (k : timeX u x' true) : Op.bytesLess x.data.toList x'.data.toList = decide (t < u) := by
  rcases Int.lt_trichotomy t u with hl | hl | hl
  · rw [timeX_lt h k hl, decide_eq_true hl]
  · subst hl
    obtain ⟨rfl, _⟩ := timeX_one h k
    rw [bl_irr, decide_eq_false (Int.lt_irrefl _)]
  · rw [bl_asym _ _ (timeX_lt k h hl), decide_eq_false (by omega)]
/-- A day later only the day is another. -/
theorem timeX_day {t : Int} {x x' : ByteArray} (h : timeX t x true) (k : timeX (t + 86400) x' true) : x'.extract 10 19 = x.extract 10 19 ∧ Op.bytesLess (x.extract 0 10).data.toList (x'.extract 0 10).data.toList = true := by
  obtain ⟨h1, y, m, z, h2, h3, e⟩ := timeX_open h
  obtain ⟨k1, y', m', z', k2, k3, e'⟩ := timeX_open k
  have hs : (t + 86400) % 86400 = t % 86400 := by omega
  have hd : t / 86400 < (t + 86400) / 86400 := by omega
  rw [hs] at e'
  refine ⟨ba_ext ?_, ?_⟩
  · rw [ext_list, ext_list, e, e', tmL_back, tmL_back]
  · rw [ext_list, ext_list, e, e', List.drop_zero, List.drop_zero, show 10 - 0 = 10 from rfl, tmL_front, tmL_front]
    have := dateR_lt h2 k2 hd
    exact front_lt (by omega) (by omega) (by omega) (by omega)

end Go.Proofs.YtjdfbebdcpjpiaaDoor
