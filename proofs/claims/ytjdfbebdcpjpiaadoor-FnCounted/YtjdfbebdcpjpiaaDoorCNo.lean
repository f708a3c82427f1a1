import Derived.Test.YtjdfbebdcpjpiaaDoorR1n
import Derived.Test.YtjdfbebdcpjpiaaDoorO2n
namespace Go.Proofs.YtjdfbebdcpjpiaaDoor
open Go.RowKit

/-! Identifiers: what is written is read back, and what is read is written so. -/

theorem getL_putS (n c : Nat) (hn : n < 9223372036854775808) (rest : List Int) : ∀ d, 1 ≤ d → d ≤ c → ∀ p : Int, getL ((putL n c).drop (c - d) ++ rest) ((n / 128 ^ d : Nat) : Int) p = ((n : Int), p + d, 0) := by
  intro d
  induction d with
  | zero => intro h; omega
  | succ d ih =>
    intro _ hd p
    have hlt : c - (d + 1) < (putL n c).length := by rw [putL_len]; omega
    have hget : (putL n c).getD (c - (d + 1)) 0 = grp n c (c - (d + 1)) := by simp [putL, show c - (d + 1) < c by omega]
    have hcons : (putL n c).drop (c - (d + 1)) ++ rest = grp n c (c - (d + 1)) :: ((putL n c).drop (c - d) ++ rest) := by
      rw [drop_cons hlt, hget, show c - (d + 1) + 1 = c - d by omega]; rfl
    rw [hcons, getL]
    have hbig : ¬ (72057594037927936 : Int) ≤ ((n / 128 ^ (d + 1) : Nat) : Int) := by
      have h1 : n / 128 ^ (d + 1) ≤ n / 128 := by
        rw [show (128 : Nat) ^ (d + 1) = 128 * 128 ^ d by rw [Nat.pow_succ, Nat.mul_comm], ← Nat.div_div_eq_div_mul]
        exact Nat.div_le_self _ _
      omega
    rw [if_neg hbig]
    have hexp : c - 1 - (c - (d + 1)) = d := by omega
    have hstep : n / 128 ^ (d + 1) = n / 128 ^ d / 128 := (div_next n d).symm
    by_cases h0 : d = 0
    · subst h0
      have hg : grp n c (c - (0 + 1)) = ((n % 128 : Nat) : Int) := by
        unfold grp; rw [if_pos (by omega), hexp]; simp
      rw [hg, if_pos (by omega)]
      have : ((n / 128 ^ (0 + 1) : Nat) : Int) * 128 + ((n % 128 : Nat) : Int) % 128 = n := by
        rw [show (128 : Nat) ^ (0 + 1) = 128 from rfl]; omega
      rw [this]; simp
    · have hg : grp n c (c - (d + 1)) = ((n / 128 ^ d % 128 : Nat) : Int) + 128 := by
        unfold grp; rw [if_neg (by omega), hexp]
      rw [hg, if_neg (by omega)]
      have e : ((n / 128 ^ (d + 1) : Nat) : Int) * 128 + (((n / 128 ^ d % 128 : Nat) : Int) + 128) % 128 = ((n / 128 ^ d : Nat) : Int) := by
        rw [hstep]; omega
      rw [e, ih (by omega) (by omega) (p + 1)]
      simp; omega
theorem putN_len_posS (n : Nat) : 1 ≤ (putN n).length := by rw [putN, putL_len]; exact (cnt_ok n).pos
theorem getL_putNS (n : Nat) (hn : n < 9223372036854775808) (rest : List Int) (p : Int) : getL (putN n ++ rest) 0 p = ((n : Int), p + (putN n).length, 0) := by
  have hc := cnt_ok n
  have h := getL_putS n (cnt n) hn rest (cnt n) hc.pos (Nat.le_refl _) p
  rw [Nat.sub_self, List.drop_zero, Nat.div_eq_of_lt hc.top] at h
  rw [putN, putL_len]
  exact h
theorem putN_firstS (n : Nat) (rest : List Int) : (putN n ++ rest).getD 0 0 ≠ 128 := by
  have hc := cnt_ok n
  have hp := hc.pos
  have e : (putN n ++ rest).getD 0 0 = grp n (cnt n) 0 := by
    rw [List.getD_eq_getElem?_getD, List.getElem?_append_left (by have := putN_len_posS n; omega)]
    simp [putN, putL, show 0 < cnt n by omega]
  rw [e]
  unfold grp
  split
  · rename_i h1
    have := Nat.mod_lt (n / 128 ^ (cnt n - 1 - 0)) (show 0 < 128 by decide)
    omega
  · rename_i h1
    rcases hc.low with h2 | h2
    · omega
    · have h3 : 1 ≤ n / 128 ^ (cnt n - 1) := (Nat.le_div_iff_mul_le (Nat.pow_pos (by decide))).2 (by omega)
      have h4 : n / 128 ^ (cnt n - 1) < 128 := by
        rw [Nat.div_lt_iff_lt_mul (Nat.pow_pos (by decide)), Nat.mul_comm, ← Nat.pow_succ, show (cnt n - 1).succ = cnt n by omega]
        exact hc.top
      rw [show cnt n - 1 - 0 = cnt n - 1 by omega, Nat.mod_eq_of_lt h4]
      omega
/-- A number that is written somewhere is read there. -/
theorem getN_there (pre rest : List Int) (n : Int) (h0 : 0 ≤ n) (h1 : n ≤ 9223372036854775807) : getN (pre ++ (putI n ++ rest)) (pre.length : Int) = (n, (pre.length : Int) + (putI n).length, 0) := by
  have e : putI n = putN n.toNat := by unfold putI; rw [if_neg (by omega)]
  rw [e, getN, if_neg (by rw [List.length_append]; omega), Int.toNat_natCast, List.drop_left, getL_putNS _ (by omega), if_neg]
  · rw [show ((n.toNat : Nat) : Int) = n by omega]
  · rw [List.getD_eq_getElem?_getD, List.getElem?_append_right (Nat.le_refl _), Nat.sub_self, ← List.getD_eq_getElem?_getD]
    exact putN_firstS _ _
def hiL (n c : Nat) : List Int := (List.range c).map fun j => ((n / 128 ^ (c - 1 - j) % 128 : Nat) : Int) + 128
theorem pow_part {n c j : Nat} (h : j < c) : n / 128 ^ (c + 1 - 1 - j) = n / 128 / 128 ^ (c - 1 - j) := by
  rw [Nat.div_div_eq_div_mul, show c + 1 - 1 - j = 1 + (c - 1 - j) by omega, Nat.pow_add, Nat.pow_one]
theorem hiL_succ (n c : Nat) : hiL n (c + 1) = hiL (n / 128) c ++ [((n % 128 : Nat) : Int) + 128] := by
  unfold hiL
  rw [List.range_succ, List.map_append]
  congr 1
  · refine List.map_congr_left fun j hj => ?_
    rw [pow_part (List.mem_range.1 hj)]
  · simp
theorem putL_succ (n c : Nat) : putL n (c + 1) = hiL (n / 128) c ++ [((n % 128 : Nat) : Int)] := by
  unfold putL hiL
  rw [List.range_succ, List.map_append]
  congr 1
  · refine List.map_congr_left fun j hj => ?_
    have hj := List.mem_range.1 hj
    unfold grp
    rw [if_neg (by omega), pow_part hj]
  · simp [grp]
theorem cnt_big {n : Nat} (h : 128 ≤ n) : cnt n = cnt (n / 128) + 1 := by
  have k := cnt_ok (n / 128)
  refine (cnt_of ⟨by omega, ?_, .inr ?_⟩).symm
  · have := k.top
    rw [Nat.pow_succ]
    omega
  · rw [Nat.add_sub_cancel]
    rcases k.low with h1 | h1
    · rw [h1]; omega
    · have e : 128 ^ cnt (n / 128) = 128 ^ (cnt (n / 128) - 1) * 128 := by rw [← Nat.pow_succ, show (cnt (n / 128) - 1).succ = cnt (n / 128) by have := k.pos; omega]
      rw [e]
      omega
theorem cnt_small {n : Nat} (h : n < 128) : cnt n = 1 := (cnt_of ⟨Nat.le_refl _, by omega, .inl rfl⟩).symm
/-- The groups ahead of the last one. -/
def hiN (n : Nat) : List Int := if n = 0 then [] else hiL n (cnt n)
theorem putN_eq (n : Nat) : putN n = hiN (n / 128) ++ [((n % 128 : Nat) : Int)] := by
  unfold putN hiN
  by_cases h : n < 128
  · rw [cnt_small h, putL_succ, if_pos (by omega)]
    rfl
  · rw [cnt_big (by omega), putL_succ, if_neg (by omega)]
theorem hiN_eq {n : Nat} (h0 : 0 < n) : hiN n = hiN (n / 128) ++ [((n % 128 : Nat) : Int) + 128] := by
  unfold hiN
  rw [if_neg (by omega)]
  by_cases h : n < 128
  · rw [cnt_small h, hiL_succ, if_pos (by omega)]
    rfl
  · rw [cnt_big (by omega), hiL_succ, if_neg (by omega)]
theorem getL_back : ∀ (l : List Int) (m : Nat) (p v q : Int), (∀ x ∈ l, 0 ≤ x ∧ x ≤ 255) → getL l m p = (v, q, 0) → (0 < m ∨ l.head? ≠ some 128) →
    ∃ d : Nat, q = p + d ∧ d ≤ l.length ∧ 0 ≤ v ∧ putN v.toNat = hiN m ++ l.take d
  | [], m, p, v, q, _, h, _ => by rw [getL] at h; simp at h
  | x :: r, m, p, v, q, hb, h, hm => by
    have hx := hb x (by simp)
    rw [getL] at h
    split at h
    · simp at h
    · split at h
      · rename_i h1 h2
        simp only [Prod.mk.injEq, and_true] at h
        obtain ⟨rfl, rfl⟩ := h
        refine ⟨1, rfl, by simp, by omega, ?_⟩
        rw [putN_eq, show ((m : Int) * 128 + x % 128).toNat / 128 = m by omega, show ((((m : Int) * 128 + x % 128).toNat % 128 : Nat) : Int) = x by omega]
        rfl
      · rename_i h1 h2
        have e : (m : Int) * 128 + x % 128 = ((m * 128 + (x % 128).toNat : Nat) : Int) := by omega
        rw [e] at h
        have hpos : 0 < m * 128 + (x % 128).toNat := by
          rcases hm with hm | hm
          · omega
          · have : x ≠ 128 := fun e => hm (by rw [e]; rfl)
            omega
        obtain ⟨d, e1, e2, e3, e4⟩ := getL_back r _ _ _ _ (fun y hy => hb y (by simp [hy])) h (.inl hpos)
        refine ⟨d + 1, by omega, by simp; omega, e3, ?_⟩
        rw [e4, hiN_eq hpos, show (m * 128 + (x % 128).toNat) / 128 = m by omega, show (((m * 128 + (x % 128).toNat) % 128 : Nat) : Int) + 128 = x by omega, List.append_assoc]
        rfl
theorem getN_back {bs : List Int} (hb : ∀ k, 0 ≤ bs.getD k 0 ∧ bs.getD k 0 ≤ 255) {p : Nat} (hp : p < bs.length) (hc : (getN bs p).2.2 = 0) :
    ∃ d : Nat, (getN bs p).2.1 = ((p + d : Nat) : Int) ∧ p + d ≤ bs.length ∧ 0 ≤ (getN bs p).1 ∧ putI (getN bs p).1 = (bs.drop p).take d := by
  unfold getN at hc ⊢
  rw [if_neg (by omega)] at hc ⊢
  rw [Int.toNat_natCast] at hc ⊢
  split at hc
  · simp at hc
  · rename_i h128
    rw [if_neg h128]
    obtain ⟨⟨v, q, cd⟩, ht⟩ : ∃ t, t = getL (bs.drop p) ((0 : Nat) : Int) p := ⟨_, rfl⟩
    have ht' : getL (bs.drop p) 0 p = (v, q, cd) := ht.symm
    rw [ht'] at hc ⊢
    simp only at hc
    subst hc
    obtain ⟨d, e1, e2, e3, e4⟩ := getL_back _ 0 p v q (fun x hx => by
        obtain ⟨j, hj, rfl⟩ := List.getElem_of_mem hx
        have h2 := hb (p + j)
        rw [List.length_drop] at hj
        rw [List.getElem_drop]
        rwa [List.getD_eq_getElem?_getD, List.getElem?_eq_getElem (by omega), Option.getD_some] at h2) ht.symm
      (.inr (by
        rw [drop_cons hp, List.head?_cons]
        intro e
        exact h128 (Option.some.inj e)))
    rw [List.length_drop] at e2
    refine ⟨d, by rw [e1]; push_cast; rfl, by omega, e3, ?_⟩
    unfold putI
    rw [if_neg (show ¬ v < 0 by omega), e4]
    simp [hiN]
theorem Ro.back {bs : List Int} (hb : ∀ k, 0 ≤ bs.getD k 0 ∧ bs.getD k 0 ≤ 255) {p : Int} {r : Option (List Int)} (h : Ro bs p r) : ∀ l, r = some l → ∀ k : Nat, p = k → (∀ v ∈ l, 0 ≤ v) ∧ bs.drop k = l.flatMap putI := by
  induction h with
  | fin p h => intro l hl k hk; simp at hl; subst hl; refine ⟨by simp, ?_⟩; rw [List.drop_eq_nil_of_le (by omega)]; rfl
  | bad p h hc => intro l hl; simp at hl
  | step p r h hc hr ih =>
    intro l hl k hk
    cases r with
    | none => simp at hl
    | some r =>
      simp at hl
      subst hl
      subst hk
      obtain ⟨d, e1, e2, e3, e4⟩ := getN_back hb (by omega) hc
      obtain ⟨i1, i2⟩ := ih r rfl (k + d) e1
      refine ⟨fun v hv => ?_, ?_⟩
      · rcases List.mem_cons.1 hv with rfl | hv
        · exact e3
        · exact i1 v hv
      · rw [List.flatMap_cons, e4, ← i2, ← List.drop_drop, List.take_append_drop]
theorem ro_there : ∀ (l : List Int) (pre : List Int), (∀ v ∈ l, 0 ≤ v ∧ v ≤ 9223372036854775807) → Ro (pre ++ l.flatMap putI) pre.length (some l)
  | [], pre, _ => .fin _ (by simp)
  | v :: l, pre, h => by
    have hv := h v (by simp)
    have hl := ro_there l (pre ++ putI v) (fun x hx => h x (by simp [hx]))
    have e : pre ++ (v :: l).flatMap putI = pre ++ (putI v ++ l.flatMap putI) := by rw [List.flatMap_cons]
    have hg := getN_there pre (l.flatMap putI) v hv.1 hv.2
    have hp : 1 ≤ (putI v).length := by
      unfold putI
      rw [if_neg (by omega)]
      exact putN_len_posS _
    rw [e]
    have h1 : ((getN (pre ++ (putI v ++ l.flatMap putI)) pre.length).1) = v := by rw [hg]
    have h2 : ((getN (pre ++ (putI v ++ l.flatMap putI)) pre.length).2.1) = ((pre ++ putI v).length : Nat) := by rw [hg, List.length_append]; push_cast; rfl
    have st := Ro.step (bs := pre ++ (putI v ++ l.flatMap putI)) (pre.length : Int) (some l) (by simp only [List.length_append]; omega) (by rw [hg]) (by rw [h2, ← List.append_assoc]; exact hl)
    rw [h1] at st
    exact st
theorem two_arcs {zs : List Int} (h : 2 ≤ zs.length) : ∃ a b r, zs = a :: b :: r := by
  match zs, h with
  | a :: b :: r, _ => exact ⟨a, b, r, rfl⟩
theorem oidT_cons (a b : Int) (r : List Int) : oidT (a :: b :: r) (a :: b :: r).length = ((40 * a + b) :: r).flatMap putI := by
  unfold oidT
  rw [List.take_length]
  rfl
/-- What is written is read back. -/
theorem oid_there {zs bs : List Int} (h : oidRes zs bs true) : oidR bs zs true := by
  rcases h with ⟨_, h1, rfl⟩ | ⟨h, _⟩
  · obtain ⟨a, b, r, rfl⟩ := two_arcs h1.1.1
    obtain ⟨h2, h3, h4, h5⟩ := h1
    simp only [List.getD_cons_zero, List.getD_cons_succ] at h3 h4
    refine .inl ⟨rfl, (40 * a + b) :: r, ?_, by simp, ?_, ⟨h2, h3, h4, h5⟩⟩
    · rw [oidT_cons]
      have := ro_there ((40 * a + b) :: r) [] (fun v hv => by
        rcases List.mem_cons.1 hv with rfl | hv
        · unfold arc2 at h4; split at h4 <;> omega
        · obtain ⟨j, hj, rfl⟩ := List.getElem_of_mem hv
          have := h5 (j + 2) (by omega) (by simp; omega)
          simp [hj] at this
          omega)
      simpa using this
    · have ha : min ((40 * a + b) / 40) 2 = a := by unfold arc2 at h4; split at h4 <;> omega
      show a :: b :: r = min ((40 * a + b) / 40) 2 :: (40 * a + b - 40 * min ((40 * a + b) / 40) 2) :: r
      rw [ha, show 40 * a + b - 40 * a = b by omega]
  · cases h
/-- What is read is written so. -/
theorem oid_back {zs bs : List Int} (hb : ∀ k, 0 ≤ bs.getD k 0 ∧ bs.getD k 0 ≤ 255) (h : oidR bs zs true) : oidRes zs bs true := by
  rcases h with ⟨_, l, h1, h2, rfl, h3⟩ | ⟨h, _⟩
  · refine .inl ⟨rfl, h3, ?_⟩
    obtain ⟨_, e⟩ := h1.back hb l rfl 0 rfl
    rw [List.drop_zero] at e
    cases l with
    | nil => exact absurd rfl h2
    | cons n r =>
      show bs = oidT (min (n / 40) 2 :: (n - 40 * min (n / 40) 2) :: r) _
      rw [show (split2 (n :: r)).length = (min (n / 40) 2 :: (n - 40 * min (n / 40) 2) :: r).length from rfl, oidT_cons, show 40 * min (n / 40) 2 + (n - 40 * min (n / 40) 2) = n by omega]
      exact e
  · cases h
theorem oid_same {zs zs' bs bs' : List Int} (h : oidRes zs bs true) (k : oidRes zs' bs' true) : bs = bs' ↔ zs = zs' := by
  constructor
  · intro e
    subst e
    exact (oidR_one (oid_there h) (oid_there k)).1
  · intro e
    subst e
    exact (oidRes_one h k).1

end Go.Proofs.YtjdfbebdcpjpiaaDoor
