import Derived.Test.YtdkgilkjcndonaaPL1
namespace Go.Proofs.Ytdkgilkjcndonaa
open Go.RowKit

/-- A counter, behind a certificate. -/
def nxt (c : Int) (self : Bool) (says : Int) : Int :=
  if 0 ≤ says ∧ says < (if self = false ∧ 0 < c then c - 1 else c) then says else (if self = false ∧ 0 < c then c - 1 else c)
def ctr0 (now : Bool) (n : Nat) : Int := if now then 0 else (n : Int) + 1
def ctr (f : PC → Int) (c0 : Int) (xs : List PC) : Nat → Int
  | 0 => c0
  | i + 1 => nxt (ctr f c0 xs i) (xs.getD i default).self (f (xs.getD i default))
theorem nxt_bounds {c : Int} (self : Bool) (says : Int) (h0 : 0 ≤ c) (h1 : c ≤ 9) : 0 ≤ nxt c self says ∧ nxt c self says ≤ 9 := by
  unfold nxt
  split <;> split <;> omega
theorem ctr_bounds (f : PC → Int) {c0 : Int} (xs : List PC) (h0 : 0 ≤ c0) (h1 : c0 ≤ 9) : ∀ i, 0 ≤ ctr f c0 xs i ∧ ctr f c0 xs i ≤ 9
  | 0 => ⟨h0, h1⟩
  | i + 1 => nxt_bounds _ _ (ctr_bounds f xs h0 h1 i).1 (ctr_bounds f xs h0 h1 i).2
theorem ctr0_bounds (now : Bool) (n : Nat) (h : n ≤ 8) : 0 ≤ ctr0 now n ∧ ctr0 now n ≤ 9 := by
  unfold ctr0
  split <;> omega

/-- What the certificate at i lets in by any. -/
def allIn (xs : List PC) (a0 : Int) (i : Nat) : Prop := 0 < ctr PC.noany a0 xs i ∨ ((xs.getD i default).self = true ∧ i + 1 ≠ xs.length)
instance (xs : List PC) (a0 : Int) (i : Nat) : Decidable (allIn xs a0 i) := by unfold allIn; infer_instance
/-- Whether a policy holds at the certificate at i. -/
def hAt (xs : List PC) (a0 : Int) (i : Nat) (q : Int) : Prop := q ∈ (xs.getD i default).pols ∨ (0 ∈ (xs.getD i default).pols ∧ allIn xs a0 i)
instance (xs : List PC) (a0 : Int) (i : Nat) (q : Int) : Decidable (hAt xs a0 i q) := by unfold hAt; infer_instance
/-- The Tos of a policy. -/
def tosOf (ms : List (Int × Int)) (q : Int) : List Int := (ms.filter (fun p => p.1 == q)).map Prod.snd
/-- What a policy means behind the certificate at i. -/
def nx (xs : List PC) (m0 : Int) (i : Nat) (q : Int) : List Int :=
  if tosOf (xs.getD i default).maps q = [] then [q] else if 0 < ctr PC.nomap m0 xs i then tosOf (xs.getD i default).maps q else []
/-- How many chains lead on from a policy, m certificates from the end. -/
def chn (xs : List PC) (m0 a0 : Int) : Nat → Nat → Int → Int
  | 0, _, _ => 0
  | m + 1, i, q => if hAt xs a0 i q then (if m = 0 then 1 else ((nx xs m0 i q).map (fun q' => chn xs m0 a0 m (i + 1) q')).sum) else 0

theorem chn_succ (xs : List PC) (m0 a0 : Int) (m i : Nat) (q : Int) : chn xs m0 a0 (m + 1) i q = if hAt xs a0 i q then (if m = 0 then 1 else ((nx xs m0 i q).map (fun q' => chn xs m0 a0 m (i + 1) q')).sum) else 0 := rfl
theorem tos_len (ms : List (Int × Int)) (q : Int) : (tosOf ms q).length ≤ ms.length := by
  unfold tosOf
  rw [List.length_map]
  exact List.length_filter_le _ _
theorem tos_next (ms : List (Int × Int)) (q : Int) (k : Nat) (h : k < ms.length) : tosOf (ms.take (k + 1)) q = tosOf (ms.take k) q ++ (if (ms.getD k (0, 0)).1 = q then [(ms.getD k (0, 0)).2] else []) := by
  have e : ms.getD k (0, 0) = ms[k] := by simp [h]
  rw [e, List.take_succ_eq_append_getElem h]
  unfold tosOf
  rw [List.filter_append, List.map_append]
  by_cases hq : (ms[k]).1 = q
  · simp [hq]
  · have : (ms[k].fst == q) = false := beq_false_of_ne hq
    simp [this, hq]
theorem tos_all (ms : List (Int × Int)) (q : Int) (k : Nat) (h : ms.length ≤ k) : tosOf (ms.take k) q = tosOf ms q := by rw [List.take_of_length_le h]

theorem sum_nonneg {l : List Int} (h : ∀ x ∈ l, 0 ≤ x) : 0 ≤ l.sum := by
  induction l with
  | nil => simp
  | cons a r ih =>
    rw [List.sum_cons]
    have h1 := h a (by simp)
    have h2 := ih (fun x hx => h x (by simp [hx]))
    omega
theorem sum_pos {l : List Int} (h : ∀ x ∈ l, 0 ≤ x) : 0 < l.sum ↔ ∃ x ∈ l, 0 < x := by
  induction l with
  | nil => simp
  | cons a r ih =>
    rw [List.sum_cons]
    have h1 := h a (by simp)
    have h2 : ∀ x ∈ r, 0 ≤ x := fun x hx => h x (by simp [hx])
    have h3 := sum_nonneg h2
    have h4 := ih h2
    constructor
    · intro hs
      by_cases ha : 0 < a
      · exact ⟨a, by simp, ha⟩
      · obtain ⟨x, hx, hx0⟩ := h4.1 (by omega)
        exact ⟨x, by simp [hx], hx0⟩
    · rintro ⟨x, hx, hx0⟩
      rcases List.mem_cons.1 hx with rfl | hx
      · omega
      · have := h4.2 ⟨x, hx, hx0⟩
        omega
theorem sum_le {l : List Int} {c : Int} (h : ∀ x ∈ l, x ≤ c) : l.sum ≤ l.length * c := by
  induction l with
  | nil => simp
  | cons a r ih =>
    rw [List.sum_cons, List.length_cons]
    have h1 := h a (by simp)
    have h2 := ih (fun x hx => h x (by simp [hx]))
    have e : ((r.length + 1 : Nat) : Int) * c = (r.length : Int) * c + c := by rw [Int.natCast_add, Int.add_mul]; simp
    omega
theorem chn_nonneg (xs : List PC) (m0 a0 : Int) : ∀ m i q, 0 ≤ chn xs m0 a0 m i q
  | 0, _, _ => Int.le_refl _
  | m + 1, i, q => by
    unfold chn
    split
    · split
      · decide
      · refine sum_nonneg (fun x hx => ?_)
        obtain ⟨q', _, rfl⟩ := List.mem_map.1 hx
        exact chn_nonneg xs m0 a0 m (i + 1) q'
    · decide
theorem nx_len (xs : List PC) (m0 : Int) (i : Nat) (q : Int) (h : (xs.getD i default).maps.length ≤ 6) : (nx xs m0 i q).length ≤ 6 := by
  have := tos_len (xs.getD i default).maps q
  unfold nx
  split
  · simp
  · split
    · omega
    · simp
def six (m : Nat) : Int := ((6 ^ m : Nat) : Int)
theorem six_succ (m : Nat) : six (m + 1) = 6 * six m := by unfold six; rw [Nat.pow_succ]; omega
theorem six_pos (m : Nat) : 0 < six m := by unfold six; have : 0 < 6 ^ m := Nat.pow_pos (by decide); omega
theorem chn_le (xs : List PC) (m0 a0 : Int) (hm : ∀ i, (xs.getD i default).maps.length ≤ 6) : ∀ m i q, chn xs m0 a0 m i q ≤ six m
  | 0, _, _ => Int.le_of_lt (six_pos 0)
  | m + 1, i, q => by
    have p := six_pos m
    have e := six_succ m
    unfold chn
    split
    · split
      · omega
      · have hs := sum_le (l := (nx xs m0 i q).map (fun q' => chn xs m0 a0 m (i + 1) q')) (c := six m) (fun x hx => by
          obtain ⟨q', _, rfl⟩ := List.mem_map.1 hx
          exact chn_le xs m0 a0 hm m (i + 1) q')
        have hl := nx_len xs m0 i q (hm i)
        rw [List.length_map] at hs
        have h6 : ((nx xs m0 i q).length : Int) * six m ≤ 6 * six m := Int.mul_le_mul_of_nonneg_right (by omega) (Int.le_of_lt p)
        omega
    · omega

theorem chn_last (xs : List PC) (m0 a0 : Int) (i : Nat) (q : Int) : 0 < chn xs m0 a0 1 i q ↔ hAt xs a0 i q := by
  unfold chn
  by_cases h : hAt xs a0 i q
  · simp [h]
  · simp [h]
theorem chn_step (xs : List PC) (m0 a0 : Int) (m i : Nat) (q : Int) (hm : m ≠ 0) : 0 < chn xs m0 a0 (m + 1) i q ↔ hAt xs a0 i q ∧ ∃ q' ∈ nx xs m0 i q, 0 < chn xs m0 a0 m (i + 1) q' := by
  rw [chn_succ]
  by_cases h : hAt xs a0 i q
  · rw [if_pos h, if_neg hm, sum_pos (fun x hx => by obtain ⟨q', _, rfl⟩ := List.mem_map.1 hx; exact chn_nonneg xs m0 a0 m (i + 1) q')]
    constructor
    · rintro ⟨x, hx, hx0⟩
      obtain ⟨q', hq', rfl⟩ := List.mem_map.1 hx
      exact ⟨h, q', hq', hx0⟩
    · rintro ⟨_, q', hq', h0⟩
      exact ⟨_, List.mem_map.2 ⟨q', hq', rfl⟩, h0⟩
  · rw [if_neg h]
    exact ⟨fun h' => absurd h' (by decide), fun h' => absurd h'.1 h⟩

/-- Behind a certificate: what is meant by some that hold. -/
theorem means_step (xs : List PC) (m0 a0 : Int) (m i : Nat) (hm : m ≠ 0) (means means' : List Int) (h : ∀ x, x ∈ means' ↔ ∃ q ∈ means, hAt xs a0 i q ∧ x ∈ nx xs m0 i q) :
    (∃ q ∈ means, 0 < chn xs m0 a0 (m + 1) i q) ↔ ∃ q ∈ means', 0 < chn xs m0 a0 m (i + 1) q := by
  constructor
  · rintro ⟨q, hq, h0⟩
    obtain ⟨h1, q', h2, h3⟩ := (chn_step xs m0 a0 m i q hm).1 h0
    exact ⟨q', (h q').2 ⟨q, hq, h1, h2⟩, h3⟩
  · rintro ⟨q', hq', h0⟩
    obtain ⟨q, hq, h1, h2⟩ := (h q').1 hq'
    exact ⟨q, hq, (chn_step xs m0 a0 m i q hm).2 ⟨h1, q', h2, h0⟩⟩

/-- A certificate is right. -/
def certP (x : PC) : Prop := (x.pols.length ≤ 6 ∧ x.maps.length ≤ 6) ∧ ((-1 ≤ x.need ∧ x.need ≤ 10) ∧ (-1 ≤ x.nomap ∧ x.nomap ≤ 10) ∧ (-1 ≤ x.noany ∧ x.noany ≤ 10)) ∧ (∀ j, j < x.pols.length → 0 ≤ x.pols.getD j 0 ∧ x.pols.getD j 0 ≤ 1000) ∧ unl x.pols ∧ (∀ j, j < x.maps.length → (1 ≤ (x.maps.getD j (0, 0)).1 ∧ (x.maps.getD j (0, 0)).1 ≤ 1000) ∧ (1 ≤ (x.maps.getD j (0, 0)).2 ∧ (x.maps.getD j (0, 0)).2 ≤ 1000))
/-- A path is right. -/
def pathP (xs : List PC) : Prop := (1 ≤ xs.length ∧ xs.length ≤ 8) ∧ ∀ j, j < xs.length → certP (xs.getD j default)
theorem pathP.maps {xs : List PC} (h : pathP xs) (i : Nat) : (xs.getD i default).maps.length ≤ 6 := by
  by_cases hi : i < xs.length
  · exact (h.2 i hi).1.2
  · have e : xs.getD i default = default := by simp [show xs.length ≤ i by omega]
    rw [e]; exact Nat.zero_le _
/-- A policy holds. -/
def polP (xs : List PC) (p : Int) (noMap noAny : Bool) : Prop := pathP xs ∧ (1 ≤ p ∧ p ≤ 1000) ∧ 0 < chn xs (ctr0 noMap xs.length) (ctr0 noAny xs.length) xs.length 0 p

end Go.Proofs.Ytdkgilkjcndonaa
