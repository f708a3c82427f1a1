import Derived.Test.YtbfjkmlmnhphoaaDoorK7
import Derived.Lib.ItoaNum
set_option linter.unusedVariables false
namespace Go.Proofs.YtbfjkmlmnhphoaaDoor
open Go.RowKit

/-- A number's digits, as bytes. -/
def dg (n : Int) : List Int := (Lib.itoa n).map fun b => (b.toNat : Int)
/-- What foldedText tells of a part, of a name. -/
def ftOne (p : PT) : List Int := dg p.attr ++ 61 :: (foldL p.val ++ [10])
def ft : List PT → List Int
  | [] => []
  | p :: ps => ftOne p ++ ft ps
theorem cut_eq {c : Int} : ∀ (a b r s : List Int), c ∉ a → c ∉ b → a ++ c :: r = b ++ c :: s → a = b ∧ r = s
  | [], [], r, s, _, _, h => by simpa using h
  | [], y :: b, r, s, _, hb, h => by
    simp only [List.nil_append, List.cons_append, List.cons.injEq] at h
    exact absurd (by rw [h.1]; exact List.Mem.head _) hb
  | x :: a, [], r, s, ha, _, h => by
    simp only [List.nil_append, List.cons_append, List.cons.injEq] at h
    exact absurd (by rw [← h.1]; exact List.Mem.head _) ha
  | x :: a, y :: b, r, s, ha, hb, h => by
    simp only [List.cons_append, List.cons.injEq] at h
    have := cut_eq a b r s (fun q => ha (List.Mem.tail _ q)) (fun q => hb (List.Mem.tail _ q)) h.2
    exact ⟨by rw [h.1, this.1], this.2⟩
theorem dg_table : ((List.range 21).all fun m => !((dg (m : Int)).contains 61) && (List.range 21).all fun n => decide (m = n) || !(dg (m : Int) == dg (n : Int))) = true := by decide +kernel
theorem dg_61 (n : Int) (h0 : 1 ≤ n) (h1 : n ≤ 20) : (61 : Int) ∉ dg n := by
  obtain ⟨k, rfl⟩ : ∃ k : Nat, n = k := ⟨n.toNat, by omega⟩
  have := List.all_eq_true.1 dg_table k (List.mem_range.2 (by omega))
  simp only [Bool.and_eq_true, Bool.not_eq_true', List.contains_eq_mem, decide_eq_false_iff_not] at this
  exact this.1
theorem dg_inj (m n : Int) (h0 : 1 ≤ m) (h1 : m ≤ 20) (h2 : 1 ≤ n) (h3 : n ≤ 20) (h : dg m = dg n) : m = n := by
  obtain ⟨k, rfl⟩ : ∃ k : Nat, m = k := ⟨m.toNat, by omega⟩
  obtain ⟨j, rfl⟩ : ∃ k : Nat, n = k := ⟨n.toNat, by omega⟩
  have := List.all_eq_true.1 dg_table k (List.mem_range.2 (by omega))
  simp only [Bool.and_eq_true] at this
  have h4 := List.all_eq_true.1 this.2 j (List.mem_range.2 (by omega))
  simp only [h, Bool.or_eq_true, decide_eq_true_eq, beq_self_eq_true, Bool.not_true, Bool.false_eq_true, or_false] at h4
  rw [h4]
theorem strNums_inj {xs ys : List Int} (hx : ∀ k, 0 ≤ xs.getD k 0 ∧ xs.getD k 0 ≤ 255) (hy : ∀ k, 0 ≤ ys.getD k 0 ∧ ys.getD k 0 ≤ 255) (h : strOfNums xs = strOfNums ys) : xs = ys := by
  have hl : xs.length = ys.length := by rw [← strOfNums_size xs, ← strOfNums_size ys, h]
  have hd : xs.map (fun n => UInt8.ofNat n.toNat) = ys.map (fun n => UInt8.ofNat n.toNat) := by rw [← strOfNums_data, ← strOfNums_data, h]
  apply List.ext_getElem hl
  intro i h1 h2
  have e : UInt8.ofNat (xs[i]).toNat = UInt8.ofNat (ys[i]).toNat := by
    have := congrArg (fun l => l[i]?) hd
    simpa [h1, h2] using this
  have e2 := congrArg UInt8.toNat e
  have bx := hx i
  have by' := hy i
  simp only [List.getD_eq_getElem?_getD, List.getElem?_eq_getElem h1, List.getElem?_eq_getElem h2, Option.getD_some] at bx by'
  simp only [UInt8.toNat_ofNat'] at e2
  omega
theorem fo_rng (s : ByteArray) : ∀ k, printP s k → ∀ b ∈ (fo s k).1, 32 ≤ b ∧ b ≤ 126
  | 0, _, b, hb => by simp [fo] at hb
  | k + 1, hp, b, hb => by
    have ih := fo_rng s k (fun j hj => hp j (by omega))
    have h := hp k (by omega)
    rw [fo] at hb
    split at hb
    · exact ih b hb
    · simp only [List.mem_append, List.mem_singleton] at hb
      rcases hb with (hb | hb) | hb
      · exact ih b hb
      · split at hb
        · simp only [List.mem_singleton] at hb; omega
        · simp at hb
      · subst hb
        unfold low
        split <;> omega
theorem foldL_rng (x : PT) (h : partP x) : ∀ b ∈ foldL x.val, 32 ≤ b ∧ b ≤ 126 := fun b hb => fo_rng x.val x.val.size h.2.2.1 b hb
theorem foldL_10 (x : PT) (h : partP x) : (10 : Int) ∉ foldL x.val := fun e => by have := foldL_rng x h 10 e; omega
theorem getD_rng {l : List Int} (h : ∀ b ∈ l, 32 ≤ b ∧ b ≤ 126) (k : Nat) : 0 ≤ l.getD k 0 ∧ l.getD k 0 ≤ 255 := by
  rw [List.getD_eq_getElem?_getD]
  by_cases hk : k < l.length
  · rw [List.getElem?_eq_getElem hk]
    have := h _ (List.getElem_mem hk)
    simp only [Option.getD_some]
    omega
  · rw [List.getElem?_eq_none (by omega)]; simp
theorem FS_eq {x y : PT} (hx : partP x) (hy : partP y) : FS x.val = FS y.val ↔ foldL x.val = foldL y.val :=
  ⟨fun h => strNums_inj (getD_rng (foldL_rng x hx)) (getD_rng (foldL_rng y hy)) h, fun h => by unfold FS; rw [h]⟩
theorem ft_cons (p : PT) (ps : List PT) : ft (p :: ps) = dg p.attr ++ 61 :: (foldL p.val ++ 10 :: ft ps) := by
  rw [ft, ftOne]; simp
theorem ft_inj : ∀ (xs ys : List PT), (∀ p ∈ xs, partP p) → (∀ p ∈ ys, partP p) → (ft xs = ft ys ↔ xs.length = ys.length ∧ ∀ k, k < ys.length → alikeP (xs.getD k default) (ys.getD k default))
  | [], [], _, _ => by simp [ft]
  | [], y :: ys, _, _ => by rw [ft_cons]; simp [ft]
  | x :: xs, [], _, _ => by rw [ft_cons]; simp [ft]
  | x :: xs, y :: ys, hx, hy => by
    have ih := ft_inj xs ys (fun p q => hx p (List.Mem.tail _ q)) (fun p q => hy p (List.Mem.tail _ q))
    have px := hx x (List.Mem.head _)
    have py := hy y (List.Mem.head _)
    rw [ft_cons, ft_cons]
    constructor
    · intro h
      obtain ⟨e1, e2⟩ := cut_eq _ _ _ _ (dg_61 _ px.1.1 px.1.2) (dg_61 _ py.1.1 py.1.2) h
      obtain ⟨e3, e4⟩ := cut_eq _ _ _ _ (foldL_10 x px) (foldL_10 y py) e2
      obtain ⟨e5, e6⟩ := ih.1 e4
      refine ⟨by simp [e5], fun k hk => ?_⟩
      cases k with
      | zero => exact ⟨dg_inj _ _ px.1.1 px.1.2 py.1.1 py.1.2 e1, (FS_eq px py).2 e3⟩
      | succ k => exact e6 k (by simpa using hk)
    · rintro ⟨e1, e2⟩
      have h0 := e2 0 (by simp)
      have e4 := ih.2 ⟨by simpa using e1, fun k hk => e2 (k + 1) (by simpa using hk)⟩
      have a1 : x.attr = y.attr := h0.1
      have a2 : foldL x.val = foldL y.val := (FS_eq px py).1 h0.2
      rw [a1, a2, e4]
theorem nameP_all {xs : List PT} (h : nameP xs) : ∀ p ∈ xs, partP p := fun p hp => by
  obtain ⟨k, hk, rfl⟩ := List.getElem_of_mem hp
  have := h.2 k hk
  rw [List.getD_eq_getElem?_getD, List.getElem?_eq_getElem hk] at this
  exact this
/-- The folded texts of right names are alike just where the names are the same. -/
theorem ft_same {xs ys : List PT} (hx : nameP xs) (hy : nameP ys) : ft xs = ft ys ↔ sameP xs ys := by
  rw [ft_inj xs ys (nameP_all hx) (nameP_all hy)]
  unfold sameP underP
  constructor
  · rintro ⟨h1, h2⟩
    exact ⟨h1, hx, hy, by omega, h2⟩
  · rintro ⟨h1, _, _, _, h2⟩
    exact ⟨h1, h2⟩

/-- A reason that a list may tell. -/
def reaP (x : CP) (r : Int) : Prop := (r = 7 ∧ 0 ≤ x.base) ∨ ((1 ≤ r ∧ r ≤ 6) ∧ x.scope / 2 ^ r.toNat % 2 = 1)
/-- An entry that is right in its list. -/
def entP (x : CP) (y : GP) : Prop := (1 ≤ y.ser ∧ y.ser ≤ 4611686018427387904) ∧ timeP y.tm ∧ y.tm ≤ x.tm ∧ (x.ind = true → calledP y.parts) ∧ (x.ind = false → y.parts = []) ∧ reaP x y.rs
def crhP (x : CP) : Prop := calledP x.parts ∧ (0 ≤ x.num ∧ x.num ≤ 1099511627776) ∧ (-1 ≤ x.base ∧ x.base ≤ x.num - 1) ∧ timeP x.tm ∧ timeP x.next ∧ x.tm ≤ x.next ∧ (2 ≤ x.scope ∧ x.scope ≤ 126 ∧ x.scope % 2 = 0) ∧ x.ents.length ≤ 60 ∧ x.sig.length ≤ 500
/-- A list that is right. -/
def crlP (x : CP) : Prop := crhP x ∧ (∀ i, i < x.ents.length → entP x (x.ents.getD i default)) ∧ ∀ i k, i < x.ents.length → k < i → ¬ likeP (x.ents.getD k default) (x.ents.getD i default)
theorem entP_name {x : CP} {y : GP} (h : entP x y) : nameP y.parts := by
  cases hi : x.ind with
  | true => exact (h.2.2.2.1 hi).1
  | false => rw [h.2.2.2.2.1 hi]; exact ⟨by simp, fun k hk => absurd hk (Nat.not_lt_zero _)⟩

end Go.Proofs.YtbfjkmlmnhphoaaDoor
