import Derived.Test.YtoncodoimnideaaGreatDoorH3
import Derived.Lib.SplitLaws
import Derived.Lib.Split
namespace Go.Proofs.YtoncodoimnideaaGreatDoor
open Go.RowKit

/-- A text cut at a sign: from i on, k bytes being left, the piece under way beginning at f. -/
def pcs (s : ByteArray) (c : Int) : Nat → Nat → Nat → List ByteArray
  | 0, f, i => [s.extract f i]
  | k + 1, f, i => if cAt s i = c then s.extract f i :: pcs s c k (i + 1) (i + 1) else pcs s c k f (i + 1)
def cutAt (s : ByteArray) (c : Int) : List ByteArray := pcs s c s.size 0 0

theorem occ_one (l : List UInt8) (c : UInt8) (j : Nat) : Lib.occAt l [c] j = true ↔ l[j]? = some c := by
  unfold Lib.occAt
  rw [← List.head?_drop]
  cases l.drop j with
  | nil => simp
  | cons a r =>
    simp only [List.isPrefixOf, List.head?_cons, Bool.and_true, beq_iff_eq, Option.some.injEq]
    exact eq_comm

theorem cAt_some {s : ByteArray} {c : UInt8} {j : Nat} (hj : j < s.size) : s.data.toList[j]? = some c ↔ cAt s j = (c.toNat : Int) := by
  have h' : j < s.data.toList.length := by simpa using hj
  unfold cAt
  rw [List.getD_eq_getElem?_getD, List.getElem?_eq_getElem h']
  simp only [Option.some.injEq, Option.getD_some]
  constructor
  · intro h; rw [h]
  · intro h; exact UInt8.toNat_inj.1 (by omega)

theorem ext_get (s : ByteArray) (f j : Nat) : (s.extract f s.size).data.toList[j]? = s.data.toList[f + j]? := by
  rw [Lib.extract_data, List.getElem?_take, List.getElem?_drop]
  split
  · rfl
  · rw [List.getElem?_eq_none]
    rw [Lib.size_eq] at *
    omega

theorem ext_ext (s : ByteArray) (f a b : Nat) (hf : f + b ≤ s.size) : (s.extract f s.size).extract a b = s.extract (f + a) (f + b) := by
  rw [Lib.extract_eq, Lib.extract_data, Lib.extract_eq]
  congr 2
  rw [Lib.size_eq] at hf
  apply List.ext_getElem?
  intro j
  simp only [List.getElem?_take, List.getElem?_drop, Lib.size_eq]
  by_cases h : j < b - a
  · rw [if_pos h, if_pos (by omega), if_pos (by omega), Nat.add_assoc]
  · rw [if_neg h, if_neg (by omega)]

theorem ext_size (s : ByteArray) (f : Nat) : (s.extract f s.size).size = s.size - f := by
  rw [Lib.size_eq, Lib.extract_data, List.length_take, List.length_drop, Lib.size_eq]; omega

theorem split_pcs (s sep : ByteArray) (cb : UInt8) (hsep : sep.data.toList = [cb]) : ∀ (k f i : Nat), i + k = s.size → f ≤ i → (∀ j, f ≤ j → j < i → cAt s j ≠ (cb.toNat : Int)) →
    Lib.splitB sep 0 (Lib.countB (s.extract f s.size) sep) (s.extract f s.size) = pcs s (cb.toNat : Int) k f i
  | 0, f, i, hi, hf, hno => by
    have e : i = s.size := by omega
    subst e
    have hx : Lib.indexB (s.extract f s.size) sep = -1 := by
      show Lib.index _ _ = _
      rw [hsep]
      refine Lib.index_none fun j _ => ?_
      rw [Bool.eq_false_iff]
      intro h
      rw [occ_one, ext_get] at h
      have hl : f + j < s.data.toList.length := (List.getElem?_eq_some_iff.1 h).1
      rw [← Lib.size_eq] at hl
      exact hno (f + j) (by omega) hl ((cAt_some hl).1 h)
    rw [Lib.splitB_miss _ _ _ _ hx]
    rfl
  | k + 1, f, i, hi, hf, hno => by
    have hlt : i < s.size := by omega
    unfold pcs
    by_cases hc : cAt s i = (cb.toNat : Int)
    · rw [if_pos hc]
      have hsz : sep.size = 1 := by rw [Lib.size_eq, hsep]; rfl
      have hx : Lib.indexB (s.extract f s.size) sep = ((i - f : Nat) : Int) := by
        show Lib.index _ _ = _
        rw [hsep]
        refine Lib.index_first ?_ ?_ ?_
        · rw [← Lib.size_eq, ext_size]; omega
        · rw [occ_one, ext_get, show f + (i - f) = i by omega]
          exact (cAt_some hlt).2 hc
        · intro j hj
          rw [Bool.eq_false_iff]
          intro h
          rw [occ_one, ext_get] at h
          exact hno (f + j) (by omega) (by omega) ((cAt_some (by omega)).1 h)
      have e1 : (s.extract f s.size).extract (i - f + sep.size) (s.extract f s.size).size = s.extract (i + 1) s.size := by
        rw [ext_size, hsz, ext_ext _ _ _ _ (by omega)]
        congr 1 <;> omega
      have e2 : (s.extract f s.size).extract 0 (i - f + 0) = s.extract f i := by
        rw [ext_ext _ _ _ _ (by omega)]
        congr 1 <;> omega
      rw [Lib.countB_hit _ _ _ (by omega) hx, Nat.add_comm, Lib.splitB_hit _ _ _ _ _ hx, e1, e2]
      rw [split_pcs s sep cb hsep k (i + 1) (i + 1) (by omega) (Nat.le_refl _) (fun j h1 h2 => by omega)]
    · rw [if_neg hc]
      exact split_pcs s sep cb hsep k f (i + 1) (by omega) (by omega) (fun j h1 h2 => by
        by_cases e : j = i
        · rw [e]; exact hc
        · exact hno j h1 (by omega))

theorem ext_whole (s : ByteArray) : s.extract 0 s.size = s := by
  rw [Lib.extract_eq, List.drop_zero, Nat.sub_zero, Lib.size_eq, List.take_length, Lib.mk_data]
theorem split_cut (s sep : ByteArray) (cb : UInt8) (hsep : sep.data.toList = [cb]) : Lib.splitB sep 0 (Lib.countB s sep) s = cutAt s (cb.toNat : Int) := by
  have h := split_pcs s sep cb hsep s.size 0 0 (by omega) (Nat.le_refl _) (fun j h1 h2 => by omega)
  rw [ext_whole] at h
  exact h
theorem split_len (s sep : ByteArray) (cb : UInt8) (hsep : sep.data.toList = [cb]) : (cutAt s (cb.toNat : Int)).length = Lib.countB s sep + 1 := by
  rw [← split_cut s sep cb hsep]
  exact Lib.splitB_all sep (by rw [Lib.size_eq, hsep]; exact Nat.le_refl _) 0 _ s rfl
theorem pcs_len (s : ByteArray) (c : Int) : ∀ k f i, 1 ≤ (pcs s c k f i).length ∧ (pcs s c k f i).length ≤ k + 1
  | 0, _, _ => by simp [pcs]
  | k + 1, f, i => by
    unfold pcs
    have h1 := pcs_len s c k (i + 1) (i + 1)
    have h2 := pcs_len s c k f (i + 1)
    split
    · simp only [List.length_cons]; omega
    · omega
theorem cutAt_len (s : ByteArray) (c : Int) : 1 ≤ (cutAt s c).length ∧ (cutAt s c).length ≤ s.size + 1 := pcs_len s c _ _ _

/-- What is cut when the loop stands at i, the piece under way beginning at f. -/
def CutInv (s : ByteArray) (c : Int) (L : List ByteArray) (f i : Nat) : Prop :=
  (i ≤ s.size ∧ f ≤ i ∧ L ++ pcs s c (s.size - i) f i = cutAt s c) ∨ (s.size < i ∧ L = cutAt s c)
theorem CutInv.start (s : ByteArray) (c : Int) : CutInv s c [] 0 0 := .inl ⟨Nat.zero_le _, Nat.le_refl _, rfl⟩
theorem CutInv.hit {s : ByteArray} {c : Int} {L : List ByteArray} {f i : Nat} (h : CutInv s c L f i) (hi : i < s.size) (hc : cAt s i = c) : CutInv s c (L ++ [s.extract f i]) (i + 1) (i + 1) := by
  rcases h with ⟨h1, h2, h3⟩ | ⟨h1, _⟩
  · refine .inl ⟨by omega, Nat.le_refl _, ?_⟩
    rw [← h3, show s.size - i = (s.size - (i + 1)) + 1 by omega, pcs, if_pos hc, List.append_assoc]
    rfl
  · omega
theorem CutInv.miss {s : ByteArray} {c : Int} {L : List ByteArray} {f i : Nat} (h : CutInv s c L f i) (hi : i < s.size) (hc : ¬ cAt s i = c) : CutInv s c L f (i + 1) := by
  rcases h with ⟨h1, h2, h3⟩ | ⟨h1, _⟩
  · refine .inl ⟨by omega, by omega, ?_⟩
    rw [← h3, show s.size - i = (s.size - (i + 1)) + 1 by omega, pcs, if_neg hc]
  · omega
theorem CutInv.last {s : ByteArray} {c : Int} {L : List ByteArray} {f : Nat} (h : CutInv s c L f s.size) : CutInv s c (L ++ [s.extract f s.size]) (s.size + 1) (s.size + 1) := by
  rcases h with ⟨h1, h2, h3⟩ | ⟨h1, _⟩
  · refine .inr ⟨by omega, ?_⟩
    rw [← h3, Nat.sub_self]
    rfl
  · omega
theorem CutInv.done {s : ByteArray} {c : Int} {L : List ByteArray} {f i : Nat} (h : CutInv s c L f i) (hi : s.size < i) : L = cutAt s c := by
  rcases h with ⟨h1, _⟩ | ⟨_, h2⟩
  · omega
  · exact h2
theorem CutInv.from_le {s : ByteArray} {c : Int} {L : List ByteArray} {f i : Nat} (h : CutInv s c L f i) (hi : i ≤ s.size) : f ≤ i := by
  rcases h with ⟨_, h2, _⟩ | ⟨h1, _⟩
  · exact h2
  · omega

end Go.Proofs.YtoncodoimnideaaGreatDoor
