import Derived.Test.YtflioloegppnmaaMTa
import Derived.Deep.RegionHeldLaw
namespace Go.Proofs.Ytflioloegppnmaa
open Go.RowKit Go.Sort

/-- What stands beside the way from the digest at i to the root. -/
def incL (zs : List Int) (i : Nat) : List Int :=
  if _h1 : zs.length ≤ 1 then []
  else if i < hk zs.length then incL (zs.take (hk zs.length)) i ++ [rootL (zs.drop (hk zs.length))]
  else incL (zs.drop (hk zs.length)) (i - hk zs.length) ++ [rootL (zs.take (hk zs.length))]
termination_by zs.length
decreasing_by
  · rw [List.length_take]; have := hk_lt (show 2 ≤ zs.length by omega); omega
  · rw [List.length_drop]; have := hk_pos zs.length; omega
theorem incL_one (zs : List Int) (i : Nat) (h : zs.length ≤ 1) : incL zs i = [] := by rw [incL, dif_pos h]
theorem incL_lo (zs : List Int) (i : Nat) (h : 2 ≤ zs.length) (hi : i < hk zs.length) : incL zs i = incL (zs.take (hk zs.length)) i ++ [rootL (zs.drop (hk zs.length))] := by
  conv => lhs; rw [incL]
  rw [dif_neg (by omega), if_pos hi]
theorem incL_hi (zs : List Int) (i : Nat) (h : 2 ≤ zs.length) (hi : ¬ i < hk zs.length) : incL zs i = incL (zs.drop (hk zs.length)) (i - hk zs.length) ++ [rootL (zs.take (hk zs.length))] := by
  conv => lhs; rw [incL]
  rw [dif_neg (by omega), if_neg hi]
theorem incL_len : ∀ (N : Nat) (zs : List Int) (i : Nat), zs.length ≤ N → (incL zs i).length ≤ zs.length := by
  intro N
  induction N with
  | zero => intro zs i h; rw [incL_one zs i (by omega)]; simp
  | succ N ih =>
    intro zs i h
    by_cases h1 : zs.length ≤ 1
    · rw [incL_one zs i h1]; simp
    · have hl := hk_lt (show 2 ≤ zs.length by omega)
      have hp := hk_pos zs.length
      by_cases hi : i < hk zs.length
      · rw [incL_lo zs i (by omega) hi, List.length_append]
        have := ih (zs.take (hk zs.length)) i (by rw [List.length_take]; omega)
        rw [List.length_take] at this
        simp; omega
      · rw [incL_hi zs i (by omega) hi, List.length_append]
        have := ih (zs.drop (hk zs.length)) (i - hk zs.length) (by rw [List.length_drop]; omega)
        rw [List.length_drop] at this
        simp; omega
/-- What shows that the first m are a beginning. -/
def extL (zs : List Int) (m : Nat) (fl : Bool) : List Int :=
  if _h1 : zs.length ≤ m ∨ zs.length ≤ 1 then (if fl then [] else [rootL zs])
  else if m ≤ hk zs.length then extL (zs.take (hk zs.length)) m fl ++ [rootL (zs.drop (hk zs.length))]
  else extL (zs.drop (hk zs.length)) (m - hk zs.length) false ++ [rootL (zs.take (hk zs.length))]
termination_by zs.length
decreasing_by
  · rw [List.length_take]; have := hk_lt (show 2 ≤ zs.length by omega); omega
  · rw [List.length_drop]; have := hk_pos zs.length; omega
theorem extL_all (zs : List Int) (m : Nat) (fl : Bool) (h : zs.length ≤ m ∨ zs.length ≤ 1) : extL zs m fl = if fl then [] else [rootL zs] := by rw [extL, dif_pos h]
theorem extL_lo (zs : List Int) (m : Nat) (fl : Bool) (h : 2 ≤ zs.length) (hm : m < zs.length) (hi : m ≤ hk zs.length) : extL zs m fl = extL (zs.take (hk zs.length)) m fl ++ [rootL (zs.drop (hk zs.length))] := by
  conv => lhs; rw [extL]
  rw [dif_neg (by omega), if_pos hi]
theorem extL_hi (zs : List Int) (m : Nat) (fl : Bool) (h : 2 ≤ zs.length) (hm : m < zs.length) (hi : ¬ m ≤ hk zs.length) : extL zs m fl = extL (zs.drop (hk zs.length)) (m - hk zs.length) false ++ [rootL (zs.take (hk zs.length))] := by
  conv => lhs; rw [extL]
  rw [dif_neg (by omega), if_neg hi]
theorem extL_len : ∀ (N : Nat) (zs : List Int) (m : Nat) (fl : Bool), zs.length ≤ N → (extL zs m fl).length ≤ zs.length + 1 := by
  intro N
  induction N with
  | zero => intro zs m fl h; rw [extL_all zs m fl (by omega)]; split <;> simp
  | succ N ih =>
    intro zs m fl h
    by_cases h1 : zs.length ≤ m ∨ zs.length ≤ 1
    · rw [extL_all zs m fl h1]; split <;> simp
    · have hl := hk_lt (show 2 ≤ zs.length by omega)
      have hp := hk_pos zs.length
      by_cases hi : m ≤ hk zs.length
      · rw [extL_lo zs m fl (by omega) (by omega) hi, List.length_append]
        have := ih (zs.take (hk zs.length)) m fl (by rw [List.length_take]; omega)
        rw [List.length_take] at this
        simp; omega
      · rw [extL_hi zs m fl (by omega) (by omega) hi, List.length_append]
        have := ih (zs.drop (hk zs.length)) (m - hk zs.length) false (by rw [List.length_drop]; omega)
        rw [List.length_drop] at this
        simp; omega
theorem rowU_lit1 (w : World) (x : Int) (hx : U64 x) : OwnU w.heap.size (w.alloc (.cells #[.int .u64 x] 27)) (some ⟨w.heap.size, 0, none⟩) 1 1 [x] :=
  ⟨World.ownsRow_lit w #[.int .u64 x] 1 (Nat.le_refl _) (by unfold maxLen; omega) rfl, fun k => by
    match k with
    | 0 => exact hx
    | k + 1 => simp [U64]⟩

end Go.Proofs.Ytflioloegppnmaa

namespace Go.Proofs.Ytflioloegppnmaa
open Go.RowKit Go.Sort

end Go.Proofs.Ytflioloegppnmaa

namespace Go.Proofs.Ytflioloegppnmaa
open Go.RowKit Go.Sort

end Go.Proofs.Ytflioloegppnmaa

namespace Go.Proofs.Ytflioloegppnmaa
open Go.RowKit Go.Sort

def incR (zs : List Int) (i : Int) : List Int × Bool := if zs.length ≤ 200 ∧ 0 ≤ i ∧ i < zs.length then (incL zs i.toNat, true) else ([], false)
theorem incR_le (zs : List Int) (i : Int) : (incR zs i).1.length ≤ 1002 := by
  unfold incR
  split
  · rename_i h
    have := incL_len _ zs i.toNat (Nat.le_refl _)
    show (incL zs i.toNat).length ≤ _
    omega
  · exact Nat.zero_le _

end Go.Proofs.Ytflioloegppnmaa

