import Derived.Test.YtfklnjnnmcaomaaGH1
namespace Go.Proofs.Ytfklnjnnmcaomaa
open Go.RowKit

theorem take_snoc (l : List Int) (k : Nat) (h : k < l.length) : l.take (k + 1) = l.take k ++ [l.getD k 0] := by
  have e : l.getD k 0 = l[k] := by simp [h]
  rw [List.take_succ_eq_append_getElem h, e]
def eightI (v : Int) : List Int := eight v.toNat
theorem eightI_len (v : Int) : (eightI v).length = 8 := rfl
theorem eightI_byte (v : Int) : ∀ k, 0 ≤ (eightI v).getD k 0 ∧ (eightI v).getD k 0 ≤ 255 := eight_byte _

theorem eight_at (n q : Nat) (h : q ≤ 7) : (n : Int) / 2 ^ (8 * q) % 256 = (eightI (n : Int)).getD (7 - q) 0 := by
  have e : eightI (n : Int) = eight n := rfl
  rw [e]
  match q, h with
  | 0, _ => simp [eight]
  | 1, _ => simp [eight]
  | 2, _ => simp [eight]
  | 3, _ => simp [eight]
  | 4, _ => simp [eight]
  | 5, _ => simp [eight]
  | 6, _ => simp [eight]
  | 7, _ => simp [eight]

end Go.Proofs.Ytfklnjnnmcaomaa
