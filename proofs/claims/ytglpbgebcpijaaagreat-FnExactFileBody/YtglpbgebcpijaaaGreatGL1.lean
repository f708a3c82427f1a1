import Derived.Test.YtglpbgebcpijaaaGreatWI64
import Derived.Test.YtglpbgebcpijaaaGreatGB4
import Derived.WalkMore
import Derived.ScopeJumps
import Derived.Deep.DeepCutAuto
namespace Go.Proofs.YtglpbgebcpijaaaGreat
open Go.RowKit

theorem Row64.take {w : World} {a : Option Addr} {n : Nat} {zs : List Int} (h : Row64 w a n zs) (k : Nat) (hk : k ≤ n) : Row64 w a k (zs.take k) := by
  refine ⟨by rw [List.length_take, h.len]; omega, fun j hj => ?_⟩
  obtain ⟨b, off, ha, hb, hc⟩ := h.get j (by omega)
  exact ⟨b, off, ha, hb, hc.trans (by simp [hj])⟩
theorem mem_next (zs : List Int) (k : Nat) (h : k < zs.length) (x : Int) : x ∈ zs.take (k + 1) ↔ x ∈ zs.take k ∨ x = zs.getD k 0 := by
  have e : zs.getD k 0 = zs[k] := by simp [h]
  rw [List.take_succ_eq_append_getElem h, List.mem_append, List.mem_singleton, e]
theorem mem_all (zs : List Int) (k : Nat) (h : zs.length ≤ k) : zs.take k = zs := List.take_of_length_le h
theorem getD_mem (zs : List Int) (k : Nat) (h : k < zs.length) : zs.getD k 0 ∈ zs := by
  have e : zs.getD k 0 = zs[k] := by simp [h]
  rw [e]; exact List.getElem_mem h

/-- No number stands twice. -/
def unl (zs : List Int) : Prop := ∀ j, j < zs.length → zs.getD j 0 ∉ zs.take j
instance (zs : List Int) : Decidable (unl zs) := by unfold unl; infer_instance

def lenOf : Value → Nat
  | .slice _ n _ => n
  | _ => 0

end Go.Proofs.YtglpbgebcpijaaaGreat
