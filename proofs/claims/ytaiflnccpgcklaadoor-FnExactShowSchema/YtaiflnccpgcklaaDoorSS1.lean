import Derived.Test.YtaiflnccpgcklaaDoorS9
import Derived.Test.YtaiflnccpgcklaaDoorSS0
namespace Go.Proofs.YtaiflnccpgcklaaDoor
open Go.RowKit

theorem sch_small {xs : List ST} (h : schP xs) (t : Nat) (ht : t < xs.length) : Small (xs.getD t default) := by
  obtain ⟨h1, h40, hf, _, hp⟩ := h
  obtain ⟨hx, hb⟩ := hf t ht
  have hlen := fieldsP_12 hx
  have hkid : ∀ j, j < (xs.getD t default).kids.length → 0 ≤ (xs.getD t default).kids.getD j 0 ∧ (xs.getD t default).kids.getD j 0 ≤ 40 := fun j hj => by
    have := hb j hj
    omega
  by_cases h9 : (xs.getD t default).kind = 9
  · have hu := (hp.2 t ht).2 h9
    have hpar : ∃ s, s < xs.length ∧ (xs.getD s default).kind = 6 ∧ ∃ j, j < (xs.getD s default).kids.length ∧ ((xs.getD s default).kids.getD j 0).toNat = t := by
      refine Classical.byContradiction fun hn => ?_
      have hz := cN_zero true xs xs.length t (fun s hs hk j hj e => hn ⟨s, hs, by simpa using hk, j, hj, e⟩)
      omega
    obtain ⟨s, hs, hs6, j, hj, e⟩ := hpar
    have ho := hp.1 s hs j hj hs6 (by rw [e]; exact h9)
    rw [e] at ho
    have hl := fieldsP_12 (hf s hs).1
    have ha0 := ho.1
    have ha1 := ho.2.1
    rcases hx with ⟨q, _⟩ | ⟨q, _⟩ | ⟨q | q, _⟩ | ⟨q, _⟩ | ⟨q, _⟩ | ⟨q, _⟩ | ⟨q, _⟩ | ⟨q, q2, _⟩
    all_goals try omega
    exact ⟨by omega, by omega, by omega, by omega, by omega, by omega, hlen, hkid⟩
  · rcases hx with ⟨q, q1, q2, _⟩ | ⟨q, q1, _⟩ | ⟨q, q1, _⟩ | ⟨q, q1, q2, _⟩ | ⟨q, q1, q2, _⟩ | ⟨q, q1, _⟩ | ⟨q, q1, q2, _⟩ | ⟨q, _⟩
    · exact ⟨by omega, by omega, by omega, by omega, by omega, by omega, hlen, hkid⟩
    · unfold bnd at q1
      exact ⟨by omega, by omega, by omega, by omega, by omega, by omega, hlen, hkid⟩
    · unfold bnd at q1
      exact ⟨by omega, by omega, by omega, by omega, by omega, by omega, hlen, hkid⟩
    · unfold bnd at q2
      exact ⟨by omega, by omega, by omega, by omega, by omega, by omega, hlen, hkid⟩
    · exact ⟨by omega, by omega, by omega, by omega, by omega, by omega, hlen, hkid⟩
    · unfold bnd at q1
      exact ⟨by omega, by omega, by omega, by omega, by omega, by omega, hlen, hkid⟩
    · exact ⟨by omega, by omega, by omega, by omega, by omega, by omega, hlen, hkid⟩
    · exact absurd q h9

theorem show_len {xs : List ST} (h : schP xs) : ∀ k, k ≤ xs.length → (showL xs k).length ≤ 400 * k
  | 0, _ => by simp [showL]
  | k + 1, hk => by
    have h1 := show_len h k (by omega)
    have h2 := line_len k (xs.getD k default) (by have := h.2.1; omega) (sch_small h k (by omega))
    rw [showL, List.length_append]
    omega

end Go.Proofs.YtaiflnccpgcklaaDoor
