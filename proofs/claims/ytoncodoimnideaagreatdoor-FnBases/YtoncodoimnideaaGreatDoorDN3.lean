import Derived.Test.YtoncodoimnideaaGreatDoorDN2
import Derived.Test.YtoncodoimnideaaGreatDoorN9
namespace Go.Proofs.YtoncodoimnideaaGreatDoor
open Go.RowKit

theorem alike_refl (x : PT) : alikeP x x := ⟨rfl, rfl⟩
theorem alike_symm {x y : PT} (h : alikeP x y) : alikeP y x := ⟨h.1.symm, h.2.symm⟩
theorem alike_trans {x y z : PT} (h : alikeP x y) (g : alikeP y z) : alikeP x z := ⟨h.1.trans g.1, h.2.trans g.2⟩
theorem same_refl (xs : List PT) : sameP xs xs ↔ nameP xs := ⟨fun h => h.2.1, fun h => ⟨rfl, h, h, Nat.le_refl _, fun _ _ => alike_refl _⟩⟩
theorem under_refl (xs : List PT) : underP xs xs ↔ nameP xs := ⟨fun h => h.1, fun h => ⟨h, h, Nat.le_refl _, fun _ _ => alike_refl _⟩⟩
theorem under_nil (xs : List PT) : underP xs [] ↔ nameP xs := ⟨fun h => h.1, fun h => ⟨h, ⟨Nat.zero_le _, fun _ hk => absurd hk (Nat.not_lt_zero _)⟩, Nat.zero_le _, fun _ hk => absurd hk (Nat.not_lt_zero _)⟩⟩
theorem take_getD (xs : List PT) (k j : Nat) (h : j < k) : (xs.take k).getD j default = xs.getD j default := by
  rw [List.getD_eq_getElem?_getD, List.getD_eq_getElem?_getD, List.getElem?_take, if_pos h]
theorem name_take {xs : List PT} (h : nameP xs) (k : Nat) : nameP (xs.take k) := by
  refine ⟨by rw [List.length_take]; have := h.1; omega, fun j hj => ?_⟩
  rw [List.length_take] at hj
  rw [take_getD xs k j (by omega)]
  exact h.2 j (by omega)
theorem under_take {xs : List PT} (h : nameP xs) (k : Nat) : underP xs (xs.take k) := by
  refine ⟨h, name_take h k, by rw [List.length_take]; omega, fun j hj => ?_⟩
  rw [List.length_take] at hj
  rw [take_getD xs k j (by omega)]
  exact alike_refl _
theorem not_under_take {xs : List PT} {k : Nat} (hk : k < xs.length) : ¬ underP (xs.take k) xs := fun h => by
  have := h.2.2.1
  rw [List.length_take] at this
  omega
theorem same_symm {xs ys : List PT} (h : sameP xs ys) : sameP ys xs := ⟨h.1.symm, h.2.2.1, h.2.1, by rw [h.1]; exact Nat.le_refl _, fun k hk => alike_symm (h.2.2.2.2 k (by rw [← h.1]; exact hk))⟩
theorem same_comm (xs ys : List PT) : sameP xs ys ↔ sameP ys xs := ⟨same_symm, same_symm⟩
theorem same_under (xs ys : List PT) : sameP xs ys ↔ underP xs ys ∧ underP ys xs :=
  ⟨fun h => ⟨h.2, (same_symm h).2⟩, fun h => ⟨Nat.le_antisymm h.2.2.2.1 h.1.2.2.1, h.1⟩⟩
theorem under_trans {xs ys zs : List PT} (h : underP xs ys) (g : underP ys zs) : underP xs zs :=
  ⟨h.1, g.2.1, Nat.le_trans g.2.2.1 h.2.2.1, fun k hk => alike_trans (h.2.2.2 k (Nat.lt_of_lt_of_le hk g.2.2.1)) (g.2.2.2 k hk)⟩
theorem same_trans {xs ys zs : List PT} (h : sameP xs ys) (g : sameP ys zs) : sameP xs zs := ⟨h.1.trans g.1, under_trans h.2 g.2⟩
theorem same_under_iff {xs ys : List PT} (h : sameP xs ys) (zs : List PT) : underP xs zs ↔ underP ys zs := ⟨fun g => under_trans (same_symm h).2 g, fun g => under_trans h.2 g⟩

theorem ptc_get (xs : List PT) (k : Nat) (h : k < xs.length) : (ptc xs)[k * 2]? = some (.int .i64 (xs.getD k default).attr) ∧ (ptc xs)[k * 2 + 1]? = some (.string (xs.getD k default).val) := by
  induction xs generalizing k with
  | nil => simp at h
  | cons x r ih =>
    cases k with
    | zero => exact ⟨rfl, rfl⟩
    | succ k =>
      have hk : k < r.length := by simpa using h
      obtain ⟨h1, h2⟩ := ih k hk
      have e : ptc (x :: r) = [Value.int .i64 x.attr, .string x.val] ++ ptc r := rfl
      rw [e]
      refine ⟨?_, ?_⟩
      · rw [List.getElem?_append_right (by simp; omega), show (k + 1) * 2 - [Value.int .i64 x.attr, .string x.val].length = k * 2 by simp; omega, h1]
        simp
      · rw [List.getElem?_append_right (by simp; omega), show (k + 1) * 2 + 1 - [Value.int .i64 x.attr, .string x.val].length = k * 2 + 1 by simp; omega, h2]
        simp
theorem OwnPt.pts {B : Nat} {w : World} {a : Option Addr} {n cap : Nat} {xs : List PT} (h : OwnPt B w a n cap xs) (hn : n ≤ 9223372036854775807) : Pts w a n xs := by
  refine ⟨h.len, hn, fun k hk => ?_⟩
  have hkl : k < xs.length := by rw [h.len]; exact hk
  rcases h.row.2 with ⟨_, h0⟩ | ⟨g, cap', cur, hv, hb, hg, _⟩
  · omega
  · simp only [Value.slice.injEq] at hv
    obtain ⟨rfl, _, rfl⟩ := hv
    obtain ⟨g1, g2⟩ := ptc_get xs k hkl
    refine ⟨g, 0, rfl, (Array.getElem?_eq_some_iff.1 hg).1, ⟨?_, ?_⟩, ?_⟩
    · rw [Nat.zero_add, h.row.cellAt (k * 2) (by omega), g1]
    · rw [Nat.zero_add, h.row.cellAt (k * 2 + 1) (by omega), g2]
    · have hm : xs.getD k default ∈ xs := by
        have e : xs.getD k default = xs[k] := by simp [hkl]
        rw [e]; exact List.getElem_mem hkl
      have := h.small _ hm
      omega

end Go.Proofs.YtoncodoimnideaaGreatDoor
