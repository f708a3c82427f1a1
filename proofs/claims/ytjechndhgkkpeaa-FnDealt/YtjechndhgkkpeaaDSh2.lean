import Derived.Test.YtjechndhgkkpeaaDSh
namespace Go.Proofs.Ytjechndhgkkpeaa
open Go.RowKit

theorem touch_one {p q : Nat} (w : World) (g j : Nat) (u : Value) (h1 : p ≤ g) (h2 : g < q) : Touch p q w (w.setCell ⟨g, j, none⟩ u) :=
  ⟨rfl, rfl, rfl, by simp, fun k _ hk => heap_setCell_other w ⟨g, j, none⟩ k u (by simp; omega)⟩
def mk2 (k i : Nat) : Int × Int := (((k + 2 * i : Nat) : Int), ((k + 2 * i + 1 : Nat) : Int))
def marks2 (k n : Nat) : List (Int × Int) := (List.range n).map (mk2 k)
def mkd2 (ps : List (Int × Int)) (k j : Nat) : List (Int × Int) := marks2 k j ++ ps.drop j
theorem mkd2_zero (ps : List (Int × Int)) (k : Nat) : mkd2 ps k 0 = ps := by simp [mkd2, marks2]
theorem mkd2_all (ps : List (Int × Int)) (k : Nat) : mkd2 ps k ps.length = marks2 k ps.length := by simp [mkd2]
theorem mkd2_set (ps : List (Int × Int)) (k j : Nat) (h : j < ps.length) : (mkd2 ps k j).set j (mk2 k j) = mkd2 ps k (j + 1) := by
  unfold mkd2
  rw [List.drop_eq_getElem_cons h, set_append_mid _ _ _ _ _ (by simp [marks2]), show marks2 k (j + 1) = marks2 k j ++ [mk2 k j] by simp [marks2, List.range_succ], List.append_assoc]
  rfl
theorem marks2_get (k n i : Nat) (h : i < n) : (marks2 k n).getD i (0, 0) = mk2 k i := by simp [marks2, h]

end Go.Proofs.Ytjechndhgkkpeaa
