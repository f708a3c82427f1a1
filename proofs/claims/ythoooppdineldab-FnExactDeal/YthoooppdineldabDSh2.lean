import Derived.Test.YthoooppdineldabDSh
namespace Go.Proofs.Ythoooppdineldab
open Go.RowKit

theorem touch_one {p q : Nat} (w : World) (g j : Nat) (u : Value) (h1 : p ≤ g) (h2 : g < q) : Touch p q w (w.setCell ⟨g, j, none⟩ u) :=
  ⟨rfl, rfl, rfl, by simp, fun k _ hk => heap_setCell_other w ⟨g, j, none⟩ k u (by simp; omega)⟩
def mk2 (k i : Nat) : Int × Int := (((k + 2 * i : Nat) : Int), ((k + 2 * i + 1 : Nat) : Int))
def marks2 (k n : Nat) : List (Int × Int) := (List.range n).map (mk2 k)
def mkd2 (ps : List (Int × Int)) (k j : Nat) : List (Int × Int) := marks2 k j ++ ps.drop j
theorem mkd2_zero (ps : List (Int × Int)) (k : Nat) : mkd2 ps k 0 = ps := by simp [mkd2, marks2]
theorem mkd2_all (ps : List (Int × Int)) (k : Nat) : mkd2 ps k ps.length = marks2 k ps.length := by simp [mkd2]
theorem mkd2_set (ps : List (Int × Int)) (k j : Nat) (h : j < ps.length) : (mkd2 ps k j).set j (mk2 k j) = mkd2 ps k (j + 1) := by
  unfold mkd2
  rw [List.drop_eq_getElem_cons h, set_append_mid _ _ _ _ _ (by simp [marks2]), show marks2 k (j + 1) = marks2 k j ++ [mk2 k j] by simp [marks2, List.range_succ], List.append_assoc]
  rfl
theorem marks2_get (k n i : Nat) (h : i < n) : (marks2 k n).getD i (0, 0) = mk2 k i := by simp [marks2, h]

set_option maxHeartbeats 2000000 in
theorem markShareS_any (B : Nat) (a : Option Addr) (n cap k : Nat) (ps : List (Int × Int)) (w : World) (h : OwnSh B w a n cap ps) (hn : n ≤ 1000000000) (hk : k ≤ 1000000000) :
    Calls Try.prog 24 #[.slice a n cap, .int .i64 k] w fun e w' => e = .returned (.int .i64 (k + 2 * n : Nat)) ∧ OwnSh B w' a n cap (marks2 k n) ∧ Touch B w.heap.size w w' := by
  have HL : Hid (ps.length = n) := h.len
  have HO : Hid (OwnSh B w a n cap (mkd2 ps k 0)) := by show OwnSh _ _ _ _ _ _; rw [mkd2_zero]; exact h
  clear h
  go_enter Try.func24, Try.ntmps24
  go_wp2
  go_loopw [1, 5] (fun kk i wr => ∃ j : Nat, j ≤ n ∧ i = .int .i64 j ∧ kk = .int .i64 (k + 2 * j : Nat) ∧ OwnSh B wr a n cap (mkd2 ps k j) ∧ Touch B w.heap.size w wr ∧ wr.heap.size = w.heap.size) (fun _ i _ => n - (intOf i).toNat)
  case atStart => exact ⟨0, Nat.zero_le _, rfl, rfl, HO.out, Touch.of_below (Below.refl _ _), rfl⟩
  case round =>
    obtain ⟨j, hj, rfl, rfl, hor, htr, hsz⟩ := hrel
    by_cases hlt : j < n
    · obtain ⟨g, rfl, hg0, hg1⟩ := hor.shape (by omega)
      have f0 : wr.frozen? ⟨g, j * 2, none⟩ = false := hor.row.frozenAt _
      have f1 : wr.frozen? ⟨g, j * 2 + 1, none⟩ = false := hor.row.frozenAt _
      have hfl : (flat (mkd2 ps k j)).length = n * 2 := hor.row.1
      obtain ⟨y0, hy0⟩ : ∃ y, wr.cell? ⟨g, j * 2, none⟩ = some y := ⟨_, (hor.row.cellAt _ (by omega)).trans (List.getElem?_eq_getElem (by omega))⟩
      obtain ⟨y1, hy1⟩ : ∃ y, wr.cell? ⟨g, j * 2 + 1, none⟩ = some y := ⟨_, (hor.row.cellAt _ (by omega)).trans (List.getElem?_eq_getElem (by omega))⟩
      have hs := hor.store j hlt (mk2 k j)
      rw [mkd2_set ps k j (by rw [HL.out]; exact hlt)] at hs
      have e0 : (mk2 k j).1 = (k : Int) + 2 * (j : Int) := by simp [mk2]
      have e1 : (mk2 k j).2 = (k : Int) + 2 * (j : Int) + 1 := by simp [mk2]
      rw [e0, e1] at hs
      have ht0 : Touch B w.heap.size w (wr.setCell ⟨g, j * 2, none⟩ (.int .i64 ((k : Int) + 2 * (j : Int)))) := htr.trans (touch_one wr g (j * 2) _ hg0 (by omega))
      have ht : Touch B w.heap.size w ((wr.setCell ⟨g, j * 2, none⟩ (.int .i64 ((k : Int) + 2 * (j : Int)))).setCell ⟨g, j * 2 + 1, none⟩ (.int .i64 ((k : Int) + 2 * (j : Int) + 1))) := ht0.trans (touch_one _ g (j * 2 + 1) _ hg0 (by omega))
      have FIN : Hid (_ ∧ _ ∧ _) := ⟨hs, ht, (show ((wr.setCell ⟨g, j * 2, none⟩ (.int .i64 ((k : Int) + 2 * (j : Int)))).setCell ⟨g, j * 2 + 1, none⟩ (.int .i64 ((k : Int) + 2 * (j : Int) + 1))).heap.size = w.heap.size by simp [hsz])⟩
      have hlti : (j : Int) < (n : Int) := by omega
      clear hor htr hs ht ht0 e0 e1 hfl
      go_wp2
      go_roundw
      case rel => exact ⟨j + 1, by omega, by go_num, by go_num, FIN.out.1, FIN.out.2.1, FIN.out.2.2⟩
      case measure => simp [intOf]; omega
    · obtain rfl : j = n := by omega
      have hm : mkd2 ps k j = marks2 k j := by rw [← HL.out]; exact mkd2_all ps k
      rw [hm] at hor
      have FIN : Hid (_ ∧ _) := ⟨hor, htr⟩
      clear hor htr hm
      go_wp2
      go_ret
      exact ⟨by go_num, FIN.out.1, FIN.out.2⟩

set_option maxHeartbeats 2000000 in
theorem heldShareS_any (a : Option Addr) (n cap k : Nat) (w : World) (h : Shs w a n (marks2 k n)) (hn : n ≤ 1000000000) (hk : k ≤ 1000000000) :
    Calls Try.prog 25 #[.slice a n cap, .int .i64 k] w fun e w' => e = .returned (.int .i64 (k + 2 * n : Nat)) ∧ w' = w := by
  have H0 : Hid (Shs w a n (marks2 k n)) := h
  clear h
  go_enter Try.func25, Try.ntmps25
  go_wp2
  go_loopw [1, 5] (fun kk i wr => ∃ j : Nat, j ≤ n ∧ i = .int .i64 j ∧ kk = .int .i64 (k + 2 * j : Nat) ∧ w = wr) (fun _ i _ => n - (intOf i).toNat)
  case atStart => exact ⟨0, Nat.zero_le _, rfl, rfl, rfl⟩
  case round =>
    obtain ⟨j, hj, rfl, rfl, rfl⟩ := hrel
    by_cases hlt : j < n
    · obtain ⟨b, off, rfl, hb, c0, c1⟩ := H0.out.get j hlt
      rw [marks2_get k n j hlt] at c0 c1
      have e0 : (mk2 k j).1 = (k : Int) + 2 * (j : Int) := by simp [mk2]
      have e1 : (mk2 k j).2 = (k : Int) + 2 * (j : Int) + 1 := by simp [mk2]
      rw [e0] at c0
      rw [e1] at c1
      have hlti : (j : Int) < (n : Int) := by omega
      have z0 : ((k : Int) + 2 * (j : Int) != (k : Int) + 2 * (j : Int)) = false := by simp
      have z1 : ((k : Int) + 2 * (j : Int) + 1 != (k : Int) + 2 * (j : Int) + 1) = false := by simp
      clear e0 e1
      go_wp2
      go_roundw
      case rel => exact ⟨j + 1, by omega, by go_num, by go_num, by trivial⟩
      case measure => simp [intOf]; omega
    · obtain rfl : j = n := by omega
      go_wp2
      go_ret
      exact ⟨by go_num, rfl⟩

end Go.Proofs.Ythoooppdineldab
