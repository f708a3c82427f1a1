import Derived.Test.YtchkjdoakmoomaaWI64
namespace Go.Proofs.Ytchkjdoakmoomaa
open Go.RowKit

def mk64 (k n : Nat) : List Int := (List.range n).map fun i => ((k + i : Nat) : Int)
theorem mk64_len (k n : Nat) : (mk64 k n).length = n := by simp [mk64]
theorem mk64_get (k n j : Nat) (h : j < n) : (mk64 k n).getD j 0 = ((k + j : Nat) : Int) := by simp [mk64, h]
theorem mk64_set (k j : Nat) (zs : List Int) (h : j < zs.length) : (mk64 k j ++ zs.drop j).set j ((k + j : Nat) : Int) = mk64 k (j + 1) ++ zs.drop (j + 1) := by
  rw [List.drop_eq_getElem_cons h, List.set_append_right _ _ (by rw [mk64_len]; exact Nat.le_refl _), mk64_len, Nat.sub_self, List.set_cons_zero]
  unfold mk64
  rw [List.range_succ, List.map_append, List.append_assoc]
  rfl

set_option maxRecDepth 10000 in
set_option maxHeartbeats 1000000 in
theorem markInt64S_own (lo hi : Nat) (a : Option Addr) (n cap k : Nat) (zs : List Int) (w : World) (h : Own64 lo hi w a n cap zs) (hn : n ≤ 1000000000) (hk : k ≤ 1000000000) :
    Calls Try.prog 26 #[.slice a n cap, .int .i64 k] w fun e w' => e = .returned (.int .i64 (k + n : Nat)) ∧ Own64 lo hi w' a n cap (mk64 k n) ∧ Touch lo hi w w' := by
  have HLT : Hid (_) := h.lt
  have HRW : Hid (_) := h.row
  have HZ : Hid (zs.length = n) := h.toRow.len
  clear h
  go_enter Try.func26, Try.ntmps26
  go_wp2
  go_loopw [1, 5] (fun kk i wr => ∃ j : Nat, j ≤ n ∧ i = .int .i64 j ∧ kk = .int .i64 (k + j : Nat) ∧ wr.ownsRow lo 2 1 (.slice a n cap) n ((mk64 k j ++ zs.drop j).map (Value.int .i64)) ∧ Touch lo hi w wr) (fun _ i _ => n - (intOf i).toNat)
  case atStart => exact ⟨0, Nat.zero_le _, rfl, rfl, HRW.out, Touch.of_below (Below.refl _ _)⟩
  case round =>
    obtain ⟨j, hj, rfl, rfl, hor, htr⟩ := hrel
    by_cases hlt : j < n
    · obtain ⟨g, rfl⟩ : ∃ g, a = some ⟨g, 0, none⟩ := by
        rcases hor.2 with ⟨_, h0⟩ | ⟨g, cap', cur, hv, _⟩
        · omega
        · simp only [Value.slice.injEq] at hv
          exact ⟨g, hv.1⟩
      have hfr : wr.frozen? ⟨g, j, none⟩ = false := hor.frozenAt j
      have hvl := hor.1
      obtain ⟨y, hy⟩ : ∃ y, wr.cell? ⟨g, j, none⟩ = some y := ⟨_, (hor.cellAt j (by omega)).trans (List.getElem?_eq_getElem (by omega))⟩
      have hs := (hor.stored j (.int .i64 ((k : Int) + (j : Int)))).1
      have e1 : ((mk64 k j ++ zs.drop j).map (Value.int .i64)).set j (.int .i64 ((k : Int) + (j : Int))) = (mk64 k (j + 1) ++ zs.drop (j + 1)).map (Value.int .i64) := by
        rw [← mk64_set k j zs (by rw [HZ.out]; exact hlt), List.map_set, Int.natCast_add]
      rw [e1] at hs
      have hlg := (hor.lt g rfl).1
      have hg2 := HLT.out _ rfl
      have ht2 : Touch lo hi w (wr.setCell ⟨g, j, none⟩ (.int .i64 ((k : Int) + (j : Int)))) := htr.trans ⟨rfl, rfl, rfl, by simp, fun i _ hi' => heap_setCell_other wr ⟨g, j, none⟩ i _ (by simp at hg2; simp; omega)⟩
      have FIN : Hid (_ ∧ _) := ⟨hs, ht2⟩
      clear hor htr hs ht2 e1 hvl
      go_wp2
      go_roundw
      case rel => exact ⟨j + 1, by omega, by go_num, by go_num, FIN.out.1, FIN.out.2⟩
      case measure => simp [intOf]; omega
    · have hjn : j = n := by omega
      subst hjn
      have HO : Hid (wr.ownsRow lo 2 1 (.slice a j cap) j ((mk64 k j).map (Value.int .i64))) := by
        show World.ownsRow _ _ _ _ _ _ _
        rw [List.drop_eq_nil_of_le (by rw [HZ.out]; exact Nat.le_refl _), List.append_nil] at hor
        exact hor
      clear hor
      go_wp2
      go_ret
      exact ⟨rfl, ⟨HO.out, HLT.out⟩, htr⟩

set_option maxRecDepth 10000 in
set_option maxHeartbeats 400000 in
theorem heldInt64S_any (a : Option Addr) (n cap k : Nat) (w : World) (h : Row64 w a n (mk64 k n)) (hn : n ≤ 1000000000) (hk : k ≤ 1000000000) :
    Calls Try.prog 27 #[.slice a n cap, .int .i64 k] w fun e w' => e = .returned (.int .i64 (k + n : Nat)) ∧ w' = w := by
  have H0 : Hid (Row64 w a n (mk64 k n)) := h
  clear h
  go_enter Try.func27, Try.ntmps27
  go_wp2
  go_loop [1, 5] (fun kk i => ∃ j : Nat, j ≤ n ∧ i = .int .i64 j ∧ kk = .int .i64 (k + j : Nat)) (fun _ i => n - (intOf i).toNat)
  case atStart => exact ⟨0, Nat.zero_le _, rfl, rfl⟩
  case round =>
    obtain ⟨j, hj, rfl, rfl⟩ := hrel
    by_cases hlt : j < n
    · obtain ⟨b, off, rfl, hb, hc⟩ := H0.out.get j hlt
      rw [mk64_get k n j hlt, Int.natCast_add] at hc
      go_wp2
      go_round
      case rel => exact ⟨j + 1, by omega, by go_num, by go_num⟩
      case measure => simp [intOf]; omega
    · have hjn : j = n := by omega
      subst hjn
      go_wp2
      go_ret
      exact ⟨rfl, rfl⟩

end Go.Proofs.Ytchkjdoakmoomaa
