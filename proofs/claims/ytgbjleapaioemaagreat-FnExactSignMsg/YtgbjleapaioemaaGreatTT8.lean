import Derived.Test.YtgbjleapaioemaaGreatTT7
namespace Go.Proofs.YtgbjleapaioemaaGreat
open Go.RowKit

def HN (h : Int) (N : Nat) : Prop := (h = 0 ∧ N = 1) ∨ (h = 1 ∧ N = 2) ∨ (h = 2 ∧ N = 4) ∨ (h = 3 ∧ N = 8) ∨ (h = 4 ∧ N = 16) ∨ (h = 5 ∧ N = 32)
theorem HN.of {h : Int} (h0 : 0 ≤ h) (h5 : h ≤ 5) : ∃ N, HN h N := by
  unfold HN
  have : h = 0 ∨ h = 1 ∨ h = 2 ∨ h = 3 ∨ h = 4 ∨ h = 5 := by omega
  rcases this with rfl | rfl | rfl | rfl | rfl | rfl
  · exact ⟨1, by omega⟩
  · exact ⟨2, by omega⟩
  · exact ⟨4, by omega⟩
  · exact ⟨8, by omega⟩
  · exact ⟨16, by omega⟩
  · exact ⟨32, by omega⟩
theorem HN.le {h : Int} {N : Nat} (hn : HN h N) : 1 ≤ N ∧ N ≤ 32 := by unfold HN at hn; omega
theorem HN.one {h : Int} {N M : Nat} (hn : HN h N) (hm : HN h M) : N = M := by unfold HN at hn hm; omega
theorem HN.sh {h : Int} {N : Nat} (hn : HN h N) : wrap64 ((2 : Int) ^ h.toNat) = (N : Int) := by
  unfold HN at hn
  rcases hn with ⟨rfl, rfl⟩ | ⟨rfl, rfl⟩ | ⟨rfl, rfl⟩ | ⟨rfl, rfl⟩ | ⟨rfl, rfl⟩ | ⟨rfl, rfl⟩ <;> decide +kernel
def leavesN (seed : Int) (N : Nat) : List Int := (List.range N).map fun (i : Nat) => leafN seed (i : Int)
theorem leavesN_len (seed : Int) (N : Nat) : (leavesN seed N).length = N := by simp [leavesN]
theorem leavesN_get (seed : Int) (N k : Nat) (h : k < N) : (leavesN seed N).getD k 0 = leafN seed (k : Int) := by simp [leavesN, h]
theorem leavesN_bd (seed : Int) (N : Nat) : ∀ k, U64 ((leavesN seed N).getD k 0) := by
  intro k
  by_cases h : k < N
  · rw [leavesN_get seed N k h]; exact leafN_bd _ _
  · rw [List.getD_eq_getElem?_getD, List.getElem?_eq_none (by rw [leavesN_len]; omega)]; simp [U64]
theorem leavesN_snoc (seed : Int) (N k : Nat) (h : k < N) : (leavesN seed N).take (k + 1) = (leavesN seed N).take k ++ [leafN seed (k : Int)] := by
  rw [take_snoc _ _ (by rw [leavesN_len]; exact h), leavesN_get seed N k h]

set_option maxRecDepth 10000 in
set_option maxHeartbeats 1000000 in
theorem leaves_any (seed h next : Int) (N : Nat) (w : World) (hN : HN h N) :
    Calls Tryz.prog 125 #[tkv seed h next] w fun e w' => e = .returned (.int .i64 N) ∧ Below w.heap.size w w' := by
  rw [tkv]
  have hbb : Below w.heap.size w (w.alloc (.cells #[.int .u64 seed, .int .i64 h, .int .i64 next] 75)) := (Below.refl _ _).alloc (Nat.le_refl _) _
  unfold HN at hN
  rcases hN with ⟨rfl, rfl⟩ | ⟨rfl, rfl⟩ | ⟨rfl, rfl⟩ | ⟨rfl, rfl⟩ | ⟨rfl, rfl⟩ | ⟨rfl, rfl⟩
  all_goals
    go_enter Tryz.func125, Tryz.ntmps125
    go_wp2
    go_ret
    exact ⟨rfl, hbb⟩

set_option maxRecDepth 10000 in
set_option maxHeartbeats 4000000 in
theorem l8Leaves_any (seed h next : Int) (N : Nat) (w : World) (hx : U64 seed) (hN : HN h N) :
    Calls Tryz.prog 65 #[tkv seed h next] w fun e w' => ∃ ar cr, e = .returned (.slice ar N cr) ∧ OwnU w.heap.size w' ar N cr (leavesN seed N) ∧ Below w.heap.size w w' := by
  obtain ⟨i0, hi, hz0, hz1, hz2⟩ := info_parts Tryz.infoU
  have hNle := hN.le
  obtain ⟨wb, hwb⟩ : ∃ wb, wb = w.alloc (.cells #[.int .u64 seed, .int .i64 h, .int .i64 next] 75) := ⟨_, rfl⟩
  have hbb : Below w.heap.size w wb := by rw [hwb]; exact (Below.refl _ _).alloc (Nat.le_refl _) _
  have HBX : Hid (∀ w7, Below wb.heap.size wb w7 → w7.cell? ⟨w.heap.size, 0, none⟩ = some (.int .u64 seed) ∧ w7.cell? ⟨w.heap.size, 1, none⟩ = some (.int .i64 h)) := by
    intro w7 h7
    have hbx : w7.heap[w.heap.size]? = some (.cells #[.int .u64 seed, .int .i64 h, .int .i64 next] 75) := (h7.block _ (by rw [hwb]; simp)).trans (by rw [hwb]; exact heap_alloc_new w _)
    exact ⟨(cell_of_row _ w.heap.size 0 _ 75 (0, 0) hbx).trans rfl, (cell_of_row _ w.heap.size 1 _ 75 (0, 0) hbx).trans rfl⟩
  have HWB : Hid (_ = _) := hwb
  clear hwb
  have HOE : Hid (OwnU wb.heap.size (wb.alloc (.cells #[] 41)) (some ⟨wb.heap.size, 0, none⟩) 0 0 ((leavesN seed N).take 0)) := ownU_empty wb
  have hbe : Below wb.heap.size wb (wb.alloc (.cells #[] 41)) := (Below.refl _ _).alloc (Nat.le_refl _) _
  rw [tkv]
  go_enter Tryz.func65, Tryz.ntmps65
  go_upto_region 1 with fail
  rw [← HWB.out]
  clear HWB
  go_wp2
  go_loopw [3, 4] (fun o i wr => ∃ (k q cc : Nat) (ao : Option Addr), k ≤ N ∧ q = k ∧ i = .int .i64 (k : Int) ∧ o = .slice ao q cc ∧ OwnU wb.heap.size wr ao q cc ((leavesN seed N).take k) ∧ Below wb.heap.size wb wr) (fun _ i _ => N - (intOf i).toNat)
  case atStart => exact ⟨0, 0, 0, _, Nat.zero_le _, rfl, rfl, rfl, HOE.out, hbe⟩
  case round =>
    obtain ⟨k, q, cc, ao, hk, rfl, rfl, rfl, hor, hbr⟩ := hrel
    obtain ⟨wo, rfl⟩ : ∃ wo, wo = wr := ⟨wr, rfl⟩
    have HBR : Hid (Below wb.heap.size wb wo) := hbr
    have HOR : Hid (_) := hor
    obtain ⟨q0, q1⟩ := HBX.out _ hbr
    clear hor hbr HOE hbe
    have hh : 0 ≤ h ∧ h ≤ 5 := by have := hN; unfold HN at this; omega
    obtain ⟨hh0, hh5⟩ := hh
    have hsh := hN.sh
    by_cases hlt : q < N
    · have hlti : (q : Int) < (N : Int) := by omega
      have HOE2 : Hid (OwnU wo.heap.size (wo.alloc (.cells #[] 41)) (some ⟨wo.heap.size, 0, none⟩) 0 0 ((endsN seed (q : Int)).take 0)) := ownU_empty wo
      have hbe2 : Below wo.heap.size wo (wo.alloc (.cells #[] 41)) := (Below.refl _ _).alloc (Nat.le_refl _) _
      go_wp2
      clear q0 q1 hsh
      go_loopw [5, 6] (fun o i wx => ∃ (j m cc2 : Nat) (ae : Option Addr), j ≤ 18 ∧ m = j ∧ i = .int .i64 (j : Int) ∧ o = .slice ae m cc2 ∧ OwnU wo.heap.size wx ae m cc2 ((endsN seed (q : Int)).take j) ∧ Below wo.heap.size wo wx) (fun _ i _ => 18 - (intOf i).toNat)
      case atStart => exact ⟨0, 0, 0, _, Nat.zero_le _, rfl, rfl, rfl, HOE2.out, hbe2⟩
      case round =>
        obtain ⟨j, m, cc2, ae, hj, rfl, rfl, rfl, hoe, hbx⟩ := hrel
        have HBX2 : Hid (Below wo.heap.size wo wr) := hbx
        have HOX : Hid (_) := hoe
        clear hoe HOE2 hbe2 hbx
        by_cases hjl : m < 18
        · obtain ⟨q0, q1⟩ := HBX.out _ (keepT HBR.out HBX2.out)
          have hjli : (m : Int) < 18 := by omega
          go_wp2_with fail
          refine (l8Start_any seed (q : Int) (m : Int) _ hx (by omega) (by omega)).mono ?_
          rintro e w3 ⟨rfl, hb3⟩
          clear q0 q1
          go_wp2_with fail
          refine (l8Steps_any (startN seed (q : Int) (m : Int)) 15 _ (startN_bd _ _ _) (by decide)).mono ?_
          rintro e w4 ⟨rfl, hb4⟩
          have hb34 := keepT hb3 hb4
          have HE : Hid (stepsN (startN seed (q : Int) (m : Int)) 15 = endN seed (q : Int) m) := rfl
          rw [HE.out]
          have hal : Below w4.heap.size w4 (w4.alloc (.cells #[.int .u64 (endN seed (q : Int) m)] 41)) := (Below.refl _ _).alloc (Nat.le_refl _) _
          have hor4 := (HOX.out.kept (keepT hb34 hal)).row
          have hbr4 := keepT HBX2.out (keepT hb34 hal)
          have hcl := cell_oneU w4 (endN seed (q : Int) m)
          clear hb3 hb4 hb34 hal HOX
          go_wp2_with (first | (at_builtin; refine wpList_append_own _ rfl (.tmp 21) (.tmp 28) 71 rfl wo.heap.size 41 i0 _ 1 8 Tryz.underlying71 hi hz0 hz1 hz2 rfl (by decide) _ m _ rfl hor4 ⟨w4.heap.size, 0, none⟩ 1 1 ([endN seed (q : Int) m].map (Value.int .u64)) rfl rfl hcl (ints_oneCell .u64 [endN seed (q : Int) m]) (by unfold maxLen; omega) (by omega) (by have := hbr4.size; exact this) ?_; intro v5 w5 hv5 hg5 _))
          have e1 : ((endsN seed (q : Int)).take m).map (Value.int .u64) ++ [endN seed (q : Int) m].map (Value.int .u64) = ((endsN seed (q : Int)).take (m + 1)).map (Value.int .u64) := by rw [take_snoc _ m (by rw [endsN_len]; exact hjl), endsN_get seed (q : Int) m hjl, List.map_append]
          rw [e1] at hv5
          obtain ⟨a5, c5, rfl, ho5⟩ := ownU_appended (u64_take (endsN_bd seed (q : Int)) _) hv5
          have hbr5 : Below wo.heap.size wo w5 := hbr4.grown hg5 hbr4.size (fun k hk => (hor4.lt k hk).1)
          go_roundw
          case rel => exact ⟨m + 1, m + 1, c5, a5, by omega, rfl, by go_num, rfl, ho5, hbr5⟩
          case measure => simp [intOf]; omega
        · obtain rfl : m = 18 := by omega
          have HEN : Hid (RowU wr ae 18 (endsN seed (q : Int))) := by
            have := HOX.out.toRow
            rwa [List.take_of_length_le (by rw [endsN_len]; exact Nat.le_refl _)] at this
          clear HOX
          go_wp2_with fail
          refine (l8Leaf_any ae 18 cc2 (endsN seed (q : Int)) _ HEN.out (by decide)).mono ?_
          rintro e w4 ⟨rfl, hb4⟩
          have HE : Hid (hashD leW (endsN seed (q : Int)) = leafN seed (q : Int)) := rfl
          rw [HE.out]
          have hal : Below w4.heap.size w4 (w4.alloc (.cells #[.int .u64 (leafN seed (q : Int))] 41)) := (Below.refl _ _).alloc (Nat.le_refl _) _
          have hall := keepT HBX2.out (keepT hb4 hal)
          have hor4 := (HOR.out.kept hall).row
          have hbr4 := keepT HBR.out hall
          have hcl := cell_oneU w4 (leafN seed (q : Int))
          clear hb4 hal hall HOR
          go_wp2_with (first | (at_builtin; refine wpList_append_own _ rfl (.tmp 30) (.tmp 33) 71 rfl wb.heap.size 41 i0 _ 1 8 Tryz.underlying71 hi hz0 hz1 hz2 rfl (by decide) _ q _ rfl hor4 ⟨w4.heap.size, 0, none⟩ 1 1 ([leafN seed (q : Int)].map (Value.int .u64)) rfl rfl hcl (ints_oneCell .u64 [leafN seed (q : Int)]) (by unfold maxLen; omega) (by omega) (by have := hbr4.size; exact this) ?_; intro v5 w5 hv5 hg5 _))
          have e1 : ((leavesN seed N).take q).map (Value.int .u64) ++ [leafN seed (q : Int)].map (Value.int .u64) = ((leavesN seed N).take (q + 1)).map (Value.int .u64) := by rw [leavesN_snoc seed N q hlt, List.map_append]
          rw [e1] at hv5
          obtain ⟨a5, c5, rfl, ho5⟩ := ownU_appended (u64_take (leavesN_bd seed N) _) hv5
          have hbr5 : Below wb.heap.size wb w5 := hbr4.grown hg5 hbr4.size (fun k hk => (hor4.lt k hk).1)
          go_roundw
          case rel => exact ⟨q + 1, q + 1, c5, a5, by omega, rfl, by go_num, rfl, ho5, hbr5⟩
          case measure => simp [intOf]; omega
    · obtain rfl : q = N := by omega
      have HF : Hid (OwnU w.heap.size wo ao q cc (leavesN seed q)) := by
        have h1 := HOR.out
        rw [List.take_of_length_le (by rw [leavesN_len]; exact Nat.le_refl _)] at h1
        exact ⟨⟨h1.row.1, by rcases h1.row.2 with h | ⟨g, cap, cur, hv, hb, r⟩; exact .inl h; exact .inr ⟨g, cap, cur, hv, by have := hbb.size; omega, r⟩⟩, h1.rng⟩
      have HB : Hid (Below w.heap.size w wo) := keepT hbb HBR.out
      clear HOR
      go_wp2
      go_ret
      exact ⟨_, _, rfl, HF.out, HB.out⟩

end Go.Proofs.YtgbjleapaioemaaGreat
