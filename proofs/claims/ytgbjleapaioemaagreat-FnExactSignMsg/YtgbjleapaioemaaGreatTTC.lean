import Derived.Test.YtgbjleapaioemaaGreatTTB
namespace Go.Proofs.YtgbjleapaioemaaGreat
open Go.RowKit

theorem wayUp_v (seed h next : Int) (N L : Nat) (l : Int) (w : World) (hx : U64 seed) (hN : HN h N) (hL : L < N) (hl : (L : Int) = l) (v : Int) (H : Nat) (hv : (lev (leavesN seed N) h.toNat).getD 0 0 = v) (hH : h.toNat = H) :
    Calls Tryz.prog 128 #[.int .i64 N, .int .i64 l, .func (Fn.func 129) #[.agg #[.int .u64 seed, .int .i64 h, .int .i64 next]] #[]] w fun e w' => ∃ ap cp, e = .returned (.tuple #[.int .u64 v, .slice ap H cp]) ∧ Hid (OwnU w.heap.size w' ap H cp (pathN (leavesN seed N) L H)) ∧ Below w.heap.size w w' := by
  have h1 := wayUp_any seed h next N L w hx hN hL
  rw [hv, hH, hl] at h1
  exact h1

set_option maxRecDepth 10000 in
set_option maxHeartbeats 4000000 in
theorem implTreeRoot_any (seed h next : Int) (w : World) (hx : U64 seed) :
    Calls Tryz.prog 123 #[tkv seed h next] w fun e w' => e = .returned (pairU (rootR seed h next)) ∧ Below w.heap.size w w' := by
  obtain ⟨wb, hwb⟩ : ∃ wb, wb = w.alloc (.cells #[.int .u64 seed, .int .i64 h, .int .i64 next] 75) := ⟨_, rfl⟩
  have hbb : Below w.heap.size w wb := by rw [hwb]; exact (Below.refl _ _).alloc (Nat.le_refl _) _
  have HXD : ∀ w7, Below wb.heap.size wb w7 → w7.cell? ⟨w.heap.size, 0, none⟩ = some (.int .u64 seed) ∧ w7.cell? ⟨w.heap.size, 1, none⟩ = some (.int .i64 h) ∧ w7.cell? ⟨w.heap.size, 2, none⟩ = some (.int .i64 next) := by
    intro w7 h7
    have hbx : w7.heap[w.heap.size]? = some (.cells #[.int .u64 seed, .int .i64 h, .int .i64 next] 75) := (h7.block _ (by rw [hwb]; simp)).trans (by rw [hwb]; exact heap_alloc_new w _)
    exact ⟨(cell_of_row _ w.heap.size 0 _ 75 (0, 0) hbx).trans rfl, (cell_of_row _ w.heap.size 1 _ 75 (0, 0) hbx).trans rfl, (cell_of_row _ w.heap.size 2 _ 75 (0, 0) hbx).trans rfl⟩
  have HWB : Hid (_ = _) := hwb
  clear hwb
  rw [tkv]
  go_enter Tryz.func123, Tryz.ntmps123
  go_upto_region 1 with fail
  rw [← HWB.out]
  clear HWB
  obtain ⟨q0, q1, q2⟩ := HXD _ (Below.refl _ _)
  go_wp2_with fail
  refine (isRight_any seed h next _).mono ?_
  rintro e w2 ⟨rfl, hb2⟩
  clear q0 q1 q2
  by_cases hk : kP h next
  · obtain ⟨N, hN⟩ := HN.of hk.1.1 hk.1.2
    have hp := hN.pow
    have HR : Hid (rootR seed h next = ((lev (leavesN seed N) h.toNat).getD 0 0, true)) := by show _ = _; unfold rootR rootN; rw [if_pos hk, hp.1]
    have hN1 := hN.le.1
    obtain ⟨v, hv⟩ : ∃ v, v = (lev (leavesN seed N) h.toNat).getD 0 0 := ⟨_, rfl⟩
    have HVV : Hid ((lev (leavesN seed N) h.toNat).getD 0 0 = v) := hv.symm
    rw [← hv] at HR
    clear hv
    obtain ⟨H, hH⟩ : ∃ H, H = h.toNat := ⟨_, rfl⟩
    have HH : Hid (h.toNat = H) := hH.symm
    clear hH hp
    rw [decide_eq_true hk]
    go_upto_region 3 with fail
    have hdr : Below wb.heap.size wb w2.drew := hb2.drew
    have SS := HXD _ hb2
    have SS1 := HXD _ hdr
    go_region_held_law (fun w7 => w7.cell? ⟨w.heap.size, 0, none⟩ = some (.int .u64 seed) ∧ w7.cell? ⟨w.heap.size, 1, none⟩ = some (.int .i64 h) ∧ w7.cell? ⟨w.heap.size, 2, none⟩ = some (.int .i64 next)) (first | assumption | exact SS | exact SS1 | exact SS2 | exact SS3)
      (first
        | (go_at_call 125; refine (leaves_any seed h next N _ hN).mono ?_; rintro e w3 ⟨rfl, hb3⟩; have hb37 := keepT hdr hb3; have SS2 := HXD _ hb37)
        | (go_at_call 128; refine (wayUp_v seed h next N 0 0 _ hx hN hN1 rfl v H HVV.out HH.out).mono ?_; rintro e w4 ⟨ap, cp, rfl, ho4, hb4⟩; have hb47 := keepT hb37 hb4; have SS3 := HXD _ hb47; clear ho4))
    all_goals
      go_wp2
      go_ret2
      exact ⟨by rw [HR.out]; rfl, keepT hbb hb47⟩
  · have HR : Hid (rootR seed h next = (0, false)) := by show _ = _; unfold rootR; rw [if_neg hk]
    rw [decide_eq_false hk]
    go_wp2
    go_ret2
    exact ⟨by rw [HR.out]; rfl, keepT hbb hb2⟩

end Go.Proofs.YtgbjleapaioemaaGreat
