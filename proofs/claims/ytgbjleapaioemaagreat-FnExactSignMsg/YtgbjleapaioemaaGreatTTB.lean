import Derived.Test.YtgbjleapaioemaaGreatTTA
namespace Go.Proofs.YtgbjleapaioemaaGreat
open Go.RowKit

def rootN (seed h : Int) : Int := (lev (leavesN seed (2 ^ h.toNat)) h.toNat).getD 0 0
def rootR (seed h next : Int) : Int × Bool := if kP h next then (rootN seed h, true) else (0, false)
def pairU (t : Int × Bool) : Value := .tuple #[.int .u64 t.1, .bool t.2]

set_option maxRecDepth 10000 in
set_option maxHeartbeats 4000000 in
theorem specTreeRoot_any (seed h next : Int) (w : World) (hx : U64 seed) :
    Calls Tryz.prog 48 #[tkv seed h next] w fun e w' => e = .returned (pairU (rootR seed h next)) ∧ Below w.heap.size w w' := by
  obtain ⟨wb, hwb⟩ : ∃ wb, wb = w.alloc (.cells #[.int .u64 seed, .int .i64 h, .int .i64 next] 75) := ⟨_, rfl⟩
  have hbb : Below w.heap.size w wb := by rw [hwb]; exact (Below.refl _ _).alloc (Nat.le_refl _) _
  have HXD : Hid (∀ w7, Below wb.heap.size wb w7 → w7.cell? ⟨w.heap.size, 0, none⟩ = some (.int .u64 seed) ∧ w7.cell? ⟨w.heap.size, 1, none⟩ = some (.int .i64 h) ∧ w7.cell? ⟨w.heap.size, 2, none⟩ = some (.int .i64 next)) := by
    intro w7 h7
    have hbx : w7.heap[w.heap.size]? = some (.cells #[.int .u64 seed, .int .i64 h, .int .i64 next] 75) := (h7.block _ (by rw [hwb]; simp)).trans (by rw [hwb]; exact heap_alloc_new w _)
    exact ⟨(cell_of_row _ w.heap.size 0 _ 75 (0, 0) hbx).trans rfl, (cell_of_row _ w.heap.size 1 _ 75 (0, 0) hbx).trans rfl, (cell_of_row _ w.heap.size 2 _ 75 (0, 0) hbx).trans rfl⟩
  have HWB : Hid (_ = _) := hwb
  clear hwb
  rw [tkv]
  go_enter Tryz.func48, Tryz.ntmps48
  go_upto_region 1 with fail
  rw [← HWB.out]
  clear HWB
  obtain ⟨q0, q1, q2⟩ := HXD.out _ (Below.refl _ _)
  go_wp2_with fail
  refine (l8KeyOk_any seed h next _).mono ?_
  rintro e w2 ⟨rfl, hb2⟩
  clear q0 q1 q2
  by_cases hk : kP h next
  · obtain ⟨N, hN⟩ := HN.of hk.1.1 hk.1.2
    have hp := hN.pow
    have HR : Hid (rootR seed h next = ((lev (leavesN seed N) h.toNat).getD 0 0, true)) := by show _ = _; unfold rootR rootN; rw [if_pos hk, hp.1]
    obtain ⟨H, hH⟩ : ∃ H, H = h.toNat := ⟨_, rfl⟩
    rw [← hH] at hp HR
    obtain ⟨hpN, hH5⟩ := hp
    have HP : Hid (N = 2 ^ H) := hpN
    have hN2 := hN.le.2
    rw [decide_eq_true hk]
    clear hH hpN
    obtain ⟨q0, q1, q2⟩ := HXD.out _ hb2
    go_wp2_with fail
    refine (l8Leaves_any seed h next N _ hx hN).mono ?_
    rintro e w3 ⟨ar, cr, rfl, ho3, hb3⟩
    have HR0 : Hid (RowU w3 ar N (lev (leavesN seed N) 0)) := ho3.toRow
    have HB0 : Hid (Below w.heap.size w w3) := keepT hbb (keepT hb2 hb3)
    clear q0 q1 q2 ho3 hb3 hb2 HXD hbb
    obtain ⟨zs, hzs⟩ : ∃ zs, zs = leavesN seed N := ⟨_, rfl⟩
    have HZL : Hid (zs.length = 2 ^ H) := by show _ = _; rw [hzs, leavesN_len]; exact HP.out
    rw [← hzs] at HR0 HR
    clear hzs
    go_wp2
    go_loopw [4] (fun r wx => ∃ (j n2 c2 : Nat) (a2 : Option Addr), j ≤ H ∧ n2 ≤ 32 ∧ n2 = 2 ^ (H - j) ∧ r = .slice a2 n2 c2 ∧ RowU wx a2 n2 (lev zs j) ∧ Below w.heap.size w wx) (fun r _ => lenT r)
    case atStart => exact ⟨0, N, cr, ar, Nat.zero_le _, hN2, HP.out, rfl, HR0.out, HB0.out⟩
    case round =>
      obtain ⟨j, n2, c2, a2, hj, hn2, hn2e, rfl, hro, hbx⟩ := hrel
      have HN2 : Hid (n2 = 2 ^ (H - j)) := hn2e
      clear hn2e HR0 HB0
      by_cases hjl : j < H
      · obtain ⟨m2, hm2⟩ : ∃ m2, m2 = 2 ^ (H - (j + 1)) := ⟨_, rfl⟩
        have hnm : n2 = 2 * m2 := by rw [HN2.out, hm2, show H - j = H - (j + 1) + 1 by omega, Nat.pow_succ]; omega
        have hm1 : 1 ≤ m2 := by rw [hm2]; exact Nat.pow_pos (by decide)
        have HM2 : Hid (m2 = 2 ^ (H - (j + 1))) := hm2
        have HNM : Hid (n2 = 2 * m2) := hnm
        have hn2i : 1 < (n2 : Int) := by omega
        have hn2h : n2 / 2 = m2 := by omega
        have HH : Hid (n2 / 2 = m2) := hn2h
        have HRO : Hid (_) := hro
        clear hm2 hnm hn2h hro
        go_wp2_with fail
        refine (l8Up_any a2 n2 c2 (lev zs j) _ HRO.out (by omega)).mono ?_
        rintro e w6 ⟨ar6, cr6, rfl, ho6, hb6⟩
        rw [HH.out] at ho6 ⊢
        have HO6 : Hid (_) := ho6
        have HB6 : Hid (Below w.heap.size w w6) := keepT hbx hb6
        clear ho6 hb6 hbx HRO
        go_wp2_with fail
        go_roundw
        case rel => exact ⟨j + 1, m2, cr6, ar6, by omega, by have := HNM.out; omega, HM2.out, rfl, HO6.out.toRow, HB6.out⟩
        case measure => show m2 < n2; have := HNM.out; omega
      · obtain rfl : j = H := by omega
        have h1 : n2 = 1 := by rw [HN2.out, Nat.sub_self]
        subst h1
        obtain ⟨b, off, rfl, hlb, hcell⟩ := hro.get 0 (by decide)
        obtain ⟨v, hv⟩ : ∃ v, v = (lev zs j).getD 0 0 := ⟨_, rfl⟩
        rw [← hv] at HR
        rw [← hv, Nat.add_zero] at hcell
        have HBX : Hid (_) := hbx
        clear hv hro hbx
        go_wp2
        go_ret2
        exact ⟨by rw [HR.out]; rfl, HBX.out⟩
  · have HR : Hid (rootR seed h next = (0, false)) := by show _ = _; unfold rootR; rw [if_neg hk]
    rw [decide_eq_false hk]
    go_wp2
    go_ret2
    exact ⟨by rw [HR.out]; rfl, keepT hbb hb2⟩

end Go.Proofs.YtgbjleapaioemaaGreat
