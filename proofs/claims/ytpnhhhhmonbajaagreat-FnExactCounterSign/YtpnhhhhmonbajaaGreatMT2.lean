import Derived.Test.YtpnhhhhmonbajaaGreatMT1
import Derived.Test.YtpnhhhhmonbajaaGreatGB
import Derived.Test.YtpnhhhhmonbajaaGreatGB4
namespace Go.Proofs.YtpnhhhhmonbajaaGreat
open Go.RowKit

theorem below_dn {B : Nat} {w w' : World} (h : Below B w w') (n : Nat) : Below B w (w'.drewN n) := by
  induction n with
  | zero => simpa [World.drewN] using h
  | succ n ih => exact ih.drew
def kP (h n : Int) : Prop := (0 ≤ h ∧ h ≤ 5) ∧ (0 ≤ n ∧ n ≤ ((2 ^ h.toNat : Nat) : Int))
instance (h n : Int) : Decidable (kP h n) := by unfold kP; infer_instance

set_option maxRecDepth 10000 in
set_option maxHeartbeats 2000000 in
theorem isRight_any (seed h next : Int) (w : World) :
    Calls Tryz.prog 116 #[tkv seed h next] w fun e w' => e = .returned (.bool (decide (kP h next))) ∧ Below w.heap.size w w' := by
  obtain ⟨wb, hwb⟩ : ∃ wb, wb = w.alloc (.cells #[.int .u64 seed, .int .i64 h, .int .i64 next] 88) := ⟨_, rfl⟩
  have hbb : Below w.heap.size w wb := by rw [hwb]; exact (Below.refl _ _).alloc (Nat.le_refl _) _
  have HXD : ∀ w7, Below wb.heap.size wb w7 → w7.cell? ⟨w.heap.size, 0, none⟩ = some (.int .u64 seed) ∧ w7.cell? ⟨w.heap.size, 1, none⟩ = some (.int .i64 h) ∧ w7.cell? ⟨w.heap.size, 2, none⟩ = some (.int .i64 next) := by
    intro w7 h7
    have hbx : w7.heap[w.heap.size]? = some (.cells #[.int .u64 seed, .int .i64 h, .int .i64 next] 88) := (h7.block _ (by rw [hwb]; simp)).trans (by rw [hwb]; exact heap_alloc_new w _)
    exact ⟨(cell_of_row _ w.heap.size 0 _ 88 (0, 0) hbx).trans rfl, (cell_of_row _ w.heap.size 1 _ 88 (0, 0) hbx).trans rfl, (cell_of_row _ w.heap.size 2 _ 88 (0, 0) hbx).trans rfl⟩
  have HWB : Hid (_ = _) := hwb
  clear hwb
  have hdr : Below wb.heap.size wb wb.drew := (Below.refl _ _).drew
  have SS := HXD _ (Below.refl _ _)
  have SS1 := HXD _ hdr
  rw [tkv]
  by_cases h1 : 0 ≤ h ∧ h ≤ 5
  · obtain ⟨N, hN⟩ := HN.of h1.1 h1.2
    have hNp := hN.pow.1
    by_cases h2 : 0 ≤ next ∧ next ≤ (N : Int)
    · have HV : Hid (decide (kP h next) = true) := decide_eq_true ⟨h1, by rw [← hNp]; exact h2⟩
      clear hNp
      go_enter Tryz.func116, Tryz.ntmps116
      go_upto_region 1 with fail
      rw [← HWB.out]
      clear HWB
      go_region_held_law (fun w7 => w7.cell? ⟨w.heap.size, 0, none⟩ = some (.int .u64 seed) ∧ w7.cell? ⟨w.heap.size, 1, none⟩ = some (.int .i64 h) ∧ w7.cell? ⟨w.heap.size, 2, none⟩ = some (.int .i64 next)) (first | assumption | exact SS | exact SS1 | exact SS2)
        (first
          | (go_at_call_of 22 h; refine (inBounds_t h 0 5 _ h1).mono ?_; rintro e w2 ⟨rfl, rfl⟩)
          | (go_at_call_of 22 next; refine (inBounds_t next 0 (N : Int) _ h2).mono ?_; rintro e w2 ⟨rfl, rfl⟩)
          | (go_at_call 136; refine (leaves_any seed h next N _ hN).mono ?_; rintro e w3 ⟨rfl, hb3⟩; have hb37 := keepT hdr hb3; have SS2 := HXD _ hb37))
      all_goals
        go_wp2
        go_ret
        exact ⟨by rw [HV.out]; rfl, keepT hbb hb37⟩
    · have HV : Hid (decide (kP h next) = false) := decide_eq_false (fun hh => h2 (by rw [hNp]; exact hh.2))
      clear hNp
      go_enter Tryz.func116, Tryz.ntmps116
      go_upto_region 1 with fail
      rw [← HWB.out]
      clear HWB
      go_region_held_law (fun w7 => w7.cell? ⟨w.heap.size, 0, none⟩ = some (.int .u64 seed) ∧ w7.cell? ⟨w.heap.size, 1, none⟩ = some (.int .i64 h) ∧ w7.cell? ⟨w.heap.size, 2, none⟩ = some (.int .i64 next)) (first | assumption | exact SS | exact SS1 | exact SS2)
        (first
          | (go_at_call_of 22 h; refine (inBounds_t h 0 5 _ h1).mono ?_; rintro e w2 ⟨rfl, rfl⟩)
          | (go_at_call_of 22 next; refine (inBounds_f next 0 (N : Int) _ h2).mono ?_; rintro e w2 ⟨rfl, rfl⟩)
          | (go_at_call 136; refine (leaves_any seed h next N _ hN).mono ?_; rintro e w3 ⟨rfl, hb3⟩; have hb37 := keepT hdr hb3; have SS2 := HXD _ hb37))
      all_goals
        go_wp2
        go_ret
        exact ⟨by rw [HV.out]; rfl, keepT hbb hb37⟩
  · have HV : Hid (decide (kP h next) = false) := decide_eq_false (fun hh => h1 hh.1)
    go_enter Tryz.func116, Tryz.ntmps116
    go_upto_region 1 with fail
    rw [← HWB.out]
    clear HWB
    obtain ⟨q0, q1, q2⟩ := SS
    go_quiet ((go_at_call 22; refine Calls.quiet_of_same (inBounds_f h 0 5 _ h1)))
    go_wp2
    go_ret
    exact ⟨by rw [HV.out]; rfl, below_dn hbb _⟩

set_option maxRecDepth 10000 in
set_option maxHeartbeats 2000000 in
theorem l8KeyOk_any (seed h next : Int) (w : World) :
    Calls Tryz.prog 70 #[tkv seed h next] w fun e w' => e = .returned (.bool (decide (kP h next))) ∧ Below w.heap.size w w' := by
  have hbb : Below w.heap.size w (w.alloc (.cells #[.int .u64 seed, .int .i64 h, .int .i64 next] 88)) := (Below.refl _ _).alloc (Nat.le_refl _) _
  rw [tkv]
  by_cases h1 : 0 ≤ h ∧ h ≤ 5
  · obtain ⟨N, hN⟩ := HN.of h1.1 h1.2
    have hNp := hN.pow.1
    have hsh := hN.sh
    obtain ⟨h10, h15⟩ := h1
    by_cases h2 : 0 ≤ next ∧ next ≤ (N : Int)
    · have HV : Hid (decide (kP h next) = true) := decide_eq_true ⟨⟨h10, h15⟩, by rw [← hNp]; exact h2⟩
      clear hNp
      go_enter Tryz.func70, Tryz.ntmps70
      go_wp2_with fail
      refine (l1In_t h 0 5 _ ⟨h10, h15⟩).mono ?_
      rintro e w2 ⟨rfl, rfl⟩
      go_wp2_with fail
      refine (l1In_t next 0 _ _ (by first | (rw [hsh]; exact h2) | exact h2)).mono ?_
      rintro e w2 ⟨rfl, rfl⟩
      go_wp2
      go_ret
      exact ⟨by rw [HV.out]; rfl, hbb⟩
    · have HV : Hid (decide (kP h next) = false) := decide_eq_false (fun hh => h2 (by rw [hNp]; exact hh.2))
      clear hNp
      go_enter Tryz.func70, Tryz.ntmps70
      go_wp2_with fail
      refine (l1In_t h 0 5 _ ⟨h10, h15⟩).mono ?_
      rintro e w2 ⟨rfl, rfl⟩
      go_wp2_with fail
      refine (l1In_f next 0 _ _ (by first | (rw [hsh]; exact h2) | exact h2)).mono ?_
      rintro e w2 ⟨rfl, rfl⟩
      go_wp2
      go_ret
      exact ⟨by rw [HV.out]; rfl, hbb⟩
  · have HV : Hid (decide (kP h next) = false) := decide_eq_false (fun hh => h1 hh.1)
    go_enter Tryz.func70, Tryz.ntmps70
    go_wp2_with fail
    refine (l1In_f h 0 5 _ h1).mono ?_
    rintro e w2 ⟨rfl, rfl⟩
    go_wp2
    go_ret
    exact ⟨by rw [HV.out]; rfl, hbb⟩

end Go.Proofs.YtpnhhhhmonbajaaGreat

namespace Go.Proofs.YtpnhhhhmonbajaaGreat
open Go.RowKit

def rootN (seed h : Int) : Int := (lev (leavesN seed (2 ^ h.toNat)) h.toNat).getD 0 0
def rootR (seed h next : Int) : Int × Bool := if kP h next then (rootN seed h, true) else (0, false)
def pairU (t : Int × Bool) : Value := .tuple #[.int .u64 t.1, .bool t.2]

set_option maxRecDepth 10000 in
set_option maxHeartbeats 4000000 in
theorem specTreeRoot_any (seed h next : Int) (w : World) (hx : U64 seed) :
    Calls Tryz.prog 58 #[tkv seed h next] w fun e w' => e = .returned (pairU (rootR seed h next)) ∧ Below w.heap.size w w' := by
  obtain ⟨wb, hwb⟩ : ∃ wb, wb = w.alloc (.cells #[.int .u64 seed, .int .i64 h, .int .i64 next] 88) := ⟨_, rfl⟩
  have hbb : Below w.heap.size w wb := by rw [hwb]; exact (Below.refl _ _).alloc (Nat.le_refl _) _
  have HXD : Hid (∀ w7, Below wb.heap.size wb w7 → w7.cell? ⟨w.heap.size, 0, none⟩ = some (.int .u64 seed) ∧ w7.cell? ⟨w.heap.size, 1, none⟩ = some (.int .i64 h) ∧ w7.cell? ⟨w.heap.size, 2, none⟩ = some (.int .i64 next)) := by
    intro w7 h7
    have hbx : w7.heap[w.heap.size]? = some (.cells #[.int .u64 seed, .int .i64 h, .int .i64 next] 88) := (h7.block _ (by rw [hwb]; simp)).trans (by rw [hwb]; exact heap_alloc_new w _)
    exact ⟨(cell_of_row _ w.heap.size 0 _ 88 (0, 0) hbx).trans rfl, (cell_of_row _ w.heap.size 1 _ 88 (0, 0) hbx).trans rfl, (cell_of_row _ w.heap.size 2 _ 88 (0, 0) hbx).trans rfl⟩
  have HWB : Hid (_ = _) := hwb
  clear hwb
  rw [tkv]
  go_enter Tryz.func58, Tryz.ntmps58
  go_upto_region 1 with fail
  rw [← HWB.out]
  clear HWB
  obtain ⟨q0, q1, q2⟩ := HXD.out _ (Below.refl _ _)
  go_wp2_with fail
  refine (l8KeyOk_any seed h next _).mono ?_
  rintro e w2 ⟨rfl, hb2⟩
  clear q0 q1 q2
  by_cases hk : kP h next
  · obtain ⟨N, hN⟩ := HN.of hk.1.1 hk.1.2
    have hp := hN.pow
    have HR : Hid (rootR seed h next = ((lev (leavesN seed N) h.toNat).getD 0 0, true)) := by show _ = _; unfold rootR rootN; rw [if_pos hk, hp.1]
    obtain ⟨H, hH⟩ : ∃ H, H = h.toNat := ⟨_, rfl⟩
    rw [← hH] at hp HR
    obtain ⟨hpN, hH5⟩ := hp
    have HP : Hid (N = 2 ^ H) := hpN
    have hN2 := hN.le.2
    rw [decide_eq_true hk]
    clear hH hpN
    obtain ⟨q0, q1, q2⟩ := HXD.out _ hb2
    go_wp2_with fail
    refine (l8Leaves_any seed h next N _ hx hN).mono ?_
    rintro e w3 ⟨ar, cr, rfl, ho3, hb3⟩
    have HR0 : Hid (RowU w3 ar N (lev (leavesN seed N) 0)) := ho3.toRow
    have HB0 : Hid (Below w.heap.size w w3) := keepT hbb (keepT hb2 hb3)
    clear q0 q1 q2 ho3 hb3 hb2 HXD hbb
    obtain ⟨zs, hzs⟩ : ∃ zs, zs = leavesN seed N := ⟨_, rfl⟩
    have HZL : Hid (zs.length = 2 ^ H) := by show _ = _; rw [hzs, leavesN_len]; exact HP.out
    rw [← hzs] at HR0 HR
    clear hzs
    go_wp2
    go_loopw [4] (fun r wx => ∃ (j n2 c2 : Nat) (a2 : Option Addr), j ≤ H ∧ n2 ≤ 32 ∧ n2 = 2 ^ (H - j) ∧ r = .slice a2 n2 c2 ∧ RowU wx a2 n2 (lev zs j) ∧ Below w.heap.size w wx) (fun r _ => lenT r)
    case atStart => exact ⟨0, N, cr, ar, Nat.zero_le _, hN2, HP.out, rfl, HR0.out, HB0.out⟩
    case round =>
      obtain ⟨j, n2, c2, a2, hj, hn2, hn2e, rfl, hro, hbx⟩ := hrel
      have HN2 : Hid (n2 = 2 ^ (H - j)) := hn2e
      clear hn2e HR0 HB0
      by_cases hjl : j < H
      · obtain ⟨m2, hm2⟩ : ∃ m2, m2 = 2 ^ (H - (j + 1)) := ⟨_, rfl⟩
        have hnm : n2 = 2 * m2 := by rw [HN2.out, hm2, show H - j = H - (j + 1) + 1 by omega, Nat.pow_succ]; omega
        have hm1 : 1 ≤ m2 := by rw [hm2]; exact Nat.pow_pos (by decide)
        have HM2 : Hid (m2 = 2 ^ (H - (j + 1))) := hm2
        have HNM : Hid (n2 = 2 * m2) := hnm
        have hn2i : 1 < (n2 : Int) := by omega
        have hn2h : n2 / 2 = m2 := by omega
        have HH : Hid (n2 / 2 = m2) := hn2h
        have HRO : Hid (_) := hro
        clear hm2 hnm hn2h hro
        go_wp2_with fail
        refine (l8Up_any a2 n2 c2 (lev zs j) _ HRO.out (by omega)).mono ?_
        rintro e w6 ⟨ar6, cr6, rfl, ho6, hb6⟩
        rw [HH.out] at ho6 ⊢
        have HO6 : Hid (_) := ho6
        have HB6 : Hid (Below w.heap.size w w6) := keepT hbx hb6
        clear ho6 hb6 hbx HRO
        go_wp2_with fail
        go_roundw
        case rel => exact ⟨j + 1, m2, cr6, ar6, by omega, by have := HNM.out; omega, HM2.out, rfl, HO6.out.toRow, HB6.out⟩
        case measure => show m2 < n2; have := HNM.out; omega
      · obtain rfl : j = H := by omega
        have h1 : n2 = 1 := by rw [HN2.out, Nat.sub_self]
        subst h1
        obtain ⟨b, off, rfl, hlb, hcell⟩ := hro.get 0 (by decide)
        obtain ⟨v, hv⟩ : ∃ v, v = (lev zs j).getD 0 0 := ⟨_, rfl⟩
        rw [← hv] at HR
        rw [← hv, Nat.add_zero] at hcell
        have HBX : Hid (_) := hbx
        clear hv hro hbx
        go_wp2
        go_ret2
        exact ⟨by rw [HR.out]; rfl, HBX.out⟩
  · have HR : Hid (rootR seed h next = (0, false)) := by show _ = _; unfold rootR; rw [if_neg hk]
    rw [decide_eq_false hk]
    go_wp2
    go_ret2
    exact ⟨by rw [HR.out]; rfl, keepT hbb hb2⟩

end Go.Proofs.YtpnhhhhmonbajaaGreat

namespace Go.Proofs.YtpnhhhhmonbajaaGreat
open Go.RowKit

theorem wayUp_v (seed h next : Int) (N L : Nat) (l : Int) (w : World) (hx : U64 seed) (hN : HN h N) (hL : L < N) (hl : (L : Int) = l) (v : Int) (H : Nat) (hv : (lev (leavesN seed N) h.toNat).getD 0 0 = v) (hH : h.toNat = H) :
    Calls Tryz.prog 139 #[.int .i64 N, .int .i64 l, .func (Fn.func 140) #[.agg #[.int .u64 seed, .int .i64 h, .int .i64 next]] #[]] w fun e w' => ∃ ap cp, e = .returned (.tuple #[.int .u64 v, .slice ap H cp]) ∧ Hid (OwnU w.heap.size w' ap H cp (pathN (leavesN seed N) L H)) ∧ Below w.heap.size w w' := by
  have h1 := wayUp_any seed h next N L w hx hN hL
  rw [hv, hH, hl] at h1
  exact h1

set_option maxRecDepth 10000 in
set_option maxHeartbeats 4000000 in
theorem implTreeRoot_any (seed h next : Int) (w : World) (hx : U64 seed) :
    Calls Tryz.prog 134 #[tkv seed h next] w fun e w' => e = .returned (pairU (rootR seed h next)) ∧ Below w.heap.size w w' := by
  obtain ⟨wb, hwb⟩ : ∃ wb, wb = w.alloc (.cells #[.int .u64 seed, .int .i64 h, .int .i64 next] 88) := ⟨_, rfl⟩
  have hbb : Below w.heap.size w wb := by rw [hwb]; exact (Below.refl _ _).alloc (Nat.le_refl _) _
  have HXD : ∀ w7, Below wb.heap.size wb w7 → w7.cell? ⟨w.heap.size, 0, none⟩ = some (.int .u64 seed) ∧ w7.cell? ⟨w.heap.size, 1, none⟩ = some (.int .i64 h) ∧ w7.cell? ⟨w.heap.size, 2, none⟩ = some (.int .i64 next) := by
    intro w7 h7
    have hbx : w7.heap[w.heap.size]? = some (.cells #[.int .u64 seed, .int .i64 h, .int .i64 next] 88) := (h7.block _ (by rw [hwb]; simp)).trans (by rw [hwb]; exact heap_alloc_new w _)
    exact ⟨(cell_of_row _ w.heap.size 0 _ 88 (0, 0) hbx).trans rfl, (cell_of_row _ w.heap.size 1 _ 88 (0, 0) hbx).trans rfl, (cell_of_row _ w.heap.size 2 _ 88 (0, 0) hbx).trans rfl⟩
  have HWB : Hid (_ = _) := hwb
  clear hwb
  rw [tkv]
  go_enter Tryz.func134, Tryz.ntmps134
  go_upto_region 1 with fail
  rw [← HWB.out]
  clear HWB
  obtain ⟨q0, q1, q2⟩ := HXD _ (Below.refl _ _)
  go_wp2_with fail
  refine (isRight_any seed h next _).mono ?_
  rintro e w2 ⟨rfl, hb2⟩
  clear q0 q1 q2
  by_cases hk : kP h next
  · obtain ⟨N, hN⟩ := HN.of hk.1.1 hk.1.2
    have hp := hN.pow
    have HR : Hid (rootR seed h next = ((lev (leavesN seed N) h.toNat).getD 0 0, true)) := by show _ = _; unfold rootR rootN; rw [if_pos hk, hp.1]
    have hN1 := hN.le.1
    obtain ⟨v, hv⟩ : ∃ v, v = (lev (leavesN seed N) h.toNat).getD 0 0 := ⟨_, rfl⟩
    have HVV : Hid ((lev (leavesN seed N) h.toNat).getD 0 0 = v) := hv.symm
    rw [← hv] at HR
    clear hv
    obtain ⟨H, hH⟩ : ∃ H, H = h.toNat := ⟨_, rfl⟩
    have HH : Hid (h.toNat = H) := hH.symm
    clear hH hp
    rw [decide_eq_true hk]
    go_upto_region 3 with fail
    have hdr : Below wb.heap.size wb w2.drew := hb2.drew
    have SS := HXD _ hb2
    have SS1 := HXD _ hdr
    go_region_held_law (fun w7 => w7.cell? ⟨w.heap.size, 0, none⟩ = some (.int .u64 seed) ∧ w7.cell? ⟨w.heap.size, 1, none⟩ = some (.int .i64 h) ∧ w7.cell? ⟨w.heap.size, 2, none⟩ = some (.int .i64 next)) (first | assumption | exact SS | exact SS1 | exact SS2 | exact SS3)
      (first
        | (go_at_call 136; refine (leaves_any seed h next N _ hN).mono ?_; rintro e w3 ⟨rfl, hb3⟩; have hb37 := keepT hdr hb3; have SS2 := HXD _ hb37)
        | (go_at_call 139; refine (wayUp_v seed h next N 0 0 _ hx hN hN1 rfl v H HVV.out HH.out).mono ?_; rintro e w4 ⟨ap, cp, rfl, ho4, hb4⟩; have hb47 := keepT hb37 hb4; have SS3 := HXD _ hb47; clear ho4))
    all_goals
      go_wp2
      go_ret2
      exact ⟨by rw [HR.out]; rfl, keepT hbb hb47⟩
  · have HR : Hid (rootR seed h next = (0, false)) := by show _ = _; unfold rootR; rw [if_neg hk]
    rw [decide_eq_false hk]
    go_wp2
    go_ret2
    exact ⟨by rw [HR.out]; rfl, keepT hbb hb2⟩

end Go.Proofs.YtpnhhhhmonbajaaGreat

namespace Go.Proofs.YtpnhhhhmonbajaaGreat
open Go.RowKit

theorem results_tk {fn : Func} {t : Tmp} (h : fn.results = #[.cell t 88]) (tmps : Array Value) (g : Nat) (ht : tmps.getD t undef = .pointer (some ⟨g, 0, none⟩)) (w : World) (c0 c1 c2 : Value)
    (hb : w.heap[g]? = some (.cells #[c0, c1, c2] 88 (0, 0))) : (results fn tmps).run Tryz.prog w = .ok (.agg #[c0, c1, c2]) w := by
  have d0 : w.cell? ⟨g, 0, none⟩ = some c0 := (cell_of_row _ g 0 _ 88 (0, 0) hb).trans rfl
  have d1 : w.cell? ⟨g, 1, none⟩ = some c1 := (cell_of_row _ g 1 _ 88 (0, 0) hb).trans rfl
  have d2 : w.cell? ⟨g, 2, none⟩ = some c2 := (cell_of_row _ g 2 _ 88 (0, 0) hb).trans rfl
  clear hb
  have ht' : tmps[t]?.getD undef = .pointer (some ⟨g, 0, none⟩) := by rw [← ht]; simp
  simp [results, h, go_sem, ht', d0, d1, d2]
theorem alloc_oldT (w : World) (o : Obj) (g : Nat) (hg : g < w.heap.size) : (w.alloc o).heap[g]? = w.heap[g]? := ((Below.refl w.heap.size w).alloc (Nat.le_refl _) o).block g hg

end Go.Proofs.YtpnhhhhmonbajaaGreat

namespace Go.Proofs.YtpnhhhhmonbajaaGreat
open Go.RowKit

def scv (sc x h n : Int) : Value := .agg #[.int .i64 sc, .int .u64 x, .int .i64 h, .int .i64 n]
def pbv (t : Int × Int × Int) : Value := .agg #[.int .i64 t.1, .int .u64 t.2.1, .int .i64 t.2.2]
theorem results_pb {fn : Func} {t : Tmp} (h : fn.results = #[.cell t 68]) (tmps : Array Value) (g : Nat) (ht : tmps.getD t undef = .pointer (some ⟨g, 0, none⟩)) (w : World) (c0 c1 c2 : Value)
    (hb : w.heap[g]? = some (.cells #[c0, c1, c2] 68 (0, 0))) : (results fn tmps).run Tryz.prog w = .ok (.agg #[c0, c1, c2]) w := by
  have d0 : w.cell? ⟨g, 0, none⟩ = some c0 := (cell_of_row _ g 0 _ 68 (0, 0) hb).trans rfl
  have d1 : w.cell? ⟨g, 1, none⟩ = some c1 := (cell_of_row _ g 1 _ 68 (0, 0) hb).trans rfl
  have d2 : w.cell? ⟨g, 2, none⟩ = some c2 := (cell_of_row _ g 2 _ 68 (0, 0) hb).trans rfl
  clear hb
  have ht' : tmps[t]?.getD undef = .pointer (some ⟨g, 0, none⟩) := by rw [← ht]; simp
  simp [results, h, go_sem, ht', d0, d1, d2]
theorem results_pb2 {fn : Func} {t u : Tmp} (h : fn.results = #[.cell t 68, .tmp u]) (tmps : Array Value) (g : Nat) (ht : tmps.getD t undef = .pointer (some ⟨g, 0, none⟩)) (v : Value) (hv : tmps.getD u undef = v) (w : World) (c0 c1 c2 : Value)
    (hb : w.heap[g]? = some (.cells #[c0, c1, c2] 68 (0, 0))) : (results fn tmps).run Tryz.prog w = .ok (.tuple #[.agg #[c0, c1, c2], v]) w := by
  have d0 : w.cell? ⟨g, 0, none⟩ = some c0 := (cell_of_row _ g 0 _ 68 (0, 0) hb).trans rfl
  have d1 : w.cell? ⟨g, 1, none⟩ = some c1 := (cell_of_row _ g 1 _ 68 (0, 0) hb).trans rfl
  have d2 : w.cell? ⟨g, 2, none⟩ = some c2 := (cell_of_row _ g 2 _ 68 (0, 0) hb).trans rfl
  clear hb
  have ht' : tmps[t]?.getD undef = .pointer (some ⟨g, 0, none⟩) := by rw [← ht]; simp
  have hv' : tmps[u]?.getD undef = v := by rw [← hv]; simp
  simp [results, h, go_sem, ht', hv', d0, d1, d2]
theorem two_blocks (w : World) (o0 o1 : Obj) : ((w.alloc o0).alloc o1).heap[w.heap.size]? = some o0 ∧ ((w.alloc o0).alloc o1).heap[w.heap.size + 1]? = some o1 := by
  have s1 : (w.alloc o0).heap.size = w.heap.size + 1 := by simp
  exact ⟨(alloc_oldT _ o1 _ (by simp)).trans (heap_alloc_new w o0), by rw [← s1]; exact heap_alloc_new _ o1⟩
theorem two_below (w : World) (o0 o1 : Obj) : Below w.heap.size w ((w.alloc o0).alloc o1) := ((Below.refl _ _).alloc (Nat.le_refl _) _).alloc (by simp) _

set_option maxRecDepth 10000 in
set_option maxHeartbeats 1000000 in
theorem treeKeyOf_any (sc x h n : Int) (w : World) :
    Calls Tryz.prog 135 #[scv sc x h n] w fun e w' => e = .returned (tkv x h n) ∧ Below w.heap.size w w' := by
  have HB : Hid (_) := (two_blocks w (.cells #[.int .i64 sc, .int .u64 x, .int .i64 h, .int .i64 n] 33) (.cells #[.int .u64 x, .int .i64 h, .int .i64 n] 88)).2
  unfold scv tkv
  go_enter Tryz.func135, Tryz.ntmps135
  go_wp2
  try simp only [Exit.inBlock, Exit.then]
  exact bodyPost_ret (results_tk rfl _ (w.heap.size + 1) rfl _ _ _ _ HB.out) rfl ⟨rfl, two_below _ _ _⟩

set_option maxRecDepth 10000 in
set_option maxHeartbeats 1000000 in
theorem l8Tree_any (sc x h n : Int) (w : World) :
    Calls Tryz.prog 51 #[scv sc x h n] w fun e w' => e = .returned (tkv x h n) ∧ Below w.heap.size w w' := by
  have HB : Hid (_) := (two_blocks w (.cells #[.int .i64 sc, .int .u64 x, .int .i64 h, .int .i64 n] 33) (.cells #[.int .u64 x, .int .i64 h, .int .i64 n] 88)).2
  unfold scv tkv
  go_enter Tryz.func51, Tryz.ntmps51
  go_wp2
  try simp only [Exit.inBlock, Exit.then]
  exact bodyPost_ret (results_tk rfl _ (w.heap.size + 1) rfl _ _ _ _ HB.out) rfl ⟨rfl, two_below _ _ _⟩

set_option maxRecDepth 10000 in
set_option maxHeartbeats 1000000 in
theorem schemeOf_1 (w : World) : Calls Tryz.prog 92 #[.int .i64 1] w fun e w' => e = .returned (.tuple #[.iface 141 (.agg #[]), .bool true]) ∧ w' = w := by
  go_enter Tryz.func92, Tryz.ntmps92
  go_wp2
  go_ret2
  exact ⟨rfl, rfl⟩

set_option maxRecDepth 10000 in
set_option maxHeartbeats 1000000 in
theorem schemeOf_2 (w : World) : Calls Tryz.prog 92 #[.int .i64 2] w fun e w' => e = .returned (.tuple #[.iface 142 (.agg #[]), .bool true]) ∧ w' = w := by
  go_enter Tryz.func92, Tryz.ntmps92
  go_wp2
  go_ret2
  exact ⟨rfl, rfl⟩

set_option maxRecDepth 10000 in
set_option maxHeartbeats 1000000 in
theorem schemeOf_o (k : Int) (w : World) (h1 : k ≠ 1) (h2 : k ≠ 2) : Calls Tryz.prog 92 #[.int .i64 k] w fun e w' => e = .returned (.tuple #[.nilIface, .bool false]) ∧ w' = w := by
  have z1 : (k == 1) = false := beq_false_of_ne h1
  have z2 : (k == 2) = false := beq_false_of_ne h2
  clear h1 h2
  go_enter Tryz.func92, Tryz.ntmps92
  go_wp2
  go_ret2
  exact ⟨rfl, rfl⟩

def grpP (x h n : Int) : Prop := (1 ≤ x ∧ x ≤ 500000002) ∧ h = 0 ∧ n = 0
instance (x h n : Int) : Decidable (grpP x h n) := by unfold grpP; infer_instance
theorem wrap_big {x : Int} (hx : U64 x) (hb : ¬ x ≤ 9223372036854775807) : wrap64 x = x - 18446744073709551616 := by
  have := hx.2
  unfold wrap64
  omega

set_option maxRecDepth 10000 in
set_option maxHeartbeats 2000000 in
theorem groupSecretOk_any (sc x h n : Int) (w : World) (hx : U64 x) :
    Calls Tryz.prog 119 #[.agg #[], scv sc x h n] w fun e w' => e = .returned (.bool (decide (grpP x h n))) ∧ Below w.heap.size w w' := by
  have hbb : Below w.heap.size w ((w.alloc (.cells #[] 141)).alloc (.cells #[.int .i64 sc, .int .u64 x, .int .i64 h, .int .i64 n] 33)) := two_below _ _ _
  obtain ⟨hx0, hx1⟩ := hx
  unfold scv
  by_cases hs : secP x
  · have hxs : x ≤ 9223372036854775807 := by have := hs.2; omega
    by_cases h1 : h = 0
    · by_cases h2 : n = 0
      · have HV : Hid (decide (grpP x h n) = true) := decide_eq_true ⟨hs, h1, h2⟩
        have z1 : (h == 0) = true := beq_iff_eq.2 h1
        have z2 : (n == 0) = true := beq_iff_eq.2 h2
        clear h1 h2
        go_enter Tryz.func119, Tryz.ntmps119
        go_wp2_with fail
        refine (isSecret_any x _).mono ?_
        rintro e w2 ⟨rfl, rfl⟩
        rw [decide_eq_true hs]
        go_wp2
        go_ret
        exact ⟨by rw [HV.out]; rfl, hbb⟩
      · have HV : Hid (decide (grpP x h n) = false) := decide_eq_false (fun hh => h2 hh.2.2)
        have z1 : (h == 0) = true := beq_iff_eq.2 h1
        have z2 : (n == 0) = false := beq_false_of_ne h2
        clear h1 h2
        go_enter Tryz.func119, Tryz.ntmps119
        go_wp2_with fail
        refine (isSecret_any x _).mono ?_
        rintro e w2 ⟨rfl, rfl⟩
        rw [decide_eq_true hs]
        go_wp2
        go_ret
        exact ⟨by rw [HV.out]; rfl, hbb⟩
    · have HV : Hid (decide (grpP x h n) = false) := decide_eq_false (fun hh => h1 hh.2.1)
      have z1 : (h == 0) = false := beq_false_of_ne h1
      clear h1
      go_enter Tryz.func119, Tryz.ntmps119
      go_wp2_with fail
      refine (isSecret_any x _).mono ?_
      rintro e w2 ⟨rfl, rfl⟩
      rw [decide_eq_true hs]
      go_wp2
      go_ret
      exact ⟨by rw [HV.out]; rfl, hbb⟩
  · have HV : Hid (decide (grpP x h n) = false) := decide_eq_false (fun hh => hs hh.1)
    by_cases hxs : x ≤ 9223372036854775807
    · go_enter Tryz.func119, Tryz.ntmps119
      go_wp2_with fail
      refine (isSecret_any x _).mono ?_
      rintro e w2 ⟨rfl, rfl⟩
      rw [decide_eq_false hs]
      go_wp2
      go_ret
      exact ⟨by rw [HV.out]; rfl, hbb⟩
    · have hwr := wrap_big ⟨hx0, hx1⟩ hxs
      have hs2 : ¬ secP (wrap64 x) := by rw [hwr]; intro hh; have := hh.1; omega
      clear hwr
      go_enter Tryz.func119, Tryz.ntmps119
      go_wp2_with fail
      refine (isSecret_any (wrap64 x) _).mono ?_
      rintro e w2 ⟨rfl, rfl⟩
      rw [decide_eq_false hs2]
      go_wp2
      go_ret
      exact ⟨by rw [HV.out]; rfl, hbb⟩

set_option maxRecDepth 10000 in
set_option maxHeartbeats 2000000 in
theorem treeSecretOk_any (sc x h n : Int) (w : World) :
    Calls Tryz.prog 131 #[.agg #[], scv sc x h n] w fun e w' => e = .returned (.bool (decide (kP h n))) ∧ Below w.heap.size w w' := by
  have hbb : Below w.heap.size w ((w.alloc (.cells #[] 142)).alloc (.cells #[.int .i64 sc, .int .u64 x, .int .i64 h, .int .i64 n] 33)) := two_below _ _ _
  unfold scv
  go_enter Tryz.func131, Tryz.ntmps131
  go_wp2_with fail
  refine (treeKeyOf_any sc x h n _).mono ?_
  rintro e w2 ⟨rfl, hb2⟩
  go_wp2_with fail
  refine (isRight_any x h n _).mono ?_
  rintro e w3 ⟨rfl, hb3⟩
  go_wp2
  go_ret
  exact ⟨rfl, keepT hbb (keepT hb2 hb3)⟩

end Go.Proofs.YtpnhhhhmonbajaaGreat

namespace Go.Proofs.YtpnhhhhmonbajaaGreat
open Go.RowKit

theorem three_blocksT (w : World) (o0 o1 o2 : Obj) : (((w.alloc o0).alloc o1).alloc o2).heap[w.heap.size + 1 + 1]? = some o2 := by
  have s1 : ((w.alloc o0).alloc o1).heap.size = w.heap.size + 1 + 1 := by simp
  rw [← s1]; exact heap_alloc_new _ o2
theorem three_belowT (w : World) (o0 o1 o2 : Obj) : Below w.heap.size w (((w.alloc o0).alloc o1).alloc o2) := (((Below.refl _ _).alloc (Nat.le_refl _) _).alloc (by simp) _).alloc (by simp; omega) _
theorem below_set3T {B : Nat} {w0 w : World} (h : Below B w0 w) (g : Nat) (hg : B ≤ g) (u v t : Value) : Below B w0 (((w.setCell ⟨g, 0, none⟩ u).setCell ⟨g, 1, none⟩ v).setCell ⟨g, 2, none⟩ t) := ((h.setCell hg _).setCell hg _).setCell hg _
theorem heap_set3 {w : World} {g t : Nat} {c0 c1 c2 : Value} (h : w.heap[g]? = some (.cells #[c0, c1, c2] t (0, 0))) (v0 v1 v2 : Value) : (((w.setCell ⟨g, 0, none⟩ v0).setCell ⟨g, 1, none⟩ v1).setCell ⟨g, 2, none⟩ v2).heap[g]? = some (.cells #[v0, v1, v2] t (0, 0)) :=
  heap_setCell_same _ g 2 _ t v2 (heap_setCell_same _ g 1 _ t v1 (heap_setCell_same _ g 0 _ t v0 h))

end Go.Proofs.YtpnhhhhmonbajaaGreat

namespace Go.Proofs.YtpnhhhhmonbajaaGreat
open Go.RowKit

def secOk (sc x h n : Int) : Prop := (sc = 1 ∧ grpP x h n) ∨ (sc = 2 ∧ kP h n)
instance (sc x h n : Int) : Decidable (secOk sc x h n) := by unfold secOk; infer_instance
def ifv (sc : Int) : Value := if sc = 1 then .iface 141 (.agg #[]) else if sc = 2 then .iface 142 (.agg #[]) else .nilIface

set_option maxRecDepth 10000 in
set_option maxHeartbeats 2000000 in
theorem secretScheme_any (sc x h n : Int) (w : World) (hx : U64 x) :
    Calls Tryz.prog 83 #[scv sc x h n] w fun e w' => e = .returned (.tuple #[ifv sc, .bool (decide (secOk sc x h n))]) ∧ Below w.heap.size w w' := by
  have hbb : Below w.heap.size w (w.alloc (.cells #[.int .i64 sc, .int .u64 x, .int .i64 h, .int .i64 n] 33)) := (Below.refl _ _).alloc (Nat.le_refl _) _
  by_cases h1 : sc = 1
  · subst h1
    have HV : Hid (decide (secOk 1 x h n) = decide (grpP x h n)) := by
      show _ = _
      exact decide_eq_decide.2 ⟨fun hh => hh.elim (fun a => a.2) (fun a => absurd a.1 (by decide)), fun hh => .inl ⟨rfl, hh⟩⟩
    have HI : Hid (ifv 1 = .iface 141 (.agg #[])) := rfl
    rw [HI.out, scv]
    go_enter Tryz.func83, Tryz.ntmps83
    go_wp2_with fail
    refine (schemeOf_1 _).mono ?_
    rintro e w2 ⟨rfl, rfl⟩
    go_wp2_with fail
    refine (groupSecretOk_any 1 x h n _ hx).mono ?_
    rintro e w3 ⟨rfl, hb3⟩
    go_wp2
    go_ret2
    exact ⟨by rw [HV.out]; rfl, keepT hbb hb3⟩
  by_cases h2 : sc = 2
  · subst h2
    have HV : Hid (decide (secOk 2 x h n) = decide (kP h n)) := by
      show _ = _
      exact decide_eq_decide.2 ⟨fun hh => hh.elim (fun a => absurd a.1 (by decide)) (fun a => a.2), fun hh => .inr ⟨rfl, hh⟩⟩
    have HI : Hid (ifv 2 = .iface 142 (.agg #[])) := rfl
    rw [HI.out, scv]
    go_enter Tryz.func83, Tryz.ntmps83
    go_wp2_with fail
    refine (schemeOf_2 _).mono ?_
    rintro e w2 ⟨rfl, rfl⟩
    go_wp2_with fail
    refine (treeSecretOk_any 2 x h n _).mono ?_
    rintro e w3 ⟨rfl, hb3⟩
    go_wp2
    go_ret2
    exact ⟨by rw [HV.out]; rfl, keepT hbb hb3⟩
  · have HV : Hid (decide (secOk sc x h n) = false) := decide_eq_false (fun hh => hh.elim (fun a => h1 a.1) (fun a => h2 a.1))
    have HI : Hid (ifv sc = .nilIface) := by show _ = _; unfold ifv; rw [if_neg h1, if_neg h2]
    rw [HI.out, scv]
    go_enter Tryz.func83, Tryz.ntmps83
    go_wp2_with fail
    refine (schemeOf_o sc _ h1 h2).mono ?_
    rintro e w2 ⟨rfl, rfl⟩
    go_wp2
    go_ret2
    exact ⟨by rw [HV.out]; rfl, hbb⟩

set_option maxRecDepth 10000 in
set_option maxHeartbeats 2000000 in
theorem l8SecretOk_any (sc x h n : Int) (w : World) (hx : U64 x) :
    Calls Tryz.prog 47 #[scv sc x h n] w fun e w' => e = .returned (.bool (decide (secOk sc x h n))) ∧ Below w.heap.size w w' := by
  have hbb : Below w.heap.size w (w.alloc (.cells #[.int .i64 sc, .int .u64 x, .int .i64 h, .int .i64 n] 33)) := (Below.refl _ _).alloc (Nat.le_refl _) _
  obtain ⟨hx0, hx1⟩ := hx
  rw [scv]
  by_cases h1 : sc = 1
  · subst h1
    by_cases a1 : 1 ≤ x
    · by_cases a2 : x < 500000003
      · by_cases a3 : h = 0
        · have z1 : (h == 0) = true := beq_iff_eq.2 a3
          by_cases a4 : n = 0
          · have z2 : (n == 0) = true := beq_iff_eq.2 a4
            have HV : Hid (decide (secOk 1 x h n) = true) := decide_eq_true (.inl ⟨rfl, ⟨a1, by omega⟩, a3, a4⟩)
            clear a3 a4
            go_enter Tryz.func47, Tryz.ntmps47
            go_wp2
            go_ret
            exact ⟨by rw [HV.out]; rfl, hbb⟩
          · have z2 : (n == 0) = false := beq_false_of_ne a4
            have HV : Hid (decide (secOk 1 x h n) = false) := decide_eq_false (fun hh => hh.elim (fun a => a4 a.2.2.2) (fun a => absurd a.1 (by decide)))
            clear a3 a4
            go_enter Tryz.func47, Tryz.ntmps47
            go_wp2
            go_ret
            exact ⟨by rw [HV.out]; rfl, hbb⟩
        · have z1 : (h == 0) = false := beq_false_of_ne a3
          have HV : Hid (decide (secOk 1 x h n) = false) := decide_eq_false (fun hh => hh.elim (fun a => a3 a.2.2.1) (fun a => absurd a.1 (by decide)))
          clear a3
          go_enter Tryz.func47, Tryz.ntmps47
          go_wp2
          go_ret
          exact ⟨by rw [HV.out]; rfl, hbb⟩
      · have a2' : decide (x < 500000003) = false := decide_eq_false a2
        have HV : Hid (decide (secOk 1 x h n) = false) := decide_eq_false (fun hh => hh.elim (fun a => by have := a.2.1.2; omega) (fun a => absurd a.1 (by decide)))
        go_enter Tryz.func47, Tryz.ntmps47
        go_wp2
        go_ret
        exact ⟨by rw [HV.out]; rfl, hbb⟩
    · have a1' : decide (1 ≤ x) = false := decide_eq_false a1
      have HV : Hid (decide (secOk 1 x h n) = false) := decide_eq_false (fun hh => hh.elim (fun a => a1 a.2.1.1) (fun a => absurd a.1 (by decide)))
      go_enter Tryz.func47, Tryz.ntmps47
      go_wp2
      go_ret
      exact ⟨by rw [HV.out]; rfl, hbb⟩
  have z1 : (sc == 1) = false := beq_false_of_ne h1
  by_cases h2 : sc = 2
  · subst h2
    have HV : Hid (decide (secOk 2 x h n) = decide (kP h n)) := by
      show _ = _
      exact decide_eq_decide.2 ⟨fun hh => hh.elim (fun a => absurd a.1 (by decide)) (fun a => a.2), fun hh => .inr ⟨rfl, hh⟩⟩
    clear h1
    go_enter Tryz.func47, Tryz.ntmps47
    go_wp2_with fail
    refine (l8Tree_any 2 x h n _).mono ?_
    rintro e w2 ⟨rfl, hb2⟩
    go_wp2_with fail
    refine (l8KeyOk_any x h n _).mono ?_
    rintro e w3 ⟨rfl, hb3⟩
    go_wp2
    go_ret
    exact ⟨by rw [HV.out]; rfl, keepT hbb (keepT hb2 hb3)⟩
  · have z2 : (sc == 2) = false := beq_false_of_ne h2
    have HV : Hid (decide (secOk sc x h n) = false) := decide_eq_false (fun hh => hh.elim (fun a => h1 a.1) (fun a => h2 a.1))
    clear h1 h2
    go_enter Tryz.func47, Tryz.ntmps47
    go_wp2
    go_ret
    exact ⟨by rw [HV.out]; rfl, hbb⟩

theorem results_se {fn : Func} {t : Tmp} (h : fn.results = #[.cell t 33]) (tmps : Array Value) (g : Nat) (ht : tmps.getD t undef = .pointer (some ⟨g, 0, none⟩)) (w : World) (c0 c1 c2 c3 : Value)
    (hb : w.heap[g]? = some (.cells #[c0, c1, c2, c3] 33 (0, 0))) : (results fn tmps).run Tryz.prog w = .ok (.agg #[c0, c1, c2, c3]) w := by
  have d0 : w.cell? ⟨g, 0, none⟩ = some c0 := (cell_of_row _ g 0 _ 33 (0, 0) hb).trans rfl
  have d1 : w.cell? ⟨g, 1, none⟩ = some c1 := (cell_of_row _ g 1 _ 33 (0, 0) hb).trans rfl
  have d2 : w.cell? ⟨g, 2, none⟩ = some c2 := (cell_of_row _ g 2 _ 33 (0, 0) hb).trans rfl
  have d3 : w.cell? ⟨g, 3, none⟩ = some c3 := (cell_of_row _ g 3 _ 33 (0, 0) hb).trans rfl
  clear hb
  have ht' : tmps[t]?.getD undef = .pointer (some ⟨g, 0, none⟩) := by rw [← ht]; simp
  simp [results, h, go_sem, ht', d0, d1, d2, d3]

set_option maxRecDepth 10000 in
set_option maxHeartbeats 1000000 in
theorem toSecret_any (a b c d : Int) (w : World) :
    Calls Tryz.prog 7 #[scv a b c d] w fun e w' => e = .returned (scv a b c d) ∧ Below w.heap.size w w' := by
  have b1 : ((((w.alloc (.cells #[.int .i64 a, .int .u64 b, .int .i64 c, .int .i64 d] 28)).alloc (.cells #[.int .i64 a, .int .u64 b, .int .i64 c, .int .i64 d] 33)).alloc (.cells #[.int .i64 a, .int .u64 b, .int .i64 c, .int .i64 d] 33))).heap[w.heap.size + 1]? = some (.cells #[.int .i64 a, .int .u64 b, .int .i64 c, .int .i64 d] 33) := by
    exact (alloc_oldT _ _ _ (by simp)).trans (two_blocks w _ _).2
  have HB1 : Hid (_ = _) := b1
  clear b1
  unfold scv
  go_enter Tryz.func7, Tryz.ntmps7
  go_wp2
  try simp only [Exit.inBlock, Exit.then]
  exact bodyPost_ret (results_se rfl _ (w.heap.size + 1) rfl _ _ _ _ _ HB1.out) rfl ⟨rfl, three_belowT _ _ _ _⟩

end Go.Proofs.YtpnhhhhmonbajaaGreat

