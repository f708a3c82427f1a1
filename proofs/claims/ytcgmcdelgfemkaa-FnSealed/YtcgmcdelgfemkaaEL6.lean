import Derived.Test.YtcgmcdelgfemkaaEPO
import Derived.Test.YtcgmcdelgfemkaaEL1
import Derived.Test.YtcgmcdelgfemkaaERP
namespace Go.Proofs.Ytcgmcdelgfemkaa
open Go.RowKit

set_option maxRecDepth 10000 in
set_option maxHeartbeats 400000 in
theorem in_t (x lo hi : Int) (w : World) (h : lo ≤ x ∧ x ≤ hi) : Calls Try.prog 17 #[.int .i64 x, .int .i64 lo, .int .i64 hi] w fun e w' => e = .returned (.bool true) ∧ w' = w := by
  obtain ⟨h1, h2⟩ := h
  go_enter Try.func17, Try.ntmps17
  go_wp2
  go_ret
  exact ⟨by simp [*], rfl⟩

set_option maxRecDepth 10000 in
set_option maxHeartbeats 400000 in
theorem in_f (x lo hi : Int) (w : World) (h : ¬ (lo ≤ x ∧ x ≤ hi)) : Calls Try.prog 17 #[.int .i64 x, .int .i64 lo, .int .i64 hi] w fun e w' => e = .returned (.bool false) ∧ w' = w := by
  by_cases h1 : lo ≤ x
  · have h2 : hi < x := by omega
    clear h
    go_enter Try.func17, Try.ntmps17
    go_wp2
    go_ret
    exact ⟨by simp [*], rfl⟩
  · have h2 : x < lo := by omega
    clear h h1
    go_enter Try.func17, Try.ntmps17
    go_wp2
    go_ret
    exact ⟨by simp [*], rfl⟩

def exps : List Int := [-1, 0, 1, 500000002, 500000003, 1000000007]
theorem exps_range (k : Nat) : -1 ≤ exps.getD k 0 ∧ exps.getD k 0 ≤ 1000000007 := by
  match k with
  | 0 | 1 | 2 | 3 | 4 | 5 => decide
  | k + 6 => simp [exps]
theorem exps_cell (w : World) (k : Nat) (h : k < 6) : (w.alloc (.cells #[.int .i64 (-1), .int .i64 0, .int .i64 1, .int .i64 500000002, .int .i64 500000003, .int .i64 1000000007] 2)).cell? ⟨w.heap.size, k, none⟩ = some (.int .i64 (exps.getD k 0)) := by
  rw [cell_of_row _ w.heap.size k _ 2 (0, 0) (heap_alloc_new w _)]
  have hc : k = 0 ∨ k = 1 ∨ k = 2 ∨ k = 3 ∨ k = 4 ∨ k = 5 := by omega
  rcases hc with rfl | rfl | rfl | rfl | rfl | rfl <;> rfl

set_option maxRecDepth 10000 in
set_option maxHeartbeats 1000000 in
theorem drawExp_any (g : Nat) (a : Option Addr) (n cap : Nat) (bs : List Int) (w : World) (h : Rd w g a n cap bs) :
    Calls Try.prog 36 #[.pointer (some ⟨g, 0, none⟩)] w fun e w' => ∃ v : Int, e = .returned (.int .i64 v) ∧ -1 ≤ v ∧ v ≤ 1000000007 ∧ RdPost w g a n cap bs w' := by
  have H : Hid (Rd w g a n cap bs) := h
  clear h
  go_enter Try.func36, Try.ntmps36
  go_wp2_with fail
  refine (once_any g a n cap bs 12 _ H.out (by decide) (by decide)).mono ?_
  rintro e w1 ⟨c, rfl, hp1⟩
  cases c
  · go_wp2_with fail
    refine (word_any g a n cap bs _ hp1.1).mono ?_
    rintro e w2 ⟨v, rfl, hv0, hv1, hp2⟩
    have hm0 : 0 ≤ v % 500000003 := by omega
    have hm1 : v % 500000003 ≤ 500000002 := by omega
    go_wp2
    go_ret
    exact ⟨v % 500000003, rfl, by omega, by omega, hp1.step hp2⟩
  · go_wp2_with fail
    refine (below_any g a n cap bs 6 _ (hp1.alloc _).1 (by decide)).mono ?_
    rintro e w2 ⟨v, rfl, hv0, hv1, hp2⟩
    obtain ⟨k, rfl⟩ := Int.eq_ofNat_of_zero_le hv0
    have hk : k < 6 := by omega
    have hki : (k : Int) < 6 := by omega
    have hgl : g < w1.heap.size := hp1.1.lt
    have hcell : w2.cell? ⟨w1.heap.size, k, none⟩ = some (.int .i64 (exps.getD k 0)) :=
      (World.cell?_of_block (a := ⟨w1.heap.size, k, none⟩) (hp2.2.block w1.heap.size (by simp) (.inr (by omega)))).trans (exps_cell w1 k hk)
    obtain ⟨y, hy⟩ : ∃ y, y = exps.getD k 0 := ⟨_, rfl⟩
    have hyr := exps_range k
    rw [← hy] at hcell hyr
    clear hy
    go_wp2
    go_ret
    exact ⟨y, rfl, hyr.1, hyr.2, (hp1.alloc _).step hp2⟩

theorem results_sec {fn : Func} {t : Tmp} (h : fn.results = #[.cell t 40]) (tmps : Array Value) (g : Nat) (ht : tmps.getD t undef = .pointer (some ⟨g, 0, none⟩)) (w : World) (c0 c1 c2 c3 : Value)
    (hb : w.heap[g]? = some (.cells #[c0, c1, c2, c3] 40 (0, 0))) : (results fn tmps).run Try.prog w = .ok (.agg #[c0, c1, c2, c3]) w := by
  have d0 : w.cell? ⟨g, 0, none⟩ = some c0 := (cell_of_row _ g 0 _ 40 (0, 0) hb).trans rfl
  have d1 : w.cell? ⟨g, 1, none⟩ = some c1 := (cell_of_row _ g 1 _ 40 (0, 0) hb).trans rfl
  have d2 : w.cell? ⟨g, 2, none⟩ = some c2 := (cell_of_row _ g 2 _ 40 (0, 0) hb).trans rfl
  have d3 : w.cell? ⟨g, 3, none⟩ = some c3 := (cell_of_row _ g 3 _ 40 (0, 0) hb).trans rfl
  clear hb
  have ht' : tmps[t]?.getD undef = .pointer (some ⟨g, 0, none⟩) := by rw [← ht]; simp
  simp [results, h, go_sem, ht', d0, d1, d2, d3]

set_option maxRecDepth 10000 in
set_option maxHeartbeats 1000000 in
theorem groupSecret_any (n : Nat) (w : World) (hn : n ≤ 100) :
    Calls Try.prog 14 #[.int .i64 (n : Int)] w fun e w' => e = .returned (scv 1 ((7000 + 313 * n : Nat) : Int) 0 0) ∧ Below w.heap.size w w' := by
  have hbn : (w.alloc (.cells #[.int .i64 1, .int .u64 ((7000 + 313 * n : Nat) : Int), .int .i64 0, .int .i64 0] 40)).heap[w.heap.size]? = some (.cells #[.int .i64 1, .int .u64 ((7000 + 313 * n : Nat) : Int), .int .i64 0, .int .i64 0] 40) := heap_alloc_new w _
  have HB : Hid ((w.alloc (.cells #[.int .i64 1, .int .u64 ((7000 + 313 * n : Nat) : Int), .int .i64 0, .int .i64 0] 40)).heap[w.heap.size]? = some (.cells #[.int .i64 1, .int .u64 ((7000 + 313 * n : Nat) : Int), .int .i64 0, .int .i64 0] 40)) := hbn
  have hbb : Below w.heap.size w (w.alloc (.cells #[.int .i64 1, .int .u64 ((7000 + 313 * n : Nat) : Int), .int .i64 0, .int .i64 0] 40)) := (Below.refl _ _).alloc (Nat.le_refl _) _
  have HBB : Hid (Below w.heap.size w (w.alloc (.cells #[.int .i64 1, .int .u64 ((7000 + 313 * n : Nat) : Int), .int .i64 0, .int .i64 0] 40))) := hbb
  clear hbn hbb
  have q1 : (7000 : Int) + 313 * (n : Int) ≤ 40000 := by omega
  go_enter Try.func14, Try.ntmps14
  go_wp2
  try simp only [Exit.inBlock, Exit.then]
  have e1 : ((7000 + 313 * n : Nat) : Int) = 7000 + 313 * (n : Int) := by omega
  rw [e1] at HB HBB ⊢
  exact bodyPost_ret (results_sec rfl _ w.heap.size rfl _ _ _ _ _ HB.out) rfl ⟨rfl, HBB.out⟩

theorem rootN_bd (seed h : Int) : U64 (rootN seed h) := lev_bd _ (leavesN_bd _ _) _ _

theorem pubR_bd (sc x h n : Int) : U64 (pubR sc x h n).1.2.1 := by
  unfold pubR
  split
  · by_cases e : sc = 1
    · rw [if_pos e]
      show U64 (keyOf x)
      unfold keyOf
      split
      · have := gp_bd 4 x; exact ⟨by omega, by omega⟩
      · exact ⟨by decide, by decide⟩
    · rw [if_neg e]
      exact rootN_bd x h
  · exact ⟨by decide, by decide⟩

set_option maxRecDepth 10000 in
set_option maxHeartbeats 1000000 in
theorem l9Secret_any (n : Nat) (w : World) (hn : n ≤ 3) :
    Calls Try.prog 65 #[.int .i64 (n : Int)] w fun e w' => ∃ sc x h : Int, e = .returned (scv sc x h 0) ∧ U64 x ∧ Below w.heap.size w w' := by
  have hw : n = 0 ∨ n = 1 ∨ n = 2 ∨ n = 3 := by omega
  rcases hw with rfl | rfl | rfl | rfl
  · have HB : Hid ((w.alloc (.cells #[.int .i64 1, .int .u64 1000, .int .i64 0, .int .i64 0] 40)).heap[w.heap.size]? = some (.cells #[.int .i64 1, .int .u64 1000, .int .i64 0, .int .i64 0] 40)) := heap_alloc_new w _
    have HBB : Hid (Below w.heap.size w (w.alloc (.cells #[.int .i64 1, .int .u64 1000, .int .i64 0, .int .i64 0] 40))) := (Below.refl _ _).alloc (Nat.le_refl _) _
    go_enter Try.func65, Try.ntmps65
    go_wp2
    try simp only [Exit.inBlock, Exit.then]
    exact bodyPost_ret (results_sec rfl _ w.heap.size rfl _ _ _ _ _ HB.out) rfl ⟨1, 1000, 0, rfl, ⟨by decide, by decide⟩, HBB.out⟩
  · have HB : Hid ((w.alloc (.cells #[.int .i64 1, .int .u64 1037, .int .i64 0, .int .i64 0] 40)).heap[w.heap.size]? = some (.cells #[.int .i64 1, .int .u64 1037, .int .i64 0, .int .i64 0] 40)) := heap_alloc_new w _
    have HBB : Hid (Below w.heap.size w (w.alloc (.cells #[.int .i64 1, .int .u64 1037, .int .i64 0, .int .i64 0] 40))) := (Below.refl _ _).alloc (Nat.le_refl _) _
    go_enter Try.func65, Try.ntmps65
    go_wp2
    try simp only [Exit.inBlock, Exit.then]
    exact bodyPost_ret (results_sec rfl _ w.heap.size rfl _ _ _ _ _ HB.out) rfl ⟨1, 1037, 0, rfl, ⟨by decide, by decide⟩, HBB.out⟩
  · have HB : Hid ((w.alloc (.cells #[.int .i64 1, .int .u64 1074, .int .i64 0, .int .i64 0] 40)).heap[w.heap.size]? = some (.cells #[.int .i64 1, .int .u64 1074, .int .i64 0, .int .i64 0] 40)) := heap_alloc_new w _
    have HBB : Hid (Below w.heap.size w (w.alloc (.cells #[.int .i64 1, .int .u64 1074, .int .i64 0, .int .i64 0] 40))) := (Below.refl _ _).alloc (Nat.le_refl _) _
    go_enter Try.func65, Try.ntmps65
    go_wp2
    try simp only [Exit.inBlock, Exit.then]
    exact bodyPost_ret (results_sec rfl _ w.heap.size rfl _ _ _ _ _ HB.out) rfl ⟨1, 1074, 0, rfl, ⟨by decide, by decide⟩, HBB.out⟩
  · have HB : Hid ((w.alloc (.cells #[.int .i64 2, .int .u64 231, .int .i64 1, .int .i64 0] 40)).heap[w.heap.size]? = some (.cells #[.int .i64 2, .int .u64 231, .int .i64 1, .int .i64 0] 40)) := heap_alloc_new w _
    have HBB : Hid (Below w.heap.size w (w.alloc (.cells #[.int .i64 2, .int .u64 231, .int .i64 1, .int .i64 0] 40))) := (Below.refl _ _).alloc (Nat.le_refl _) _
    go_enter Try.func65, Try.ntmps65
    go_wp2
    try simp only [Exit.inBlock, Exit.then]
    exact bodyPost_ret (results_sec rfl _ w.heap.size rfl _ _ _ _ _ HB.out) rfl ⟨2, 231, 1, rfl, ⟨by decide, by decide⟩, HBB.out⟩

theorem below_set3E {B : Nat} {w0 w : World} (h : Below B w0 w) (g : Nat) (hg : B ≤ g) (u v t : Value) : Below B w0 (((w.setCell ⟨g, 0, none⟩ u).setCell ⟨g, 1, none⟩ v).setCell ⟨g, 2, none⟩ t) := ((h.setCell hg u).setCell hg v).setCell hg t
theorem results_pub {fn : Func} {t : Tmp} (h : fn.results = #[.cell t 48]) (tmps : Array Value) (g : Nat) (ht : tmps.getD t undef = .pointer (some ⟨g, 0, none⟩)) (w : World) (c0 c1 c2 : Value)
    (hb : w.heap[g]? = some (.cells #[c0, c1, c2] 48 (0, 0))) : (results fn tmps).run Try.prog w = .ok (.agg #[c0, c1, c2]) w := by
  have d0 : w.cell? ⟨g, 0, none⟩ = some c0 := (cell_of_row _ g 0 _ 48 (0, 0) hb).trans rfl
  have d1 : w.cell? ⟨g, 1, none⟩ = some c1 := (cell_of_row _ g 1 _ 48 (0, 0) hb).trans rfl
  have d2 : w.cell? ⟨g, 2, none⟩ = some c2 := (cell_of_row _ g 2 _ 48 (0, 0) hb).trans rfl
  clear hb
  have ht' : tmps[t]?.getD undef = .pointer (some ⟨g, 0, none⟩) := by rw [← ht]; simp
  simp [results, h, go_sem, ht', d0, d1, d2]

set_option maxRecDepth 10000 in
set_option maxHeartbeats 2000000 in
theorem l9Key_any (n : Nat) (w : World) (hn : n ≤ 3) :
    Calls Try.prog 35 #[.int .i64 (n : Int)] w fun e w' => ∃ p : Int × Int × Int, e = .returned (.agg #[.int .i64 p.1, .int .u64 p.2.1, .int .i64 p.2.2]) ∧ U64 p.2.1 ∧ Below w.heap.size w w' := by
  obtain ⟨wb, hwb⟩ : ∃ wb, wb = w.alloc (.cells #[.int .i64 0, .int .u64 0, .int .i64 0] 48) := ⟨_, rfl⟩
  have hbb : Below w.heap.size w wb := by rw [hwb]; exact (Below.refl _ _).alloc (Nat.le_refl _) _
  have HZ : Hid (wb.heap[w.heap.size]? = some (.cells #[.int .i64 0, .int .u64 0, .int .i64 0] 48)) := by rw [hwb]; exact heap_alloc_new w _
  have hl0 : w.heap.size < wb.heap.size := (Array.getElem?_eq_some_iff.1 HZ.out).1
  have HW : Hid (_ = _) := hwb
  clear hwb
  go_enter Try.func35, Try.ntmps35
  go_upto_region 1 with fail
  rw [← HW.out]
  clear HW
  go_wp2_with fail
  refine (l9Secret_any n _ hn).mono ?_
  rintro e w2 ⟨sc, x, h, rfl, hx, hb2⟩
  go_wp2_with fail
  refine (specPubOf_any sc x h 0 _ hx).mono ?_
  rintro e w3 ⟨rfl, hb3⟩
  have hyb := pubR_bd sc x h 0
  obtain ⟨t, ht⟩ : ∃ t, t = pubR sc x h 0 := ⟨_, rfl⟩
  rw [← ht] at hyb ⊢
  clear ht
  obtain ⟨⟨p0, p1, p2⟩, ok⟩ := t
  obtain ⟨w4, hw4⟩ : ∃ w4, w4 = w3.alloc (.cells #[.int .i64 p0, .int .u64 p1, .int .i64 p2] 48) := ⟨_, rfl⟩
  have hb4 : Below w3.heap.size w3 w4 := by rw [hw4]; exact (Below.refl _ _).alloc (Nat.le_refl _) _
  have HX4 : Hid (w4.heap[w3.heap.size]? = some (.cells #[.int .i64 p0, .int .u64 p1, .int .i64 p2] 48)) := by rw [hw4]; exact heap_alloc_new w3 _
  have HW4 : Hid (_ = _) := hw4
  clear hw4
  have K4 : Below wb.heap.size wb w4 := keepT hb2 (keepT hb3 hb4)
  have Z4 := (K4.block _ hl0).trans HZ.out
  have lZ : w.heap.size < w4.heap.size := (Array.getElem?_eq_some_iff.1 Z4).1
  have lX : w3.heap.size < w4.heap.size := (Array.getElem?_eq_some_iff.1 HX4.out).1
  have a0 : w4.cell? ⟨w3.heap.size, 0, none⟩ = some (.int .i64 p0) := (cell_of_row _ _ 0 _ 48 (0, 0) HX4.out).trans rfl
  have a1 : w4.cell? ⟨w3.heap.size, 1, none⟩ = some (.int .u64 p1) := (cell_of_row _ _ 1 _ 48 (0, 0) HX4.out).trans rfl
  have a2 : w4.cell? ⟨w3.heap.size, 2, none⟩ = some (.int .i64 p2) := (cell_of_row _ _ 2 _ 48 (0, 0) HX4.out).trans rfl
  have z0 : w4.cell? ⟨w.heap.size, 0, none⟩ = some (.int .i64 0) := (cell_of_row _ _ 0 _ 48 (0, 0) Z4).trans rfl
  have z1 : w4.cell? ⟨w.heap.size, 1, none⟩ = some (.int .u64 0) := (cell_of_row _ _ 1 _ 48 (0, 0) Z4).trans rfl
  have z2 : w4.cell? ⟨w.heap.size, 2, none⟩ = some (.int .i64 0) := (cell_of_row _ _ 2 _ 48 (0, 0) Z4).trans rfl
  have f0 : w4.frozen? ⟨w.heap.size, 0, none⟩ = false := frozen_of_row _ _ 0 _ 48 Z4
  have f1 : w4.frozen? ⟨w.heap.size, 1, none⟩ = false := frozen_of_row _ _ 1 _ 48 Z4
  have f2 : w4.frozen? ⟨w.heap.size, 2, none⟩ = false := frozen_of_row _ _ 2 _ 48 Z4
  unfold pbv
  go_upto_region 2 with fail
  rw [← HW4.out]
  clear HW4
  go_wp2
  try simp only [Exit.inBlock, Exit.then]
  exact bodyPost_ret (results_pub rfl _ (w.heap.size) rfl _ _ _ _ (heap_set3 Z4 _ _ _)) rfl ⟨(p0, p1, p2), rfl, hyb, below_set3E (keepT hbb K4) _ (by omega) _ _ _⟩

set_option maxRecDepth 10000 in
set_option maxHeartbeats 2000000 in
theorem pubOfLaw_any (x : Int) (w : World) (hx : secP x) :
    Calls Try.prog 16 #[scv 1 x 0 0] w fun e w' => e = .returned (.agg #[.int .i64 1, .int .u64 (gp 4 x), .int .i64 0]) ∧ Below w.heap.size w w' := by
  have HR : Hid (pubR 1 x 0 0 = ((1, gp 4 x, 0), true)) := by
    show _ = _
    unfold pubR
    rw [if_pos (.inl ⟨rfl, hx, rfl, rfl⟩), if_pos rfl]
    unfold keyOf
    rw [if_pos hx]
  have PB := fun W => specPubOf_any 1 x 0 0 W ⟨by have := hx.1; omega, by have := hx.2; omega⟩
  rw [HR.out] at PB
  obtain ⟨y, hy⟩ : ∃ y, y = gp 4 x := ⟨_, rfl⟩
  rw [← hy] at PB ⊢
  clear hy HR
  obtain ⟨wb, hwb⟩ : ∃ wb, wb = (w.alloc (.cells #[.int .i64 1, .int .u64 x, .int .i64 0, .int .i64 0] 40)).alloc (.cells #[.int .i64 0, .int .u64 0, .int .i64 0] 48) := ⟨_, rfl⟩
  have hbb : Below w.heap.size w wb := by rw [hwb]; exact two_below _ _ _
  have hx2 := two_blocks w (.cells #[.int .i64 1, .int .u64 x, .int .i64 0, .int .i64 0] 40) (.cells #[.int .i64 0, .int .u64 0, .int .i64 0] 48)
  rw [← hwb] at hx2
  have HZ : Hid (wb.heap[w.heap.size + 1]? = some (.cells #[.int .i64 0, .int .u64 0, .int .i64 0] 48)) := hx2.2
  have hl0 : w.heap.size + 1 < wb.heap.size := (Array.getElem?_eq_some_iff.1 HZ.out).1
  have c0 : wb.cell? ⟨w.heap.size, 0, none⟩ = some (.int .i64 1) := (cell_of_row _ _ 0 _ 40 (0, 0) hx2.1).trans rfl
  have c1 : wb.cell? ⟨w.heap.size, 1, none⟩ = some (.int .u64 x) := (cell_of_row _ _ 1 _ 40 (0, 0) hx2.1).trans rfl
  have c2 : wb.cell? ⟨w.heap.size, 2, none⟩ = some (.int .i64 0) := (cell_of_row _ _ 2 _ 40 (0, 0) hx2.1).trans rfl
  have c3 : wb.cell? ⟨w.heap.size, 3, none⟩ = some (.int .i64 0) := (cell_of_row _ _ 3 _ 40 (0, 0) hx2.1).trans rfl
  have HW : Hid (_ = _) := hwb
  clear hwb hx2
  unfold scv at PB ⊢
  go_enter Try.func16, Try.ntmps16
  go_upto_region 1 with fail
  rw [← HW.out]
  clear HW
  go_wp2_with fail
  refine (PB _).mono ?_
  rintro e w3 ⟨rfl, hb3⟩
  clear c0 c1 c2 c3 PB
  obtain ⟨w4, hw4⟩ : ∃ w4, w4 = w3.alloc (.cells #[.int .i64 1, .int .u64 y, .int .i64 0] 48) := ⟨_, rfl⟩
  have hb4 : Below w3.heap.size w3 w4 := by rw [hw4]; exact (Below.refl _ _).alloc (Nat.le_refl _) _
  have HX4 : Hid (w4.heap[w3.heap.size]? = some (.cells #[.int .i64 1, .int .u64 y, .int .i64 0] 48)) := by rw [hw4]; exact heap_alloc_new w3 _
  have HW4 : Hid (_ = _) := hw4
  clear hw4
  have K4 : Below wb.heap.size wb w4 := keepT hb3 hb4
  have Z4 := (K4.block _ hl0).trans HZ.out
  have lZ : w.heap.size + 1 < w4.heap.size := (Array.getElem?_eq_some_iff.1 Z4).1
  have lX : w3.heap.size < w4.heap.size := (Array.getElem?_eq_some_iff.1 HX4.out).1
  have a0 : w4.cell? ⟨w3.heap.size, 0, none⟩ = some (.int .i64 1) := (cell_of_row _ _ 0 _ 48 (0, 0) HX4.out).trans rfl
  have a1 : w4.cell? ⟨w3.heap.size, 1, none⟩ = some (.int .u64 y) := (cell_of_row _ _ 1 _ 48 (0, 0) HX4.out).trans rfl
  have a2 : w4.cell? ⟨w3.heap.size, 2, none⟩ = some (.int .i64 0) := (cell_of_row _ _ 2 _ 48 (0, 0) HX4.out).trans rfl
  have z0 : w4.cell? ⟨w.heap.size + 1, 0, none⟩ = some (.int .i64 0) := (cell_of_row _ _ 0 _ 48 (0, 0) Z4).trans rfl
  have z1 : w4.cell? ⟨w.heap.size + 1, 1, none⟩ = some (.int .u64 0) := (cell_of_row _ _ 1 _ 48 (0, 0) Z4).trans rfl
  have z2 : w4.cell? ⟨w.heap.size + 1, 2, none⟩ = some (.int .i64 0) := (cell_of_row _ _ 2 _ 48 (0, 0) Z4).trans rfl
  have f0 : w4.frozen? ⟨w.heap.size + 1, 0, none⟩ = false := frozen_of_row _ _ 0 _ 48 Z4
  have f1 : w4.frozen? ⟨w.heap.size + 1, 1, none⟩ = false := frozen_of_row _ _ 1 _ 48 Z4
  have f2 : w4.frozen? ⟨w.heap.size + 1, 2, none⟩ = false := frozen_of_row _ _ 2 _ 48 Z4
  unfold pbv
  go_upto_region 2 with fail
  rw [← HW4.out]
  clear HW4
  go_wp2
  try simp only [Exit.inBlock, Exit.then]
  exact bodyPost_ret (results_pub rfl _ (w.heap.size + 1) rfl _ _ _ _ (heap_set3 Z4 _ _ _)) rfl ⟨rfl, below_set3E (keepT hbb K4) _ (by omega) _ _ _⟩

end Go.Proofs.Ytcgmcdelgfemkaa
