import Derived.Test.YteemdeggdcoenaaWRd2
import Derived.Test.YteemdeggdcoenaaTTD
namespace Go.Proofs.Yteemdeggdcoenaa
open Go.RowKit

def KeyAt (w : World) (g : Nat) (seed h n : Int) : Prop := w.heap[g]? = some (.cells #[.int .u64 seed, .int .i64 h, .int .i64 n] 49 (0, 0))
theorem KeyAt.c0 {w : World} {g : Nat} {seed h n : Int} (k : KeyAt w g seed h n) : w.cell? ⟨g, 0, none⟩ = some (.int .u64 seed) := (cell_of_row _ _ 0 _ 49 (0, 0) k).trans rfl
theorem KeyAt.c1 {w : World} {g : Nat} {seed h n : Int} (k : KeyAt w g seed h n) : w.cell? ⟨g, 1, none⟩ = some (.int .i64 h) := (cell_of_row _ _ 1 _ 49 (0, 0) k).trans rfl
theorem KeyAt.c2 {w : World} {g : Nat} {seed h n : Int} (k : KeyAt w g seed h n) : w.cell? ⟨g, 2, none⟩ = some (.int .i64 n) := (cell_of_row _ _ 2 _ 49 (0, 0) k).trans rfl
theorem KeyAt.fz {w : World} {g : Nat} {seed h n : Int} (k : KeyAt w g seed h n) (i : Nat) : w.frozen? ⟨g, i, none⟩ = false := frozen_of_row w _ i _ 49 k
theorem KeyAt.lt {w : World} {g : Nat} {seed h n : Int} (k : KeyAt w g seed h n) : g < w.heap.size := (Array.getElem?_eq_some_iff.1 k).1
theorem KeyAt.kept {w w' : World} {g : Nat} {seed h n : Int} (k : KeyAt w g seed h n) (hb : Below w.heap.size w w') : KeyAt w' g seed h n := (hb.block _ k.lt).trans k
theorem KeyAt.touch {w w' : World} {g lo hi : Nat} {seed h n : Int} (k : KeyAt w g seed h n) (ht : Touch lo hi w w') (hg : g < lo ∨ hi ≤ g) : KeyAt w' g seed h n := (ht.block _ k.lt hg).trans k
theorem KeyAt.put1 {w : World} {g : Nat} {seed h n : Int} (k : KeyAt w g seed h n) (v : Int) : KeyAt (w.setCell ⟨g, 1, none⟩ (.int .i64 v)) g seed v n := heap_setCell_same w g 1 _ 49 _ k
theorem KeyAt.put2 {w : World} {g : Nat} {seed h n : Int} (k : KeyAt w g seed h n) (v : Int) : KeyAt (w.setCell ⟨g, 2, none⟩ (.int .i64 v)) g seed h v := heap_setCell_same w g 2 _ 49 _ k
theorem KeyAt.other {w : World} {g : Nat} {seed h n : Int} (k : KeyAt w g seed h n) (g' i : Nat) (v : Value) (hg : g ≠ g') : KeyAt (w.setCell ⟨g', i, none⟩ v) g seed h n := (Below.heap_setCell _ _ _ _ (by simpa using hg)).trans k
theorem key_new (w : World) (seed h n : Int) : KeyAt (w.alloc (.cells #[.int .u64 seed, .int .i64 h, .int .i64 n] 49)) w.heap.size seed h n := heap_alloc_new w _
theorem RdPost.put {w w1 : World} {g : Nat} {a : Option Addr} {n cap : Nat} {bs : List Int} (h : RdPost w g a n cap bs w1) {K : Nat} (hg : g < K) (hK : w.heap.size ≤ K) (i : Nat) (v : Value) : RdPost w g a n cap bs (w1.setCell ⟨K, i, none⟩ v) :=
  h.grown (lo := K) (hi := K + 1) ((Touch.same K (K + 1) w1).setCell (by simp) (by simp) v) hg hK
def hts : List Int := [-1, 5, 6]
theorem hts_range (k : Nat) (h : k < 3) : -1 ≤ hts.getD k 0 ∧ hts.getD k 0 ≤ 6 := by
  match k, h with
  | 0, _ => decide
  | 1, _ => decide
  | 2, _ => decide
theorem hts_cell (w : World) (k : Nat) (h : k < 3) : (w.alloc (.cells #[.int .i64 (-1), .int .i64 5, .int .i64 6] 2)).cell? ⟨w.heap.size, k, none⟩ = some (.int .i64 (hts.getD k 0)) := by
  rw [cell_of_row _ w.heap.size k _ 2 _ (heap_alloc_new w _)]
  match k, h with
  | 0, _ => rfl
  | 1, _ => rfl
  | 2, _ => rfl

set_option maxRecDepth 10000 in
set_option maxHeartbeats 4000000 in
theorem l8DrawKey_any (g : Nat) (a : Option Addr) (n cap : Nat) (bs : List Int) (w : World) (h : Rd w g a n cap bs) :
    Calls Try.prog 59 #[.pointer (some ⟨g, 0, none⟩)] w fun e w' => ∃ seed hh nx : Int, e = .returned (tkv seed hh nx) ∧ U64 seed ∧ (-1 ≤ hh ∧ hh ≤ 6) ∧ (-1 ≤ nx ∧ nx ≤ 100) ∧ RdPost w g a n cap bs w' := by
  have hgl : g < w.heap.size := h.lt
  obtain ⟨w0, hw0⟩ : ∃ w0, w0 = w.alloc (.cells #[.int .u64 0, .int .i64 0, .int .i64 0] 49) := ⟨_, rfl⟩
  have hp0 : RdPost w g a n cap bs w0 := by rw [hw0]; exact (show RdPost w g a n cap bs w from ⟨h, Touch.same _ _ _⟩).alloc _
  have hR0 : KeyAt w0 w.heap.size 0 0 0 := by rw [hw0]; exact key_new w 0 0 0
  have HW : Hid (_ = _) := hw0
  have HP0 : Hid (RdPost w g a n cap bs w0) := hp0
  have HR0 : Hid (KeyAt w0 w.heap.size 0 0 0) := hR0
  clear hw0 h hp0 hR0
  go_enter Try.func59, Try.ntmps59
  go_upto_region 1 with fail
  rw [← HW.out]
  clear HW
  go_wp2_with fail
  refine (word_any g a n cap bs _ HP0.out.1).mono ?_
  rintro e w1 ⟨seed, rfl, hs0, hs1, hp1⟩
  go_wp2_with fail
  refine (below_any g a n cap bs 4 _ hp1.1 (by decide)).mono ?_
  rintro e w2 ⟨hh, rfl, hh0, hh1, hp2⟩
  have hh3 : hh ≤ 3 := by omega
  have hR2 : KeyAt w2 w.heap.size 0 0 0 := (HR0.out.touch hp1.2 (by omega)).touch hp2.2 (by omega)
  have hpp2 := (HP0.out.step hp1).step hp2
  obtain ⟨w3, hw3⟩ : ∃ w3, w3 = w2.alloc (.cells #[.int .u64 seed, .int .i64 hh, .int .i64 0] 49) := ⟨_, rfl⟩
  obtain ⟨K, hK⟩ : ∃ K, K = w2.heap.size := ⟨_, rfl⟩
  have hK3 : KeyAt w3 K seed hh 0 := by rw [hw3, hK]; exact key_new w2 seed hh 0
  have hR3 : KeyAt w3 w.heap.size 0 0 0 := by rw [hw3]; exact hR2.kept ((Below.refl _ _).alloc (Nat.le_refl _) _)
  have hpp3 : RdPost w g a n cap bs w3 := by rw [hw3]; exact hpp2.alloc _
  have hKw : w.heap.size < K := by have := hR2.lt; omega
  have HW3 : Hid (_ = _) := hw3
  have HK : Hid (K = w2.heap.size) := hK
  have HPP3 : Hid (RdPost w g a n cap bs w3) := hpp3
  have HR3 : Hid (KeyAt w3 w.heap.size 0 0 0) := hR3
  clear hw3 hK hp1 hp2 HP0 HR0 hR2 hpp2 hpp3 hR3
  obtain ⟨N, hN⟩ := HN.of hh0 (by omega)
  have hNl := hN.le
  have hsh := hN.sh
  have u1 : IntKind.u64.wrap hh = hh := by rw [IntKind.wrap_u64]; omega
  go_upto_region 2 with fail
  rw [← HW3.out, ← HK.out]
  clear HW3 HK
  have c1 := hK3.c1
  go_wp2_with fail
  refine (below_any g a n cap bs ((N : Int) + 1) _ HPP3.out.1 (by omega)).mono ?_
  rintro e w4 ⟨nx, rfl, hn0, hn1, hp4⟩
  have hnx : nx ≤ 32 := by omega
  have hK4 := hK3.touch hp4.2 (by omega)
  have hR4 := HR3.out.touch hp4.2 (by omega)
  have k2 := hK4.c2
  have z2 := hK4.fz 2
  have HK5 : Hid (KeyAt (w4.setCell ⟨K, 2, none⟩ (.int .i64 nx)) K seed hh nx) := hK4.put2 nx
  have HR5 : Hid (KeyAt (w4.setCell ⟨K, 2, none⟩ (.int .i64 nx)) w.heap.size 0 0 0) := hR4.other K 2 (.int .i64 nx) (by omega)
  have HP5 : Hid (RdPost w g a n cap bs (w4.setCell ⟨K, 2, none⟩ (.int .i64 nx))) := (HPP3.out.step hp4).put (K := K) (by omega) (by omega) 2 (.int .i64 nx)
  obtain ⟨w5, hw5⟩ : ∃ w5, w5 = w4.setCell ⟨K, 2, none⟩ (.int .i64 nx) := ⟨_, rfl⟩
  have HW5 : Hid (w4.setCell ⟨K, 2, none⟩ (.int .i64 nx) = w5) := hw5.symm
  rw [← hw5] at HK5 HR5 HP5
  clear hK3 hK4 hR4 hp4 HPP3 HR3 c1 hw5
  go_wp2_with fail
  rw [HW5.out]
  clear HW5 k2 z2
  refine (once_any g a n cap bs 15 _ HP5.out.1 (by decide) (by decide)).mono ?_
  rintro e w6 ⟨c, rfl, hp6⟩
  have HK6 : Hid (KeyAt w6 K seed hh nx) := HK5.out.touch hp6.2 (by omega)
  have HR6 : Hid (KeyAt w6 w.heap.size 0 0 0) := HR5.out.touch hp6.2 (by omega)
  have HP6 : Hid (RdPost w g a n cap bs w6) := HP5.out.step hp6
  clear HK5 HR5 HP5 hp6
  cases c
  · go_wp2_with fail
    refine (once_any g a n cap bs 15 _ HP6.out.1 (by decide) (by decide)).mono ?_
    rintro e w7 ⟨c, rfl, hp7⟩
    have hK7 : KeyAt w7 K seed hh nx := HK6.out.touch hp7.2 (by omega)
    have hR7 : KeyAt w7 w.heap.size 0 0 0 := HR6.out.touch hp7.2 (by omega)
    have HP7 : Hid (RdPost w g a n cap bs w7) := HP6.out.step hp7
    clear HK6 HR6 HP6 hp7
    cases c
    · have hK9 := hK7
      have hR9 := hR7
      clear hK7 hR7
      have k0 := hK9.c0
      have k1 := hK9.c1
      have k2 := hK9.c2
      have r0 := hR9.c0
      have r1 := hR9.c1
      have r2 := hR9.c2
      have z0 := hR9.fz 0
      have z1 := hR9.fz 1
      have z2 := hR9.fz 2
      have HR9 : Hid (KeyAt w7 w.heap.size 0 0 0) := hR9
      clear hK9 hR9
      go_wp2
      try simp only [Exit.inBlock, Exit.then]
      exact bodyPost_ret (results_tk rfl _ w.heap.size rfl _ _ _ _ (heap_setCell_same _ _ 2 _ 49 _ (heap_setCell_same _ _ 1 _ 49 _ (heap_setCell_same _ _ 0 _ 49 _ HR9.out)))) rfl ⟨seed, hh, nx, rfl, ⟨hs0, hs1⟩, by omega, by omega, ((HP7.out.put hgl (Nat.le_refl _) _ _).put hgl (Nat.le_refl _) _ _).put hgl (Nat.le_refl _) _ _⟩
    · have HK7 : Hid (KeyAt w7 K seed hh nx) := hK7
      have HR7 : Hid (KeyAt w7 w.heap.size 0 0 0) := hR7
      clear hK7 hR7
      go_wp2_with fail
      refine (below_any g a n cap bs 12 _ HP7.out.1 (by decide)).mono ?_
      rintro e w8 ⟨nz, rfl, hz0, hz1, hp8⟩
      have hz11 : nz ≤ 11 := by omega
      have hK8 : KeyAt w8 K seed hh nx := HK7.out.touch hp8.2 (by omega)
      have hR8 : KeyAt w8 w.heap.size 0 0 0 := HR7.out.touch hp8.2 (by omega)
      have y2 := hK8.c2
      have x2 := hK8.fz 2
      have hK9 : KeyAt (w8.setCell ⟨K, 2, none⟩ (.int .i64 (nz - 1))) K seed hh (nz - 1) := hK8.put2 (nz - 1)
      have hR9 : KeyAt (w8.setCell ⟨K, 2, none⟩ (.int .i64 (nz - 1))) w.heap.size 0 0 0 := hR8.other K 2 _ (by omega)
      have HP9 : Hid (RdPost w g a n cap bs (w8.setCell ⟨K, 2, none⟩ (.int .i64 (nz - 1)))) := (HP7.out.step hp8).put (K := K) (by omega) (by omega) 2 _
      obtain ⟨w9, hw9⟩ : ∃ w9, w9 = w8.setCell ⟨K, 2, none⟩ (.int .i64 (nz - 1)) := ⟨_, rfl⟩
      have HW9 : Hid (w8.setCell ⟨K, 2, none⟩ (.int .i64 (nz - 1)) = w9) := hw9.symm
      rw [← hw9] at hK9 hR9 HP9
      clear hw9 hK8 hR8 hp8 HK7 HR7 HP7
      go_upto_region 7 with fail
      rw [HW9.out]
      clear HW9 y2 x2
      have k0 := hK9.c0
      have k1 := hK9.c1
      have k2 := hK9.c2
      have r0 := hR9.c0
      have r1 := hR9.c1
      have r2 := hR9.c2
      have z0 := hR9.fz 0
      have z1 := hR9.fz 1
      have z2 := hR9.fz 2
      have HR9 : Hid (KeyAt w9 w.heap.size 0 0 0) := hR9
      clear hK9 hR9
      go_wp2
      try simp only [Exit.inBlock, Exit.then]
      exact bodyPost_ret (results_tk rfl _ w.heap.size rfl _ _ _ _ (heap_setCell_same _ _ 2 _ 49 _ (heap_setCell_same _ _ 1 _ 49 _ (heap_setCell_same _ _ 0 _ 49 _ HR9.out)))) rfl ⟨seed, hh, (nz - 1), rfl, ⟨hs0, hs1⟩, by omega, by omega, ((HP9.out.put hgl (Nat.le_refl _) _ _).put hgl (Nat.le_refl _) _ _).put hgl (Nat.le_refl _) _ _⟩
  · go_wp2_with fail
    refine (below_any g a n cap bs 3 _ (HP6.out.alloc _).1 (by decide)).mono ?_
    rintro e wa ⟨v, rfl, hv0, hv1, hpa⟩
    obtain ⟨k, rfl⟩ := Int.eq_ofNat_of_zero_le hv0
    have hk : k < 3 := by omega
    have hki : (k : Int) < 3 := by omega
    have hKl := HK6.out.lt
    have hcell : wa.cell? ⟨w6.heap.size, k, none⟩ = some (.int .i64 (hts.getD k 0)) :=
      (World.cell?_of_block (a := ⟨w6.heap.size, k, none⟩) (hpa.2.block w6.heap.size (by simp) (.inr (by omega)))).trans (hts_cell w6 k hk)
    obtain ⟨y, hy⟩ : ∃ y, y = hts.getD k 0 := ⟨_, rfl⟩
    have hyr := hts_range k hk
    rw [← hy] at hcell hyr
    obtain ⟨hy0, hy6⟩ := hyr
    clear hy
    have hKa : KeyAt wa K seed hh nx := (HK6.out.kept ((Below.refl _ _).alloc (Nat.le_refl _) _)).touch hpa.2 (by omega)
    have hRa : KeyAt wa w.heap.size 0 0 0 := (HR6.out.kept ((Below.refl _ _).alloc (Nat.le_refl _) _)).touch hpa.2 (by omega)
    have y1 := hKa.c1
    have x1 := hKa.fz 1
    have HKb : Hid (KeyAt (wa.setCell ⟨K, 1, none⟩ (.int .i64 y)) K seed y nx) := hKa.put1 y
    have HRb : Hid (KeyAt (wa.setCell ⟨K, 1, none⟩ (.int .i64 y)) w.heap.size 0 0 0) := hRa.other K 1 _ (by omega)
    have HPb : Hid (RdPost w g a n cap bs (wa.setCell ⟨K, 1, none⟩ (.int .i64 y))) := ((HP6.out.alloc _).step hpa).put (K := K) (by omega) (by omega) 1 _
    obtain ⟨wb, hwb⟩ : ∃ wb, wb = wa.setCell ⟨K, 1, none⟩ (.int .i64 y) := ⟨_, rfl⟩
    have HWb : Hid (wa.setCell ⟨K, 1, none⟩ (.int .i64 y) = wb) := hwb.symm
    rw [← hwb] at HKb HRb HPb
    clear hwb hKa hRa hpa HK6 HR6 HP6
    go_upto_region 5 with fail
    rw [HWb.out]
    clear HWb y1 x1
    go_wp2_with fail
    refine (once_any g a n cap bs 15 _ HPb.out.1 (by decide) (by decide)).mono ?_
    rintro e w7 ⟨c, rfl, hp7⟩
    have hK7 : KeyAt w7 K seed y nx := HKb.out.touch hp7.2 (by omega)
    have hR7 : KeyAt w7 w.heap.size 0 0 0 := HRb.out.touch hp7.2 (by omega)
    have HP7 : Hid (RdPost w g a n cap bs w7) := HPb.out.step hp7
    clear HKb HRb HPb hp7
    cases c
    · have hK9 := hK7
      have hR9 := hR7
      clear hK7 hR7
      have k0 := hK9.c0
      have k1 := hK9.c1
      have k2 := hK9.c2
      have r0 := hR9.c0
      have r1 := hR9.c1
      have r2 := hR9.c2
      have z0 := hR9.fz 0
      have z1 := hR9.fz 1
      have z2 := hR9.fz 2
      have HR9 : Hid (KeyAt w7 w.heap.size 0 0 0) := hR9
      clear hK9 hR9
      go_wp2
      try simp only [Exit.inBlock, Exit.then]
      exact bodyPost_ret (results_tk rfl _ w.heap.size rfl _ _ _ _ (heap_setCell_same _ _ 2 _ 49 _ (heap_setCell_same _ _ 1 _ 49 _ (heap_setCell_same _ _ 0 _ 49 _ HR9.out)))) rfl ⟨seed, y, nx, rfl, ⟨hs0, hs1⟩, by omega, by omega, ((HP7.out.put hgl (Nat.le_refl _) _ _).put hgl (Nat.le_refl _) _ _).put hgl (Nat.le_refl _) _ _⟩
    · have HK7 : Hid (KeyAt w7 K seed y nx) := hK7
      have HR7 : Hid (KeyAt w7 w.heap.size 0 0 0) := hR7
      clear hK7 hR7
      go_wp2_with fail
      refine (below_any g a n cap bs 12 _ HP7.out.1 (by decide)).mono ?_
      rintro e w8 ⟨nz, rfl, hz0, hz1, hp8⟩
      have hz11 : nz ≤ 11 := by omega
      have hK8 : KeyAt w8 K seed y nx := HK7.out.touch hp8.2 (by omega)
      have hR8 : KeyAt w8 w.heap.size 0 0 0 := HR7.out.touch hp8.2 (by omega)
      have y2 := hK8.c2
      have x2 := hK8.fz 2
      have hK9 : KeyAt (w8.setCell ⟨K, 2, none⟩ (.int .i64 (nz - 1))) K seed y (nz - 1) := hK8.put2 (nz - 1)
      have hR9 : KeyAt (w8.setCell ⟨K, 2, none⟩ (.int .i64 (nz - 1))) w.heap.size 0 0 0 := hR8.other K 2 _ (by omega)
      have HP9 : Hid (RdPost w g a n cap bs (w8.setCell ⟨K, 2, none⟩ (.int .i64 (nz - 1)))) := (HP7.out.step hp8).put (K := K) (by omega) (by omega) 2 _
      obtain ⟨w9, hw9⟩ : ∃ w9, w9 = w8.setCell ⟨K, 2, none⟩ (.int .i64 (nz - 1)) := ⟨_, rfl⟩
      have HW9 : Hid (w8.setCell ⟨K, 2, none⟩ (.int .i64 (nz - 1)) = w9) := hw9.symm
      rw [← hw9] at hK9 hR9 HP9
      clear hw9 hK8 hR8 hp8 HK7 HR7 HP7
      go_upto_region 7 with fail
      rw [HW9.out]
      clear HW9 y2 x2
      have k0 := hK9.c0
      have k1 := hK9.c1
      have k2 := hK9.c2
      have r0 := hR9.c0
      have r1 := hR9.c1
      have r2 := hR9.c2
      have z0 := hR9.fz 0
      have z1 := hR9.fz 1
      have z2 := hR9.fz 2
      have HR9 : Hid (KeyAt w9 w.heap.size 0 0 0) := hR9
      clear hK9 hR9
      go_wp2
      try simp only [Exit.inBlock, Exit.then]
      exact bodyPost_ret (results_tk rfl _ w.heap.size rfl _ _ _ _ (heap_setCell_same _ _ 2 _ 49 _ (heap_setCell_same _ _ 1 _ 49 _ (heap_setCell_same _ _ 0 _ 49 _ HR9.out)))) rfl ⟨seed, y, (nz - 1), rfl, ⟨hs0, hs1⟩, by omega, by omega, ((HP9.out.put hgl (Nat.le_refl _) _ _).put hgl (Nat.le_refl _) _ _).put hgl (Nat.le_refl _) _ _⟩

set_option maxRecDepth 10000 in
set_option maxHeartbeats 1000000 in
theorem drawTreeRoot_any (a : Option Addr) (n cap : Nat) (bs : List Int) (w : World) (h : Row w a n bs) (hn : n ≤ 1000000000) :
    Calls Try.prog 21 #[.slice a n cap] w fun e w' => ∃ seed hh nx : Int, e = .returned (tkv seed hh nx) ∧ U64 seed ∧ (-1 ≤ hh ∧ hh ≤ 6) ∧ (-1 ≤ nx ∧ nx ≤ 100) ∧ Below w.heap.size w w' := by
  have hR : KeyAt (w.alloc (.cells #[.int .u64 0, .int .i64 0, .int .i64 0] 49)) w.heap.size 0 0 0 := key_new w 0 0 0
  have hb0 : Below w.heap.size w (w.alloc (.cells #[.int .u64 0, .int .i64 0, .int .i64 0] 49)) := (Below.refl _ _).alloc (Nat.le_refl _) _
  obtain ⟨w0, hw0⟩ : ∃ w0, w0 = w.alloc (.cells #[.int .u64 0, .int .i64 0, .int .i64 0] 49) := ⟨_, rfl⟩
  have HW : Hid (_ = _) := hw0
  rw [← hw0] at hR hb0
  clear hw0
  have HR : Hid (KeyAt w0 w.heap.size 0 0 0) := hR
  go_enter Try.func21, Try.ntmps21
  go_upto_region 1 with fail
  rw [← HW.out]
  clear HW hR
  go_wp2_with fail
  refine (open_any a n cap bs _ (h.kept hb0) hn).mono ?_
  rintro e w1 ⟨rfl, hrd, hb1⟩
  have HR1 : Hid (KeyAt w1 w.heap.size 0 0 0) := HR.out.kept hb1
  have hlt := HR.out.lt
  clear HR
  go_wp2_with fail
  refine (l8DrawKey_any w0.heap.size a n cap bs _ hrd).mono ?_
  rintro e w2 ⟨seed, hh, nx, rfl, hs, hhb, hnb, hp2⟩
  have hR9 : KeyAt w2 w.heap.size 0 0 0 := HR1.out.touch hp2.2 (by omega)
  have r0 := hR9.c0
  have r1 := hR9.c1
  have r2 := hR9.c2
  have z0 := hR9.fz 0
  have z1 := hR9.fz 1
  have z2 := hR9.fz 2
  have HR9 : Hid (KeyAt w2 w.heap.size 0 0 0) := hR9
  have HB : Hid (Below w.heap.size w w2) := keepT hb0 (RdPost.below hb1 hp2)
  clear hR9 hp2 hb1 hrd
  rw [tkv]
  go_wp2
  try simp only [Exit.inBlock, Exit.then]
  exact bodyPost_ret (results_tk rfl _ w.heap.size rfl _ _ _ _ (heap_setCell_same _ _ 2 _ 49 _ (heap_setCell_same _ _ 1 _ 49 _ (heap_setCell_same _ _ 0 _ 49 _ HR9.out)))) rfl ⟨seed, hh, nx, rfl, hs, hhb, hnb, ((HB.out.setCell (Nat.le_refl _) _).setCell (Nat.le_refl _) _).setCell (Nat.le_refl _) _⟩

end Go.Proofs.Yteemdeggdcoenaa
