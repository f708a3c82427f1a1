import Derived.Test.YtdoobkffkmphfaaDU1
namespace Go.Proofs.Ytdoobkffkmphfaa
open Go.RowKit

set_option maxRecDepth 10000 in
set_option maxHeartbeats 4000000 in
theorem drawUnder_any (a : Option Addr) (n cap : Nat) (bs : List Int) (w : World) (h : Row w a n bs) (hn : n ≤ 1000000000) :
    Calls Try.prog 6 #[.slice a n cap] w (DsR w) := by
  obtain ⟨wb, hwb⟩ : ∃ wb, wb = (w.alloc (.cells #[.slice none 0 0] 26)).alloc (.cells #[.slice none 0 0] 26) := ⟨_, rfl⟩
  have hss : wb.heap.size = w.heap.size + 2 := by rw [hwb]; simp
  have x1 : wb.heap[w.heap.size + 1]? = some (.cells #[.slice none 0 0] 26) := by rw [hwb]; have := heap_alloc_new (w.alloc (.cells #[.slice none 0 0] 26)) (.cells #[.slice none 0 0] 26 (0, 0)); simpa using this
  have x0 : wb.heap[w.heap.size]? = some (.cells #[.slice none 0 0] 26) := by rw [hwb]; exact (((Below.refl _ _).alloc (Nat.le_refl _) _).block w.heap.size (by simp)).trans (heap_alloc_new w _)
  have hbb : Below w.heap.size w wb := by rw [hwb]; exact ((Below.refl _ _).alloc (Nat.le_refl _) _).alloc (by simp) _
  have H0 : Hid (Row w a n bs) := h
  have HX0 : Hid (_ = _) := x0
  have HX1 : Hid (_ = _) := x1
  have HBB : Hid (Below w.heap.size w wb) := hbb
  have HWB : Hid (_ = _) := hwb
  have HSS : Hid (_ = _) := hss
  clear hwb x0 x1 hbb h hss
  go_enter Try.func6, Try.ntmps6
  go_upto_region 1 with fail
  rw [← HWB.out]
  clear HWB
  go_wp2_with fail
  refine (drawSameName_any a n cap bs _ (H0.out.kept HBB.out) hn).mono ?_
  rintro e w1 ⟨m, c, ao, xs, m2, c2, a2, ys, rfl, hm, hm2, ho1, ho2, hb1⟩
  unfold nmv
  obtain ⟨P, hP⟩ : ∃ P, P = w1.heap.size := ⟨_, rfl⟩
  obtain ⟨w2, hw2⟩ : ∃ w2, w2 = (w1.alloc (.cells #[.slice ao m c] 26)).alloc (.cells #[.slice a2 m2 c2] 26) := ⟨_, rfl⟩
  have HU : Hid (DU w P w2 ao m c xs a2 m2 c2 ys) := by
    have hss := HSS.out
    have e2 : Below w1.heap.size w1 w2 := by rw [hw2]; exact ((Below.refl _ _).alloc (Nat.le_refl _) _).alloc (by simp) _
    rw [hss] at ho1 ho2 hb1
    have hs1 := hb1.size
    refine ⟨(e2.block _ (by omega)).trans ((hb1.block _ (by omega)).trans HX0.out), (e2.block _ (by omega)).trans ((hb1.block _ (by omega)).trans HX1.out), ?_, ?_, ho1.keep fun q _ _ hl => e2.block _ hl, ho2.keep fun q _ _ hl => e2.block _ hl, fun q hq => by rw [hP]; exact (ho1.blk q hq).2.1, fun q hq => by rw [hP]; exact (ho2.blk q hq).2.1, by omega, by rw [hw2, hP]; simp, ?_⟩
    · rw [hw2, hP]; exact (((Below.refl _ _).alloc (Nat.le_refl _) _).block w1.heap.size (by simp)).trans (heap_alloc_new w1 _)
    · rw [hw2, hP]; have := heap_alloc_new (w1.alloc (.cells #[.slice ao m c] 26)) (.cells #[.slice a2 m2 c2] 26 (0, 0)); simpa using this
    · exact HBB.out.trans ((hb1.mono (by omega)).trans (e2.mono (by omega)))
  have HW2 : Hid (_ = _) := hw2
  have HPP : Hid (P = w1.heap.size) := hP
  clear hw2 hP ho1 ho2 hb1 HX0 HX1 HBB HSS
  go_upto_region 2 with fail
  rw [← HW2.out, ← HPP.out]
  clear HW2 HPP
  have TAIL : Hid (∀ {W : World} {b2 : Option Addr} {k d2 : Nat} {zs : List PT}, DU w P W ao m c xs b2 k d2 zs → ∀ v1 v2 : Value, (W.setCell ⟨w.heap.size, 0, none⟩ v1).cell? ⟨w.heap.size + 1, 0, none⟩ = some (.slice none 0 0) ∧ (W.setCell ⟨w.heap.size, 0, none⟩ v1).frozen? ⟨w.heap.size + 1, 0, none⟩ = false ∧ (W.setCell ⟨w.heap.size, 0, none⟩ v1).cell? ⟨P + 1, 0, none⟩ = some (.slice b2 k d2) ∧ (W.setCell ⟨w.heap.size + 1, 0, none⟩ v2).cell? ⟨w.heap.size, 0, none⟩ = some (.slice none 0 0) ∧ (W.setCell ⟨w.heap.size + 1, 0, none⟩ v2).frozen? ⟨w.heap.size, 0, none⟩ = false ∧ (W.setCell ⟨w.heap.size + 1, 0, none⟩ v2).cell? ⟨P, 0, none⟩ = some (.slice ao m c)) := fun {W} {b2} {k} {d2} {zs} hu v1 v2 => by
    have h1 := hu.hP
    have e : ∀ l, l ≠ w.heap.size → (W.setCell ⟨w.heap.size, 0, none⟩ v1).heap[l]? = W.heap[l]? := fun l hl => Below.heap_setCell _ _ _ _ (by show l ≠ w.heap.size; exact hl)
    have f : ∀ l, l ≠ w.heap.size + 1 → (W.setCell ⟨w.heap.size + 1, 0, none⟩ v2).heap[l]? = W.heap[l]? := fun l hl => Below.heap_setCell _ _ _ _ (by show l ≠ w.heap.size + 1; exact hl)
    have y3 := (e (w.heap.size + 1) (by omega)).trans hu.b3
    have y6 := (e (P + 1) (by omega)).trans hu.b6
    have z2 := (f w.heap.size (by omega)).trans hu.b2
    have z5 := (f P (by omega)).trans hu.b5
    exact ⟨(cell_of_row _ _ 0 _ 26 (0, 0) y3).trans rfl, frozen_of_row _ _ 0 _ 26 y3, (cell_of_row _ _ 0 _ 26 (0, 0) y6).trans rfl, (cell_of_row _ _ 0 _ 26 (0, 0) z2).trans rfl, frozen_of_row _ _ 0 _ 26 z2, (cell_of_row _ _ 0 _ 26 (0, 0) z5).trans rfl⟩
  obtain ⟨⟨k0, k1, k2, k3, k4⟩, k5, k6, k7, k8, k9, k10⟩ := HU.out.cells
  obtain ⟨t0, t1, t2, t3, t4, t5⟩ := TAIL.out HU.out (.slice ao m c) (.slice a2 m2 c2)
  by_cases hz : n = 0
  · subst hz
    go_upto_region 4 with fail
    go_region
    all_goals
      go_wp2
      try simp only [Exit.inBlock, Exit.then]
      exact bodyPost_ret (results_nn rfl _ w.heap.size (w.heap.size + 1) rfl rfl _ _ _ (two_set HU.out.b2 HU.out.b3).1 (two_set HU.out.b2 HU.out.b3).2) rfl (HU.out.fin hm (by omega) rfl rfl rfl (by simp) (fun l h0 h1 => (Below.heap_setCell _ _ _ _ (by show l ≠ w.heap.size + 1; exact h1)).trans (Below.heap_setCell _ _ _ _ (by show l ≠ w.heap.size; exact h0))))
  · obtain ⟨b, off, rfl, hlt, hc0⟩ := (H0.out.kept HU.out.below).get 0 (by omega)
    obtain ⟨v0, hv0⟩ : ∃ v0, v0 = bs.getD 0 0 := ⟨_, rfl⟩
    rw [← hv0, Nat.add_zero] at hc0
    have hvb : 0 ≤ v0 ∧ v0 ≤ 255 := by rw [hv0]; exact H0.out.byte 0
    have hnp : (0 : Int) < (n : Int) := by omega
    clear hv0
    by_cases h3 : v0 % 3 = 0
    · by_cases hz2 : m2 = 0
      · subst hz2
        go_upto_region 4 with fail
        go_region
        all_goals
          go_wp2
          try simp only [Exit.inBlock, Exit.then]
          exact bodyPost_ret (results_nn rfl _ w.heap.size (w.heap.size + 1) rfl rfl _ _ _ (two_set HU.out.b2 HU.out.b3).1 (two_set HU.out.b2 HU.out.b3).2) rfl (HU.out.fin hm (by omega) rfl rfl rfl (by simp) (fun l h0 h1 => (Below.heap_setCell _ _ _ _ (by show l ≠ w.heap.size + 1; exact h1)).trans (Below.heap_setCell _ _ _ _ (by show l ≠ w.heap.size; exact h0))))
      · obtain ⟨gb, rfl, _, _⟩ := HU.out.o2.there (by omega)
        have hcap := HU.out.o2.cap
        have hm2p : (0 : Int) < (m2 : Int) := by omega
        obtain ⟨q, hq⟩ : ∃ q : Nat, m2 = q + 1 := ⟨m2 - 1, by omega⟩
        subst hq
        obtain ⟨w3, hw3⟩ : ∃ w3, w3 = w2.setCell ⟨P + 1, 0, none⟩ (.slice (some ⟨gb, 0, none⟩) q c2) := ⟨_, rfl⟩
        have HV : Hid (DU w P w3 ao m c xs (some ⟨gb, 0, none⟩) q c2 (ys.take q)) := by rw [hw3]; exact HU.out.cut q (by omega)
        have HW3 : Hid (_ = _) := hw3
        clear hw3 t0 t1 t2 t3 t4 t5
        go_upto_region 4 with fail
        trace_state
        rw [← HW3.out]
        clear HW3 HU k0 k1 k2 k3 k4 k5 k6 k7 k8 k9 k10
        obtain ⟨⟨k0, k1, k2, k3, k4⟩, k5, k6, k7, k8, k9, k10⟩ := HV.out.cells
        obtain ⟨t0, t1, t2, t3, t4, t5⟩ := TAIL.out HV.out (.slice ao m c) (.slice (some ⟨gb, 0, none⟩) q c2)
        go_region
        all_goals
          go_wp2
          try simp only [Exit.inBlock, Exit.then]
          exact bodyPost_ret (results_nn rfl _ w.heap.size (w.heap.size + 1) rfl rfl _ _ _ (two_set HV.out.b2 HV.out.b3).1 (two_set HV.out.b2 HV.out.b3).2) rfl (HV.out.fin hm (by omega) rfl rfl rfl (by simp) (fun l h0 h1 => (Below.heap_setCell _ _ _ _ (by show l ≠ w.heap.size + 1; exact h1)).trans (Below.heap_setCell _ _ _ _ (by show l ≠ w.heap.size; exact h0))))
    · go_upto_region 4 with fail
      go_region
      all_goals
        go_wp2
        try simp only [Exit.inBlock, Exit.then]
        exact bodyPost_ret (results_nn rfl _ w.heap.size (w.heap.size + 1) rfl rfl _ _ _ (two_set HU.out.b2 HU.out.b3).1 (two_set HU.out.b2 HU.out.b3).2) rfl (HU.out.fin hm (by omega) rfl rfl rfl (by simp) (fun l h0 h1 => (Below.heap_setCell _ _ _ _ (by show l ≠ w.heap.size + 1; exact h1)).trans (Below.heap_setCell _ _ _ _ (by show l ≠ w.heap.size; exact h0))))

end Go.Proofs.Ytdoobkffkmphfaa
