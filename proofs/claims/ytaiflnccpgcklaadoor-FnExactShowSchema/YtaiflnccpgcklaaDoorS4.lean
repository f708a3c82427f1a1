import Derived.Test.YtaiflnccpgcklaaDoorS3
namespace Go.Proofs.YtaiflnccpgcklaaDoor
open Go.RowKit

set_option maxHeartbeats 1000000 in
theorem fieldsOk_1 (lo hi : Int) (ex op : Bool) (ks : List Int) (a : Option Addr) (n c : Nat) (w : World) (hl : ks.length = n) (_hn : n ≤ 9223372036854775807) :
    Calls Tryd.prog 21 #[stv ⟨1, lo, hi, ex, op, ks⟩ a n c] w fun e w' => Tells (fieldsP ⟨1, lo, hi, ex, op, ks⟩) w e w' := by
  have hbl : ∀ o, Below w.heap.size w (w.alloc o) := fun o => (Below.refl _ _).alloc (Nat.le_refl _) o
  have HL : Hid (ks.length = n) := hl
  clear hl
  unfold stv
  by_cases hlo : lo = 0
  · subst hlo
    by_cases hhi : hi = 0
    · subst hhi
      go_enter Tryd.func21, Tryd.ntmps21
      cases ex <;> go_wp2
      all_goals go_ret
      all_goals refine ⟨_, rfl, ?_, hbl _⟩
      all_goals show _ ↔ _
      all_goals unfold fieldsP
      all_goals rw [HL.out]
      all_goals first | (simp; done) | (simp; omega) | (simp_all; done) | (simp_all; omega)
    · have z : (hi == 0) = false := by simp [hhi]
      go_enter Tryd.func21, Tryd.ntmps21
      cases ex <;> go_wp2
      all_goals go_ret
      all_goals refine ⟨_, rfl, ?_, hbl _⟩
      all_goals show _ ↔ _
      all_goals unfold fieldsP
      all_goals rw [HL.out]
      all_goals first | (simp; done) | (simp; omega) | (simp_all; done) | (simp_all; omega)
  · have z : (lo == 0) = false := by simp [hlo]
    go_enter Tryd.func21, Tryd.ntmps21
    cases ex <;> go_wp2
    all_goals go_ret
    all_goals refine ⟨_, rfl, ?_, hbl _⟩
    all_goals show _ ↔ _
    all_goals unfold fieldsP
    all_goals rw [HL.out]
    all_goals first | (simp; done) | (simp; omega) | (simp_all; done) | (simp_all; omega)

set_option maxHeartbeats 1000000 in
theorem fieldsOk_2 (lo hi : Int) (ex op : Bool) (ks : List Int) (a : Option Addr) (n c : Nat) (w : World) (hl : ks.length = n) (_hn : n ≤ 9223372036854775807) :
    Calls Tryd.prog 21 #[stv ⟨2, lo, hi, ex, op, ks⟩ a n c] w fun e w' => Tells (fieldsP ⟨2, lo, hi, ex, op, ks⟩) w e w' := by
  have hbl : ∀ o, Below w.heap.size w (w.alloc o) := fun o => (Below.refl _ _).alloc (Nat.le_refl _) o
  have HL : Hid (ks.length = n) := hl
  clear hl
  unfold stv
  by_cases hlo : lo = 0
  · subst hlo
    by_cases hhi : hi = 0
    · subst hhi
      go_enter Tryd.func21, Tryd.ntmps21
      go_wp2_with fail
      refine (boundsOk_any ⟨2, 0, 0, ex, op, ks⟩ a n c (-1000000000000000) 1000000000000000 _).mono ?_
      rintro e w1 ⟨rfl, hb1⟩
      obtain ⟨bv, hbv⟩ : ∃ bv, bv = decide (bnd ⟨2, 0, 0, ex, op, ks⟩ (-1000000000000000) 1000000000000000) := ⟨_, rfl⟩
      rw [← hbv]
      have HV : Hid (bv = decide (bnd ⟨2, 0, 0, ex, op, ks⟩ (-1000000000000000) 1000000000000000)) := hbv
      have hB1 := (hbl _).trans (hb1.mono (hbl _).size)
      clear hbv
      have hc : w1.heap[w.heap.size]? = _ := (hb1.block w.heap.size (by simp)).trans (heap_alloc_new w _)
      have c3 : w1.cell? ⟨w.heap.size, 3, none⟩ = some (.bool ex) := (cell_of_row _ w.heap.size 3 _ 35 (0, 0) hc).trans rfl
      clear hc hb1
      cases bv <;> cases ex <;> go_wp2
      all_goals go_ret
      all_goals refine ⟨_, rfl, ?_, hB1⟩
      all_goals show _ ↔ _
      all_goals unfold fieldsP
      all_goals rw [HL.out]
      all_goals first | (have hb := of_decide_eq_true HV.out.symm; first | (simp [hb]; done) | (simp [hb]; omega)) | (have hb := of_decide_eq_false HV.out.symm; first | (simp [hb]; done) | (simp [hb]; omega))
    · have z : (hi == 0) = false := by simp [hhi]
      go_enter Tryd.func21, Tryd.ntmps21
      go_wp2_with fail
      refine (boundsOk_any ⟨2, 0, hi, ex, op, ks⟩ a n c (-1000000000000000) 1000000000000000 _).mono ?_
      rintro e w1 ⟨rfl, hb1⟩
      obtain ⟨bv, hbv⟩ : ∃ bv, bv = decide (bnd ⟨2, 0, hi, ex, op, ks⟩ (-1000000000000000) 1000000000000000) := ⟨_, rfl⟩
      rw [← hbv]
      have HV : Hid (bv = decide (bnd ⟨2, 0, hi, ex, op, ks⟩ (-1000000000000000) 1000000000000000)) := hbv
      have hB1 := (hbl _).trans (hb1.mono (hbl _).size)
      clear hbv
      have hc : w1.heap[w.heap.size]? = _ := (hb1.block w.heap.size (by simp)).trans (heap_alloc_new w _)
      have c3 : w1.cell? ⟨w.heap.size, 3, none⟩ = some (.bool ex) := (cell_of_row _ w.heap.size 3 _ 35 (0, 0) hc).trans rfl
      clear hc hb1
      cases bv <;> cases ex <;> go_wp2
      all_goals go_ret
      all_goals refine ⟨_, rfl, ?_, hB1⟩
      all_goals show _ ↔ _
      all_goals unfold fieldsP
      all_goals rw [HL.out]
      all_goals first | (have hb := of_decide_eq_true HV.out.symm; first | (simp [hb]; done) | (simp [hb]; omega)) | (have hb := of_decide_eq_false HV.out.symm; first | (simp [hb]; done) | (simp [hb]; omega))
  · have z : (lo == 0) = false := by simp [hlo]
    go_enter Tryd.func21, Tryd.ntmps21
    go_wp2_with fail
    refine (boundsOk_any ⟨2, lo, hi, ex, op, ks⟩ a n c (-1000000000000000) 1000000000000000 _).mono ?_
    rintro e w1 ⟨rfl, hb1⟩
    obtain ⟨bv, hbv⟩ : ∃ bv, bv = decide (bnd ⟨2, lo, hi, ex, op, ks⟩ (-1000000000000000) 1000000000000000) := ⟨_, rfl⟩
    rw [← hbv]
    have HV : Hid (bv = decide (bnd ⟨2, lo, hi, ex, op, ks⟩ (-1000000000000000) 1000000000000000)) := hbv
    have hB1 := (hbl _).trans (hb1.mono (hbl _).size)
    clear hbv
    have hc : w1.heap[w.heap.size]? = _ := (hb1.block w.heap.size (by simp)).trans (heap_alloc_new w _)
    have c3 : w1.cell? ⟨w.heap.size, 3, none⟩ = some (.bool ex) := (cell_of_row _ w.heap.size 3 _ 35 (0, 0) hc).trans rfl
    clear hc hb1
    cases bv <;> cases ex <;> go_wp2
    all_goals go_ret
    all_goals refine ⟨_, rfl, ?_, hB1⟩
    all_goals show _ ↔ _
    all_goals unfold fieldsP
    all_goals rw [HL.out]
    all_goals first | (have hb := of_decide_eq_true HV.out.symm; first | (simp [hb]; done) | (simp [hb]; omega)) | (have hb := of_decide_eq_false HV.out.symm; first | (simp [hb]; done) | (simp [hb]; omega))

set_option maxHeartbeats 1000000 in
theorem fieldsOk_3 (lo hi : Int) (ex op : Bool) (ks : List Int) (a : Option Addr) (n c : Nat) (w : World) (hl : ks.length = n) (_hn : n ≤ 9223372036854775807) :
    Calls Tryd.prog 21 #[stv ⟨3, lo, hi, ex, op, ks⟩ a n c] w fun e w' => Tells (fieldsP ⟨3, lo, hi, ex, op, ks⟩) w e w' := by
  have hbl : ∀ o, Below w.heap.size w (w.alloc o) := fun o => (Below.refl _ _).alloc (Nat.le_refl _) o
  have HL : Hid (ks.length = n) := hl
  clear hl
  unfold stv
  by_cases hlo : lo = 0
  · subst hlo
    by_cases hhi : hi = 0
    · subst hhi
      go_enter Tryd.func21, Tryd.ntmps21
      go_wp2_with fail
      refine (boundsOk_any ⟨3, 0, 0, ex, op, ks⟩ a n c 0 1000 _).mono ?_
      rintro e w1 ⟨rfl, hb1⟩
      obtain ⟨bv, hbv⟩ : ∃ bv, bv = decide (bnd ⟨3, 0, 0, ex, op, ks⟩ 0 1000) := ⟨_, rfl⟩
      rw [← hbv]
      have HV : Hid (bv = decide (bnd ⟨3, 0, 0, ex, op, ks⟩ 0 1000)) := hbv
      have hB1 := (hbl _).trans (hb1.mono (hbl _).size)
      clear hbv
      have hc : w1.heap[w.heap.size]? = _ := (hb1.block w.heap.size (by simp)).trans (heap_alloc_new w _)
      have c3 : w1.cell? ⟨w.heap.size, 3, none⟩ = some (.bool ex) := (cell_of_row _ w.heap.size 3 _ 35 (0, 0) hc).trans rfl
      clear hc hb1
      cases bv <;> cases ex <;> go_wp2
      all_goals go_ret
      all_goals refine ⟨_, rfl, ?_, hB1⟩
      all_goals show _ ↔ _
      all_goals unfold fieldsP
      all_goals rw [HL.out]
      all_goals first | (have hb := of_decide_eq_true HV.out.symm; first | (simp [hb]; done) | (simp [hb]; omega)) | (have hb := of_decide_eq_false HV.out.symm; first | (simp [hb]; done) | (simp [hb]; omega))
    · have z : (hi == 0) = false := by simp [hhi]
      go_enter Tryd.func21, Tryd.ntmps21
      go_wp2_with fail
      refine (boundsOk_any ⟨3, 0, hi, ex, op, ks⟩ a n c 0 1000 _).mono ?_
      rintro e w1 ⟨rfl, hb1⟩
      obtain ⟨bv, hbv⟩ : ∃ bv, bv = decide (bnd ⟨3, 0, hi, ex, op, ks⟩ 0 1000) := ⟨_, rfl⟩
      rw [← hbv]
      have HV : Hid (bv = decide (bnd ⟨3, 0, hi, ex, op, ks⟩ 0 1000)) := hbv
      have hB1 := (hbl _).trans (hb1.mono (hbl _).size)
      clear hbv
      have hc : w1.heap[w.heap.size]? = _ := (hb1.block w.heap.size (by simp)).trans (heap_alloc_new w _)
      have c3 : w1.cell? ⟨w.heap.size, 3, none⟩ = some (.bool ex) := (cell_of_row _ w.heap.size 3 _ 35 (0, 0) hc).trans rfl
      clear hc hb1
      cases bv <;> cases ex <;> go_wp2
      all_goals go_ret
      all_goals refine ⟨_, rfl, ?_, hB1⟩
      all_goals show _ ↔ _
      all_goals unfold fieldsP
      all_goals rw [HL.out]
      all_goals first | (have hb := of_decide_eq_true HV.out.symm; first | (simp [hb]; done) | (simp [hb]; omega)) | (have hb := of_decide_eq_false HV.out.symm; first | (simp [hb]; done) | (simp [hb]; omega))
  · have z : (lo == 0) = false := by simp [hlo]
    go_enter Tryd.func21, Tryd.ntmps21
    go_wp2_with fail
    refine (boundsOk_any ⟨3, lo, hi, ex, op, ks⟩ a n c 0 1000 _).mono ?_
    rintro e w1 ⟨rfl, hb1⟩
    obtain ⟨bv, hbv⟩ : ∃ bv, bv = decide (bnd ⟨3, lo, hi, ex, op, ks⟩ 0 1000) := ⟨_, rfl⟩
    rw [← hbv]
    have HV : Hid (bv = decide (bnd ⟨3, lo, hi, ex, op, ks⟩ 0 1000)) := hbv
    have hB1 := (hbl _).trans (hb1.mono (hbl _).size)
    clear hbv
    have hc : w1.heap[w.heap.size]? = _ := (hb1.block w.heap.size (by simp)).trans (heap_alloc_new w _)
    have c3 : w1.cell? ⟨w.heap.size, 3, none⟩ = some (.bool ex) := (cell_of_row _ w.heap.size 3 _ 35 (0, 0) hc).trans rfl
    clear hc hb1
    cases bv <;> cases ex <;> go_wp2
    all_goals go_ret
    all_goals refine ⟨_, rfl, ?_, hB1⟩
    all_goals show _ ↔ _
    all_goals unfold fieldsP
    all_goals rw [HL.out]
    all_goals first | (have hb := of_decide_eq_true HV.out.symm; first | (simp [hb]; done) | (simp [hb]; omega)) | (have hb := of_decide_eq_false HV.out.symm; first | (simp [hb]; done) | (simp [hb]; omega))

set_option maxHeartbeats 1000000 in
theorem fieldsOk_4 (lo hi : Int) (ex op : Bool) (ks : List Int) (a : Option Addr) (n c : Nat) (w : World) (hl : ks.length = n) (_hn : n ≤ 9223372036854775807) :
    Calls Tryd.prog 21 #[stv ⟨4, lo, hi, ex, op, ks⟩ a n c] w fun e w' => Tells (fieldsP ⟨4, lo, hi, ex, op, ks⟩) w e w' := by
  have hbl : ∀ o, Below w.heap.size w (w.alloc o) := fun o => (Below.refl _ _).alloc (Nat.le_refl _) o
  have HL : Hid (ks.length = n) := hl
  clear hl
  unfold stv
  by_cases hlo : lo = 0
  · subst hlo
    by_cases hhi : hi = 0
    · subst hhi
      go_enter Tryd.func21, Tryd.ntmps21
      go_wp2_with fail
      refine (boundsOk_any ⟨4, 0, 0, ex, op, ks⟩ a n c 0 1000 _).mono ?_
      rintro e w1 ⟨rfl, hb1⟩
      obtain ⟨bv, hbv⟩ : ∃ bv, bv = decide (bnd ⟨4, 0, 0, ex, op, ks⟩ 0 1000) := ⟨_, rfl⟩
      rw [← hbv]
      have HV : Hid (bv = decide (bnd ⟨4, 0, 0, ex, op, ks⟩ 0 1000)) := hbv
      have hB1 := (hbl _).trans (hb1.mono (hbl _).size)
      clear hbv
      have hc : w1.heap[w.heap.size]? = _ := (hb1.block w.heap.size (by simp)).trans (heap_alloc_new w _)
      have c3 : w1.cell? ⟨w.heap.size, 3, none⟩ = some (.bool ex) := (cell_of_row _ w.heap.size 3 _ 35 (0, 0) hc).trans rfl
      clear hc hb1
      cases bv <;> cases ex <;> go_wp2
      all_goals go_ret
      all_goals refine ⟨_, rfl, ?_, hB1⟩
      all_goals show _ ↔ _
      all_goals unfold fieldsP
      all_goals rw [HL.out]
      all_goals first | (have hb := of_decide_eq_true HV.out.symm; first | (simp [hb]; done) | (simp [hb]; omega)) | (have hb := of_decide_eq_false HV.out.symm; first | (simp [hb]; done) | (simp [hb]; omega))
    · have z : (hi == 0) = false := by simp [hhi]
      go_enter Tryd.func21, Tryd.ntmps21
      go_wp2_with fail
      refine (boundsOk_any ⟨4, 0, hi, ex, op, ks⟩ a n c 0 1000 _).mono ?_
      rintro e w1 ⟨rfl, hb1⟩
      obtain ⟨bv, hbv⟩ : ∃ bv, bv = decide (bnd ⟨4, 0, hi, ex, op, ks⟩ 0 1000) := ⟨_, rfl⟩
      rw [← hbv]
      have HV : Hid (bv = decide (bnd ⟨4, 0, hi, ex, op, ks⟩ 0 1000)) := hbv
      have hB1 := (hbl _).trans (hb1.mono (hbl _).size)
      clear hbv
      have hc : w1.heap[w.heap.size]? = _ := (hb1.block w.heap.size (by simp)).trans (heap_alloc_new w _)
      have c3 : w1.cell? ⟨w.heap.size, 3, none⟩ = some (.bool ex) := (cell_of_row _ w.heap.size 3 _ 35 (0, 0) hc).trans rfl
      clear hc hb1
      cases bv <;> cases ex <;> go_wp2
      all_goals go_ret
      all_goals refine ⟨_, rfl, ?_, hB1⟩
      all_goals show _ ↔ _
      all_goals unfold fieldsP
      all_goals rw [HL.out]
      all_goals first | (have hb := of_decide_eq_true HV.out.symm; first | (simp [hb]; done) | (simp [hb]; omega)) | (have hb := of_decide_eq_false HV.out.symm; first | (simp [hb]; done) | (simp [hb]; omega))
  · have z : (lo == 0) = false := by simp [hlo]
    go_enter Tryd.func21, Tryd.ntmps21
    go_wp2_with fail
    refine (boundsOk_any ⟨4, lo, hi, ex, op, ks⟩ a n c 0 1000 _).mono ?_
    rintro e w1 ⟨rfl, hb1⟩
    obtain ⟨bv, hbv⟩ : ∃ bv, bv = decide (bnd ⟨4, lo, hi, ex, op, ks⟩ 0 1000) := ⟨_, rfl⟩
    rw [← hbv]
    have HV : Hid (bv = decide (bnd ⟨4, lo, hi, ex, op, ks⟩ 0 1000)) := hbv
    have hB1 := (hbl _).trans (hb1.mono (hbl _).size)
    clear hbv
    have hc : w1.heap[w.heap.size]? = _ := (hb1.block w.heap.size (by simp)).trans (heap_alloc_new w _)
    have c3 : w1.cell? ⟨w.heap.size, 3, none⟩ = some (.bool ex) := (cell_of_row _ w.heap.size 3 _ 35 (0, 0) hc).trans rfl
    clear hc hb1
    cases bv <;> cases ex <;> go_wp2
    all_goals go_ret
    all_goals refine ⟨_, rfl, ?_, hB1⟩
    all_goals show _ ↔ _
    all_goals unfold fieldsP
    all_goals rw [HL.out]
    all_goals first | (have hb := of_decide_eq_true HV.out.symm; first | (simp [hb]; done) | (simp [hb]; omega)) | (have hb := of_decide_eq_false HV.out.symm; first | (simp [hb]; done) | (simp [hb]; omega))

set_option maxHeartbeats 1000000 in
theorem fieldsOk_5 (lo hi : Int) (ex op : Bool) (ks : List Int) (a : Option Addr) (n c : Nat) (w : World) (hl : ks.length = n) (_hn : n ≤ 9223372036854775807) :
    Calls Tryd.prog 21 #[stv ⟨5, lo, hi, ex, op, ks⟩ a n c] w fun e w' => Tells (fieldsP ⟨5, lo, hi, ex, op, ks⟩) w e w' := by
  have hbl : ∀ o, Below w.heap.size w (w.alloc o) := fun o => (Below.refl _ _).alloc (Nat.le_refl _) o
  have HL : Hid (ks.length = n) := hl
  clear hl
  unfold stv
  by_cases hlo : lo = 0
  · subst hlo
    by_cases hhi : hi = 0
    · subst hhi
      go_enter Tryd.func21, Tryd.ntmps21
      go_wp2_with fail
      refine (boundsOk_any ⟨5, 0, 0, ex, op, ks⟩ a n c 0 1000 _).mono ?_
      rintro e w1 ⟨rfl, hb1⟩
      obtain ⟨bv, hbv⟩ : ∃ bv, bv = decide (bnd ⟨5, 0, 0, ex, op, ks⟩ 0 1000) := ⟨_, rfl⟩
      rw [← hbv]
      have HV : Hid (bv = decide (bnd ⟨5, 0, 0, ex, op, ks⟩ 0 1000)) := hbv
      have hB1 := (hbl _).trans (hb1.mono (hbl _).size)
      clear hbv
      have hc : w1.heap[w.heap.size]? = _ := (hb1.block w.heap.size (by simp)).trans (heap_alloc_new w _)
      have c3 : w1.cell? ⟨w.heap.size, 3, none⟩ = some (.bool ex) := (cell_of_row _ w.heap.size 3 _ 35 (0, 0) hc).trans rfl
      clear hc hb1
      cases bv <;> cases ex <;> go_wp2
      all_goals go_ret
      all_goals refine ⟨_, rfl, ?_, hB1⟩
      all_goals show _ ↔ _
      all_goals unfold fieldsP
      all_goals rw [HL.out]
      all_goals first | (have hb := of_decide_eq_true HV.out.symm; first | (simp [hb]; done) | (simp [hb]; omega)) | (have hb := of_decide_eq_false HV.out.symm; first | (simp [hb]; done) | (simp [hb]; omega))
    · have z : (hi == 0) = false := by simp [hhi]
      go_enter Tryd.func21, Tryd.ntmps21
      go_wp2_with fail
      refine (boundsOk_any ⟨5, 0, hi, ex, op, ks⟩ a n c 0 1000 _).mono ?_
      rintro e w1 ⟨rfl, hb1⟩
      obtain ⟨bv, hbv⟩ : ∃ bv, bv = decide (bnd ⟨5, 0, hi, ex, op, ks⟩ 0 1000) := ⟨_, rfl⟩
      rw [← hbv]
      have HV : Hid (bv = decide (bnd ⟨5, 0, hi, ex, op, ks⟩ 0 1000)) := hbv
      have hB1 := (hbl _).trans (hb1.mono (hbl _).size)
      clear hbv
      have hc : w1.heap[w.heap.size]? = _ := (hb1.block w.heap.size (by simp)).trans (heap_alloc_new w _)
      have c3 : w1.cell? ⟨w.heap.size, 3, none⟩ = some (.bool ex) := (cell_of_row _ w.heap.size 3 _ 35 (0, 0) hc).trans rfl
      clear hc hb1
      cases bv <;> cases ex <;> go_wp2
      all_goals go_ret
      all_goals refine ⟨_, rfl, ?_, hB1⟩
      all_goals show _ ↔ _
      all_goals unfold fieldsP
      all_goals rw [HL.out]
      all_goals first | (have hb := of_decide_eq_true HV.out.symm; first | (simp [hb]; done) | (simp [hb]; omega)) | (have hb := of_decide_eq_false HV.out.symm; first | (simp [hb]; done) | (simp [hb]; omega))
  · have z : (lo == 0) = false := by simp [hlo]
    go_enter Tryd.func21, Tryd.ntmps21
    cases ex <;> go_wp2
    all_goals go_ret
    all_goals refine ⟨_, rfl, ?_, hbl _⟩
    all_goals show _ ↔ _
    all_goals unfold fieldsP
    all_goals rw [HL.out]
    all_goals first | (simp; done) | (simp; omega) | (simp_all; done) | (simp_all; omega)

set_option maxHeartbeats 1000000 in
theorem fieldsOk_6 (lo hi : Int) (ex op : Bool) (ks : List Int) (a : Option Addr) (n c : Nat) (w : World) (hl : ks.length = n) (_hn : n ≤ 9223372036854775807) :
    Calls Tryd.prog 21 #[stv ⟨6, lo, hi, ex, op, ks⟩ a n c] w fun e w' => Tells (fieldsP ⟨6, lo, hi, ex, op, ks⟩) w e w' := by
  have hbl : ∀ o, Below w.heap.size w (w.alloc o) := fun o => (Below.refl _ _).alloc (Nat.le_refl _) o
  have HL : Hid (ks.length = n) := hl
  clear hl
  unfold stv
  by_cases hlo : lo = 0
  · subst hlo
    by_cases hhi : hi = 0
    · subst hhi
      go_enter Tryd.func21, Tryd.ntmps21
      cases ex <;> go_wp2
      all_goals go_ret
      all_goals refine ⟨_, rfl, ?_, hbl _⟩
      all_goals show _ ↔ _
      all_goals unfold fieldsP
      all_goals rw [HL.out]
      all_goals first | (simp; done) | (simp; omega) | (simp_all; done) | (simp_all; omega)
    · have z : (hi == 0) = false := by simp [hhi]
      go_enter Tryd.func21, Tryd.ntmps21
      cases ex <;> go_wp2
      all_goals go_ret
      all_goals refine ⟨_, rfl, ?_, hbl _⟩
      all_goals show _ ↔ _
      all_goals unfold fieldsP
      all_goals rw [HL.out]
      all_goals first | (simp; done) | (simp; omega) | (simp_all; done) | (simp_all; omega)
  · have z : (lo == 0) = false := by simp [hlo]
    go_enter Tryd.func21, Tryd.ntmps21
    cases ex <;> go_wp2
    all_goals go_ret
    all_goals refine ⟨_, rfl, ?_, hbl _⟩
    all_goals show _ ↔ _
    all_goals unfold fieldsP
    all_goals rw [HL.out]
    all_goals first | (simp; done) | (simp; omega) | (simp_all; done) | (simp_all; omega)

set_option maxHeartbeats 1000000 in
theorem fieldsOk_7 (lo hi : Int) (ex op : Bool) (ks : List Int) (a : Option Addr) (n c : Nat) (w : World) (hl : ks.length = n) (_hn : n ≤ 9223372036854775807) :
    Calls Tryd.prog 21 #[stv ⟨7, lo, hi, ex, op, ks⟩ a n c] w fun e w' => Tells (fieldsP ⟨7, lo, hi, ex, op, ks⟩) w e w' := by
  have hbl : ∀ o, Below w.heap.size w (w.alloc o) := fun o => (Below.refl _ _).alloc (Nat.le_refl _) o
  have HL : Hid (ks.length = n) := hl
  clear hl
  unfold stv
  by_cases hlo : lo = 0
  · subst hlo
    by_cases hhi : hi = 0
    · subst hhi
      go_enter Tryd.func21, Tryd.ntmps21
      go_wp2_with fail
      refine (boundsOk_any ⟨7, 0, 0, ex, op, ks⟩ a n c 0 200 _).mono ?_
      rintro e w1 ⟨rfl, hb1⟩
      obtain ⟨bv, hbv⟩ : ∃ bv, bv = decide (bnd ⟨7, 0, 0, ex, op, ks⟩ 0 200) := ⟨_, rfl⟩
      rw [← hbv]
      have HV : Hid (bv = decide (bnd ⟨7, 0, 0, ex, op, ks⟩ 0 200)) := hbv
      have hB1 := (hbl _).trans (hb1.mono (hbl _).size)
      clear hbv
      have hc : w1.heap[w.heap.size]? = _ := (hb1.block w.heap.size (by simp)).trans (heap_alloc_new w _)
      have c3 : w1.cell? ⟨w.heap.size, 3, none⟩ = some (.bool ex) := (cell_of_row _ w.heap.size 3 _ 35 (0, 0) hc).trans rfl
      clear hc hb1
      cases bv <;> cases ex <;> go_wp2
      all_goals go_ret
      all_goals refine ⟨_, rfl, ?_, hB1⟩
      all_goals show _ ↔ _
      all_goals unfold fieldsP
      all_goals rw [HL.out]
      all_goals first | (have hb := of_decide_eq_true HV.out.symm; first | (simp [hb]; done) | (simp [hb]; omega)) | (have hb := of_decide_eq_false HV.out.symm; first | (simp [hb]; done) | (simp [hb]; omega))
    · have z : (hi == 0) = false := by simp [hhi]
      go_enter Tryd.func21, Tryd.ntmps21
      go_wp2_with fail
      refine (boundsOk_any ⟨7, 0, hi, ex, op, ks⟩ a n c 0 200 _).mono ?_
      rintro e w1 ⟨rfl, hb1⟩
      obtain ⟨bv, hbv⟩ : ∃ bv, bv = decide (bnd ⟨7, 0, hi, ex, op, ks⟩ 0 200) := ⟨_, rfl⟩
      rw [← hbv]
      have HV : Hid (bv = decide (bnd ⟨7, 0, hi, ex, op, ks⟩ 0 200)) := hbv
      have hB1 := (hbl _).trans (hb1.mono (hbl _).size)
      clear hbv
      have hc : w1.heap[w.heap.size]? = _ := (hb1.block w.heap.size (by simp)).trans (heap_alloc_new w _)
      have c3 : w1.cell? ⟨w.heap.size, 3, none⟩ = some (.bool ex) := (cell_of_row _ w.heap.size 3 _ 35 (0, 0) hc).trans rfl
      clear hc hb1
      cases bv <;> cases ex <;> go_wp2
      all_goals go_ret
      all_goals refine ⟨_, rfl, ?_, hB1⟩
      all_goals show _ ↔ _
      all_goals unfold fieldsP
      all_goals rw [HL.out]
      all_goals first | (have hb := of_decide_eq_true HV.out.symm; first | (simp [hb]; done) | (simp [hb]; omega)) | (have hb := of_decide_eq_false HV.out.symm; first | (simp [hb]; done) | (simp [hb]; omega))
  · have z : (lo == 0) = false := by simp [hlo]
    go_enter Tryd.func21, Tryd.ntmps21
    go_wp2_with fail
    refine (boundsOk_any ⟨7, lo, hi, ex, op, ks⟩ a n c 0 200 _).mono ?_
    rintro e w1 ⟨rfl, hb1⟩
    obtain ⟨bv, hbv⟩ : ∃ bv, bv = decide (bnd ⟨7, lo, hi, ex, op, ks⟩ 0 200) := ⟨_, rfl⟩
    rw [← hbv]
    have HV : Hid (bv = decide (bnd ⟨7, lo, hi, ex, op, ks⟩ 0 200)) := hbv
    have hB1 := (hbl _).trans (hb1.mono (hbl _).size)
    clear hbv
    have hc : w1.heap[w.heap.size]? = _ := (hb1.block w.heap.size (by simp)).trans (heap_alloc_new w _)
    have c3 : w1.cell? ⟨w.heap.size, 3, none⟩ = some (.bool ex) := (cell_of_row _ w.heap.size 3 _ 35 (0, 0) hc).trans rfl
    clear hc hb1
    cases bv <;> cases ex <;> go_wp2
    all_goals go_ret
    all_goals refine ⟨_, rfl, ?_, hB1⟩
    all_goals show _ ↔ _
    all_goals unfold fieldsP
    all_goals rw [HL.out]
    all_goals first | (have hb := of_decide_eq_true HV.out.symm; first | (simp [hb]; done) | (simp [hb]; omega)) | (have hb := of_decide_eq_false HV.out.symm; first | (simp [hb]; done) | (simp [hb]; omega))

set_option maxHeartbeats 1000000 in
theorem fieldsOk_8 (lo hi : Int) (ex op : Bool) (ks : List Int) (a : Option Addr) (n c : Nat) (w : World) (hl : ks.length = n) (_hn : n ≤ 9223372036854775807) :
    Calls Tryd.prog 21 #[stv ⟨8, lo, hi, ex, op, ks⟩ a n c] w fun e w' => Tells (fieldsP ⟨8, lo, hi, ex, op, ks⟩) w e w' := by
  have hbl : ∀ o, Below w.heap.size w (w.alloc o) := fun o => (Below.refl _ _).alloc (Nat.le_refl _) o
  have HL : Hid (ks.length = n) := hl
  clear hl
  unfold stv
  by_cases hlo : lo = 0
  · subst hlo
    by_cases hhi : hi = 0
    · subst hhi
      go_enter Tryd.func21, Tryd.ntmps21
      cases ex <;> go_wp2
      all_goals go_ret
      all_goals refine ⟨_, rfl, ?_, hbl _⟩
      all_goals show _ ↔ _
      all_goals unfold fieldsP
      all_goals rw [HL.out]
      all_goals first | (simp; done) | (simp; omega) | (simp_all; done) | (simp_all; omega)
    · have z : (hi == 0) = false := by simp [hhi]
      go_enter Tryd.func21, Tryd.ntmps21
      cases ex <;> go_wp2
      all_goals go_ret
      all_goals refine ⟨_, rfl, ?_, hbl _⟩
      all_goals show _ ↔ _
      all_goals unfold fieldsP
      all_goals rw [HL.out]
      all_goals first | (simp; done) | (simp; omega) | (simp_all; done) | (simp_all; omega)
  · have z : (lo == 0) = false := by simp [hlo]
    go_enter Tryd.func21, Tryd.ntmps21
    cases ex <;> go_wp2
    all_goals go_ret
    all_goals refine ⟨_, rfl, ?_, hbl _⟩
    all_goals show _ ↔ _
    all_goals unfold fieldsP
    all_goals rw [HL.out]
    all_goals first | (simp; done) | (simp; omega) | (simp_all; done) | (simp_all; omega)

set_option maxHeartbeats 1000000 in
theorem fieldsOk_9 (lo hi : Int) (ex op : Bool) (ks : List Int) (a : Option Addr) (n c : Nat) (w : World) (hl : ks.length = n) (_hn : n ≤ 9223372036854775807) :
    Calls Tryd.prog 21 #[stv ⟨9, lo, hi, ex, op, ks⟩ a n c] w fun e w' => Tells (fieldsP ⟨9, lo, hi, ex, op, ks⟩) w e w' := by
  have hbl : ∀ o, Below w.heap.size w (w.alloc o) := fun o => (Below.refl _ _).alloc (Nat.le_refl _) o
  have HL : Hid (ks.length = n) := hl
  clear hl
  unfold stv
  by_cases hlo : lo = 0
  · subst hlo
    by_cases hhi : hi = 0
    · subst hhi
      go_enter Tryd.func21, Tryd.ntmps21
      cases ex <;> go_wp2
      all_goals go_ret
      all_goals refine ⟨_, rfl, ?_, hbl _⟩
      all_goals show _ ↔ _
      all_goals unfold fieldsP
      all_goals rw [HL.out]
      all_goals first | (simp; done) | (simp; omega) | (simp_all; done) | (simp_all; omega)
    · have z : (hi == 0) = false := by simp [hhi]
      go_enter Tryd.func21, Tryd.ntmps21
      cases ex <;> go_wp2
      all_goals go_ret
      all_goals refine ⟨_, rfl, ?_, hbl _⟩
      all_goals show _ ↔ _
      all_goals unfold fieldsP
      all_goals rw [HL.out]
      all_goals first | (simp; done) | (simp; omega) | (simp_all; done) | (simp_all; omega)
  · have z : (lo == 0) = false := by simp [hlo]
    go_enter Tryd.func21, Tryd.ntmps21
    cases ex <;> go_wp2
    all_goals go_ret
    all_goals refine ⟨_, rfl, ?_, hbl _⟩
    all_goals show _ ↔ _
    all_goals unfold fieldsP
    all_goals rw [HL.out]
    all_goals first | (simp; done) | (simp; omega) | (simp_all; done) | (simp_all; omega)

set_option maxHeartbeats 1000000 in
theorem fieldsOk_other (kd : Int) (hkd : kd < 1 ∨ 9 < kd) (lo hi : Int) (ex op : Bool) (ks : List Int) (a : Option Addr) (n c : Nat) (w : World) (hl : ks.length = n) (_hn : n ≤ 9223372036854775807) :
    Calls Tryd.prog 21 #[stv ⟨kd, lo, hi, ex, op, ks⟩ a n c] w fun e w' => Tells (fieldsP ⟨kd, lo, hi, ex, op, ks⟩) w e w' := by
  have hbl : ∀ o, Below w.heap.size w (w.alloc o) := fun o => (Below.refl _ _).alloc (Nat.le_refl _) o
  have HL : Hid (ks.length = n) := hl
  clear hl
  have e1 : (kd == 1) = false := by simp; omega
  have e2 : (kd == 2) = false := by simp; omega
  have e3 : (kd == 3) = false := by simp; omega
  have e4 : (kd == 4) = false := by simp; omega
  have e5 : (kd == 5) = false := by simp; omega
  have e6 : (kd == 6) = false := by simp; omega
  have e7 : (kd == 7) = false := by simp; omega
  have e8 : (kd == 8) = false := by simp; omega
  have e9 : (kd == 9) = false := by simp; omega
  unfold stv
  by_cases hlo : lo = 0
  · subst hlo
    by_cases hhi : hi = 0
    · subst hhi
      go_enter Tryd.func21, Tryd.ntmps21
      cases ex <;> go_wp2
      all_goals go_ret
      all_goals refine ⟨_, rfl, ?_, hbl _⟩
      all_goals show _ ↔ _
      all_goals unfold fieldsP
      all_goals rw [HL.out]
      all_goals first | (simp; done) | (simp; omega) | (simp_all; done) | (simp_all; omega)
    · have z : (hi == 0) = false := by simp [hhi]
      go_enter Tryd.func21, Tryd.ntmps21
      cases ex <;> go_wp2
      all_goals go_ret
      all_goals refine ⟨_, rfl, ?_, hbl _⟩
      all_goals show _ ↔ _
      all_goals unfold fieldsP
      all_goals rw [HL.out]
      all_goals first | (simp; done) | (simp; omega) | (simp_all; done) | (simp_all; omega)
  · have z : (lo == 0) = false := by simp [hlo]
    go_enter Tryd.func21, Tryd.ntmps21
    cases ex <;> go_wp2
    all_goals go_ret
    all_goals refine ⟨_, rfl, ?_, hbl _⟩
    all_goals show _ ↔ _
    all_goals unfold fieldsP
    all_goals rw [HL.out]
    all_goals first | (simp; done) | (simp; omega) | (simp_all; done) | (simp_all; omega)

theorem fieldsOk_any (x : ST) (a : Option Addr) (n c : Nat) (w : World) (hl : x.kids.length = n) (_hn : n ≤ 9223372036854775807) :
    Calls Tryd.prog 21 #[stv x a n c] w fun e w' => Tells (fieldsP x) w e w' := by
  obtain ⟨kd, lo, hi, ex, op, ks⟩ := x
  have h : kd = 1 ∨ kd = 2 ∨ kd = 3 ∨ kd = 4 ∨ kd = 5 ∨ kd = 6 ∨ kd = 7 ∨ kd = 8 ∨ kd = 9 ∨ (kd < 1 ∨ 9 < kd) := by omega
  rcases h with rfl | rfl | rfl | rfl | rfl | rfl | rfl | rfl | rfl | h
  · exact fieldsOk_1 lo hi ex op ks a n c w hl _hn
  · exact fieldsOk_2 lo hi ex op ks a n c w hl _hn
  · exact fieldsOk_3 lo hi ex op ks a n c w hl _hn
  · exact fieldsOk_4 lo hi ex op ks a n c w hl _hn
  · exact fieldsOk_5 lo hi ex op ks a n c w hl _hn
  · exact fieldsOk_6 lo hi ex op ks a n c w hl _hn
  · exact fieldsOk_7 lo hi ex op ks a n c w hl _hn
  · exact fieldsOk_8 lo hi ex op ks a n c w hl _hn
  · exact fieldsOk_9 lo hi ex op ks a n c w hl _hn
  · exact fieldsOk_other kd h lo hi ex op ks a n c w hl _hn

end Go.Proofs.YtaiflnccpgcklaaDoor
