import Derived.Test.YtmggaegjfkpjoaaTV6
namespace Go.Proofs.Ytmggaegjfkpjoaa
open Go.RowKit

set_option maxRecDepth 10000 in
set_option maxHeartbeats 1000000 in
theorem eqTreeSig_same (leaf : Int) (a1 : Option Addr) (ne c1 : Nat) (a2 : Option Addr) (np c2 : Nat) (b1 : Option Addr) (d1 : Nat) (b2 : Option Addr) (d2 : Nat) (ez pz : List Int) (w : World)
    (h1 : RowU w a1 ne ez) (h2 : RowU w a2 np pz) (h3 : RowU w b1 ne ez) (h4 : RowU w b2 np pz) (hn : ne ≤ 9223372036854775807) (hn2 : np ≤ 9223372036854775807) :
    Calls Try.prog 12 #[tsv leaf a1 ne c1 a2 np c2, tsv leaf b1 ne d1 b2 np d2] w fun e w' => e = .returned (.bool true) ∧ Below w.heap.size w w' := by
  obtain ⟨wb, hwb⟩ : ∃ wb, wb = (w.alloc (.cells #[.int .i64 leaf, .slice a1 ne c1, .slice a2 np c2] 28)).alloc (.cells #[.int .i64 leaf, .slice b1 ne d1, .slice b2 np d2] 28) := ⟨_, rfl⟩
  have hbb : Below w.heap.size w wb := by rw [hwb]; exact ((Below.refl _ _).alloc (Nat.le_refl _) _).alloc (by simp) _
  have B0 : wb.heap[w.heap.size]? = some (.cells #[.int .i64 leaf, .slice a1 ne c1, .slice a2 np c2] 28) := by rw [hwb]; exact heap_alloc2_old w _ _
  have B1 : wb.heap[w.heap.size + 1]? = some (.cells #[.int .i64 leaf, .slice b1 ne d1, .slice b2 np d2] 28) := by rw [hwb]; exact heap_alloc2_new w _ _
  have HXD : Hid (∀ w7, Below wb.heap.size wb w7 → (w7.cell? ⟨w.heap.size, 0, none⟩ = some (.int .i64 leaf) ∧ w7.cell? ⟨w.heap.size, 1, none⟩ = some (.slice a1 ne c1) ∧ w7.cell? ⟨w.heap.size, 2, none⟩ = some (.slice a2 np c2)) ∧ w7.cell? ⟨w.heap.size + 1, 0, none⟩ = some (.int .i64 leaf) ∧ w7.cell? ⟨w.heap.size + 1, 1, none⟩ = some (.slice b1 ne d1) ∧ w7.cell? ⟨w.heap.size + 1, 2, none⟩ = some (.slice b2 np d2)) := by
    intro w7 h7
    have e0 := (h7.block _ (Array.getElem?_eq_some_iff.1 B0).1).trans B0
    have e1 := (h7.block _ (Array.getElem?_eq_some_iff.1 B1).1).trans B1
    exact ⟨⟨(cell_of_row _ _ 0 _ 28 (0, 0) e0).trans rfl, (cell_of_row _ _ 1 _ 28 (0, 0) e0).trans rfl, (cell_of_row _ _ 2 _ 28 (0, 0) e0).trans rfl⟩, (cell_of_row _ _ 0 _ 28 (0, 0) e1).trans rfl, (cell_of_row _ _ 1 _ 28 (0, 0) e1).trans rfl, (cell_of_row _ _ 2 _ 28 (0, 0) e1).trans rfl⟩
  have HW : Hid (_ = _) := hwb
  have H1 : Hid (_) := h1
  have H2 : Hid (_) := h2
  have H3 : Hid (_) := h3
  have H4 : Hid (_) := h4
  clear hwb B0 B1 h1 h2 h3 h4
  have z : (leaf != leaf) = false := by simp
  obtain ⟨⟨p0, p1, p2⟩, q0, q1, q2⟩ := HXD.out _ (Below.refl _ _)
  rw [tsv, tsv]
  go_enter Try.func12, Try.ntmps12
  go_upto_region 1 with fail
  rw [← HW.out]
  clear HW
  go_wp2_with fail
  refine (eqUint64S_same a1 b1 ne c1 d1 ez _ (H1.out.kept hbb) (H3.out.kept hbb) hn).mono ?_
  rintro e w2 ⟨rfl, hb2⟩
  clear p0 p1 p2 q0 q1 q2
  obtain ⟨⟨p0, p1, p2⟩, q0, q1, q2⟩ := HXD.out _ hb2
  have hB2 := keepT hbb hb2
  go_wp2_with fail
  refine (eqUint64S_same a2 b2 np c2 d2 pz _ (H2.out.kept hB2) (H4.out.kept hB2) hn2).mono ?_
  rintro e w3 ⟨rfl, hb3⟩
  go_wp2
  go_ret
  exact ⟨rfl, keepT hB2 hb3⟩

set_option maxRecDepth 10000 in
set_option maxHeartbeats 8000000 in
theorem lawTreeVerify_walk (root h : Int) (am : Option Addr) (n c : Nat) (bs : List Int) (leaf : Int) (ae : Option Addr) (ne ce : Nat) (ez : List Int) (ap : Option Addr) (np cp : Nat) (pz : List Int) (w : World)
    (hr : Row w am n bs) (hmax : n ≤ 9223372036854775807) (he : RowU w ae ne ez) (hp : RowU w ap np pz) (hne : ne ≤ 9223372036854775807) (hnp : np ≤ 9223372036854775807) :
    Calls Try.prog 4 #[.int .u64 root, .int .i64 h, .slice am n c, tsv leaf ae ne ce ap np cp] w fun e w' => e = .returned (.bool true) ∧ Below w.heap.size w w' := by
  obtain ⟨w1, hw1⟩ : ∃ w1, w1 = w.alloc (.cells #[.int .i64 leaf, .slice ae ne ce, .slice ap np cp] 40) := ⟨_, rfl⟩
  have hb0 : Below w.heap.size w w1 := by rw [hw1]; exact (Below.refl _ _).alloc (Nat.le_refl _) _
  have hlw : w.heap.size < w1.heap.size := by rw [hw1]; simp
  have HXD : ∀ w7, Below w1.heap.size w1 w7 → w7.cell? ⟨w.heap.size, 0, none⟩ = some (.int .i64 leaf) ∧ w7.cell? ⟨w.heap.size, 1, none⟩ = some (.slice ae ne ce) ∧ w7.cell? ⟨w.heap.size, 2, none⟩ = some (.slice ap np cp) := by
    intro w7 h7
    have hbx : w7.heap[w.heap.size]? = some (.cells #[.int .i64 leaf, .slice ae ne ce, .slice ap np cp] 40) := (h7.block _ hlw).trans (by rw [hw1]; exact heap_alloc_new w _)
    exact ⟨(cell_of_row _ w.heap.size 0 _ 40 (0, 0) hbx).trans rfl, (cell_of_row _ w.heap.size 1 _ 40 (0, 0) hbx).trans rfl, (cell_of_row _ w.heap.size 2 _ 40 (0, 0) hbx).trans rfl⟩
  have HWB : Hid (_ = _) := hw1
  clear hw1
  have HRM : Hid (∀ w', Below w1.heap.size w1 w' → Row w' am n bs) := fun w' hw' => hr.kept (keepT hb0 hw')
  have HRE : Hid (∀ w', Below w1.heap.size w1 w' → RowU w' ae ne ez) := fun w' hw' => he.kept (keepT hb0 hw')
  have HRP : Hid (∀ w', Below w1.heap.size w1 w' → RowU w' ap np pz) := fun w' hw' => hp.kept (keepT hb0 hw')
  clear hr he hp
  rw [tsv]
  by_cases hbig : 1048576 < n
  · go_enter Try.func4, Try.ntmps4
    go_upto_region 1 with fail
    rw [← HWB.out]
    clear HWB
    go_wp2
    go_ret
    exact ⟨rfl, hb0⟩
  have hn : n ≤ 1048576 := by omega
  clear hmax
  obtain ⟨p0, p1, p2⟩ := HXD _ (Below.refl _ _)
  go_enter Try.func4, Try.ntmps4
  go_upto_region 1 with fail
  rw [← HWB.out]
  clear HWB
  go_wp2_with fail
  refine (szTreeSig_any leaf ae ne ce ap np cp _ hne hnp).mono ?_
  rintro e w2 ⟨rfl, hb2⟩
  clear p0 p1 p2
  by_cases hsz : ne + np ≤ 1048576
  · rw [if_pos hsz]
    have hszi : ((ne + np : Nat) : Int) ≤ 1048576 := by omega
    obtain ⟨sz, hs⟩ : ∃ sz, sz = ne + np := ⟨_, rfl⟩
    rw [← hs] at hszi ⊢
    have HS : Hid (ne + np ≤ 1048576) := hsz
    clear hs hsz
    go_upto_region 7 with fail
    have hcur : Below w1.heap.size w1 w2.drew := hb2.drew
    have SS0 := HXD _ hb2
    have SS := HXD _ hcur
    go_region_held_law (fun w7 => w7.cell? ⟨w.heap.size, 0, none⟩ = some (.int .i64 leaf) ∧ w7.cell? ⟨w.heap.size, 1, none⟩ = some (.slice ae ne ce) ∧ w7.cell? ⟨w.heap.size, 2, none⟩ = some (.slice ap np cp)) (first | assumption | exact SS0 | exact SS | exact SS1 | exact SS2 | exact SS3)
      (first
        | (go_at_call 10; refine (toByteS_any am n c bs _ (HRM.out _ hcur) hn).mono ?_; rintro e wa ⟨a1, rfl, ho1, hb_a⟩; have hr1 := ho1.toRow; clear ho1; replace hcur := keepT hcur hb_a; have SS1 := HXD _ hcur; clear hb_a)
        | (go_at_call 20; refine (toTreeSig_any leaf ae ne ce ez ap np cp pz _ (HRE.out _ hcur) (HRP.out _ hcur) HS.out).mono ?_; rintro e wb ⟨b1, b2, rfl, hu1, hu2, hb_b⟩; (try replace hr1 := hr1.kept hb_b); have HU1 := hu1.toRow; have HU2 := hu2.toRow; clear hu1 hu2; replace hcur := keepT hcur hb_b; have SS2 := HXD _ hcur; clear hb_b)
        | (go_at_call 19; refine (specTreeVerify_any root h a1 n n bs leaf b1 ne ne ez b2 np np pz _ hr1 (by omega) HU1 HU2).mono ?_; rintro e wc ⟨rfl, hb_c⟩; replace hcur := keepT hcur hb_c; have SS3 := HXD _ hcur; clear hb_c hr1 HU1 HU2))
    all_goals
      clear SS0 SS SS1 SS2
      obtain ⟨q0, q1, q2⟩ := SS3
      obtain ⟨vb, hvb⟩ : ∃ vb, vb = decide (tvP root h bs leaf ez pz) := ⟨_, rfl⟩
      have HVB : Hid (decide (tvP root h bs leaf ez pz) = vb) := hvb.symm
      rw [← hvb]
      clear hvb
      go_wp2_with fail
      refine (toByteS_any am n c bs _ (HRM.out _ hcur) hn).mono ?_
      rintro e w4 ⟨a4, rfl, ho4, hb4⟩
      have HR4 : Hid (Row w4 a4 n bs) := ho4.toRow
      replace hcur := keepT hcur hb4
      clear q0 q1 q2 hb4 ho4
      obtain ⟨q0, q1, q2⟩ := HXD _ hcur
      go_wp2_with fail
      refine (toTreeSig_any leaf ae ne ce ez ap np cp pz _ (HRE.out _ hcur) (HRP.out _ hcur) HS.out).mono ?_
      rintro e w5 ⟨b1, b2, rfl, hu1, hu2, hb5⟩
      have HR5 : Hid (Row w5 a4 n bs) := HR4.out.kept hb5
      replace hcur := keepT hcur hb5
      clear q0 q1 q2 hb5 HR4
      obtain ⟨w6, hw6⟩ : ∃ w6, w6 = w5.alloc (.cells #[.int .i64 leaf, .slice b1 ne ne, .slice b2 np np] 28) := ⟨_, rfl⟩
      have hb6 : Below w5.heap.size w5 w6 := by rw [hw6]; exact (Below.refl _ _).alloc (Nat.le_refl _) _
      have hl6 : w5.heap.size < w6.heap.size := by rw [hw6]; simp
      have HYD : ∀ w7, Below w6.heap.size w6 w7 → w7.cell? ⟨w5.heap.size, 0, none⟩ = some (.int .i64 leaf) ∧ w7.cell? ⟨w5.heap.size, 1, none⟩ = some (.slice b1 ne ne) ∧ w7.cell? ⟨w5.heap.size, 2, none⟩ = some (.slice b2 np np) := by
        intro w7 h7
        have hbx : w7.heap[w5.heap.size]? = some (.cells #[.int .i64 leaf, .slice b1 ne ne, .slice b2 np np] 28) := (h7.block _ hl6).trans (by rw [hw6]; exact heap_alloc_new w5 _)
        exact ⟨(cell_of_row _ w5.heap.size 0 _ 28 (0, 0) hbx).trans rfl, (cell_of_row _ w5.heap.size 1 _ 28 (0, 0) hbx).trans rfl, (cell_of_row _ w5.heap.size 2 _ 28 (0, 0) hbx).trans rfl⟩
      have HW6 : Hid (_ = _) := hw6
      clear hw6
      have HU1 : Hid (RowU w5 b1 ne ez) := hu1.toRow
      have HU2 : Hid (RowU w5 b2 np pz) := hu2.toRow
      clear hu1 hu2
      rw [tsv]
      go_upto_region 10 with fail
      rw [← HW6.out]
      clear HW6
      obtain ⟨q0, q1, q2⟩ := HYD _ (Below.refl _ _)
      go_wp2_with fail
      refine (implTreeVerify_any root h a4 n n bs leaf b1 ne ne ez b2 np np pz _ (HR5.out.kept hb6) (by omega) (HU1.out.kept hb6) (HU2.out.kept hb6)).mono ?_
      rintro e w7 ⟨rfl, hb7⟩
      rw [HVB.out]
      clear q0 q1 q2
      have hb67 := keepT hb6 hb7
      have HR7 : Hid (Row w7 a4 n bs) := HR5.out.kept hb67
      have hc7 := keepT hcur hb67
      have zz : (vb != vb) = false := by simp
      clear HR5
      go_wp2_with fail
      refine (toByteS_any am n c bs _ (HRM.out _ hc7) hn).mono ?_
      rintro e w8 ⟨a8, rfl, ho8, hb8⟩
      have HR8 : Hid (Row w8 a8 n bs) := ho8.toRow
      have HR78 : Hid (Row w8 a4 n bs) := HR7.out.kept hb8
      clear ho8 HR7
      go_wp2_with fail
      refine (eqByteS_any a4 a8 n n n n bs bs _ HR78.out HR8.out (by unfold maxLen; omega) (by unfold maxLen; omega)).mono ?_
      rintro e w9 ⟨rfl, hb9⟩
      rw [decide_eq_true (rfl : bs = bs)]
      have h69 : Below w6.heap.size w6 w9 := keepT hb7 (keepT hb8 hb9)
      have hc9 : Below w1.heap.size w1 w9 := keepT hcur (keepT hb6 h69)
      clear HR8 HR78 hb8 hb9 hc7 hb67
      go_upto_region 15 with fail
      have hd9 : Below w9.heap.size w9 w9.drew := (Below.refl _ _).drew
      have HSD : ∀ w7, Below w9.heap.size w9 w7 → (w7.cell? ⟨w5.heap.size, 0, none⟩ = some (.int .i64 leaf) ∧ w7.cell? ⟨w5.heap.size, 1, none⟩ = some (.slice b1 ne ne) ∧ w7.cell? ⟨w5.heap.size, 2, none⟩ = some (.slice b2 np np)) ∧ w7.cell? ⟨w.heap.size, 0, none⟩ = some (.int .i64 leaf) ∧ w7.cell? ⟨w.heap.size, 1, none⟩ = some (.slice ae ne ce) ∧ w7.cell? ⟨w.heap.size, 2, none⟩ = some (.slice ap np cp) := fun w7 h7 => ⟨HYD _ (keepT h69 h7), HXD _ (keepT hc9 h7)⟩
      have T0 := HSD _ (Below.refl _ _)
      have T1 := HSD _ hd9
      go_region_held_law (fun w7 => (w7.cell? ⟨w5.heap.size, 0, none⟩ = some (.int .i64 leaf) ∧ w7.cell? ⟨w5.heap.size, 1, none⟩ = some (.slice b1 ne ne) ∧ w7.cell? ⟨w5.heap.size, 2, none⟩ = some (.slice b2 np np)) ∧ w7.cell? ⟨w.heap.size, 0, none⟩ = some (.int .i64 leaf) ∧ w7.cell? ⟨w.heap.size, 1, none⟩ = some (.slice ae ne ce) ∧ w7.cell? ⟨w.heap.size, 2, none⟩ = some (.slice ap np cp)) (first | assumption | exact T0 | exact T1 | exact T2 | exact T3)
        (first
          | (go_at_call 20; refine (toTreeSig_any leaf ae ne ce ez ap np cp pz _ (HRE.out _ (keepT hc9 hd9)) (HRP.out _ (keepT hc9 hd9)) HS.out).mono ?_; rintro e wx ⟨x1, x2, rfl, hx1, hx2, hbx⟩; have hX := keepT hd9 hbx; have T2 := HSD _ hX; have hX5 := keepT (keepT hb6 h69) hX)
          | (go_at_call 12; refine (eqTreeSig_same leaf b1 ne ne b2 np np x1 ne x2 np ez pz _ (HU1.out.kept hX5) (HU2.out.kept hX5) hx1.toRow hx2.toRow hne hnp).mono ?_; rintro e wy ⟨rfl, hby⟩; have hY := keepT hX hby; have T3 := HSD _ hY))
      all_goals
        go_wp2
        go_ret
        exact ⟨rfl, keepT hb0 (keepT hc9 hY)⟩
  · rw [if_neg hsz]
    go_wp2
    go_ret
    exact ⟨rfl, keepT hb0 hb2⟩

end Go.Proofs.Ytmggaegjfkpjoaa
