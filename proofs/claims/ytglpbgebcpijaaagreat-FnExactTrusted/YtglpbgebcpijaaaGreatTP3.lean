import Derived.Test.YtglpbgebcpijaaaGreatTP2
set_option linter.unusedVariables false
namespace Go.Proofs.YtglpbgebcpijaaaGreat
open Go.RowKit Go.Sort

def headB (v e : Int) (ss : List FsP) (n : Nat) : Prop := verP v ∧ timP e ∧ sigsP ss n
set_option maxRecDepth 10000 in
set_option maxHeartbeats 4000000 in
theorem headOk_any (v e : Int) (ss : List FsP) (a : Option Addr) (n c : Nat) (w : World) (h : Fss KT w a n ss) :
    Calls Tryz.prog 76 #[.agg #[.int .i64 v, .int .i64 e, .slice a n c]] w (SaysG (headB v e ss n) w) := by
  obtain ⟨w1, hw1⟩ : ∃ w1, w1 = w.alloc (.cells #[.int .i64 v, .int .i64 e, .slice a n c] 93) := ⟨_, rfl⟩
  have hbb : Below w.heap.size w w1 := by rw [hw1]; exact (Below.refl _ _).alloc (Nat.le_refl _) _
  have HB : Hid (w1.heap[w.heap.size]? = some (.cells #[.int .i64 v, .int .i64 e, .slice a n c] 93 (0, 0))) := by show _ = _; rw [hw1]; exact heap_alloc_new w _
  have HR : Hid (∀ W, Below w.heap.size w W → Fss KT W a n ss) := fun W hW => h.kept hW
  have hm := h.max
  have HW : Hid (_ = _) := hw1
  clear hw1 h
  have x0 : w1.cell? ⟨w.heap.size, 0, none⟩ = some (.int .i64 v) := (cell_of_row _ _ 0 _ _ (0, 0) HB.out).trans rfl
  have x1 : w1.cell? ⟨w.heap.size, 1, none⟩ = some (.int .i64 e) := (cell_of_row _ _ 1 _ _ (0, 0) HB.out).trans rfl
  have x2 : w1.cell? ⟨w.heap.size, 2, none⟩ = some (.slice a n c) := (cell_of_row _ _ 2 _ _ (0, 0) HB.out).trans rfl
  go_enter Tryz.func76, Tryz.ntmps76
  go_upto_region 1 with fail
  rw [← HW.out]
  clear HW
  go_wp2_with fail
  refine (isVersion_any v _).mono ?_
  rintro e1 w2 ⟨rfl, hw2⟩
  have hw2 := hw2.symm
  subst hw2
  by_cases h1 : verP v
  case neg =>
    have HF : Hid (¬ headB v e ss n) := fun hr => h1 hr.1
    rw [decide_eq_false h1]
    clear h1
    go_wp2
    go_ret
    exact saysG_f HF.out hbb
  rw [decide_eq_true h1]
  have H1 : Hid (verP v) := h1
  clear h1
  go_wp2_with fail
  refine (isTim_any e _).mono ?_
  rintro e1 w2 ⟨rfl, hw2⟩
  have hw2 := hw2.symm
  subst hw2
  by_cases h1 : timP e
  case neg =>
    have HF : Hid (¬ headB v e ss n) := fun hr => h1 hr.2.1
    rw [decide_eq_false h1]
    clear h1
    go_wp2
    go_ret
    exact saysG_f HF.out hbb
  rw [decide_eq_true h1]
  have H2 : Hid (timP e) := h1
  clear h1
  by_cases h3 : n ≤ 12
  case neg =>
    have HF : Hid (¬ headB v e ss n) := fun hr => h3 hr.2.2.1
    have q3 : decide ((n : Int) ≤ 12) = false := decide_eq_false (by omega)
    go_wp2
    go_ret
    exact saysG_f HF.out hbb
  have q3 : decide ((n : Int) ≤ 12) = true := decide_eq_true (by omega)
  go_wp2_with fail
  refine (everyFs_any a n c ss _ (HR.out _ hbb) hm).mono ?_
  rintro e1 w3 ⟨b3, rfl, HE, hb3⟩
  have k3 : Below w.heap.size w w3 := keepT hbb hb3
  clear x0 x1 x2
  go_wp2
  go_ret
  refine ⟨b3, rfl, ⟨fun e => ⟨H1.out, H2.out, h3, HE.out.1 e⟩, fun hr => HE.out.2 hr.2.2.2⟩, k3⟩

set_option maxRecDepth 10000 in
set_option maxHeartbeats 1000000 in
theorem isLate_any (v e now : Int) (a : Option Addr) (n c : Nat) (w : World) :
    Calls Tryz.prog 44 #[.agg #[.int .i64 v, .int .i64 e, .slice a n c], .int .i64 now] w fun r w' => r = .returned (.bool (decide (e ≤ now))) ∧ Below w.heap.size w w' := by
  have hb : Below w.heap.size w (w.alloc (.cells #[.int .i64 v, .int .i64 e, .slice a n c] 93)) := (Below.refl _ _).alloc (Nat.le_refl _) _
  by_cases h : e ≤ now
  · have h2 : decide (e ≤ now) = true := decide_eq_true h
    have h3 : decide (now ≥ e) = true := decide_eq_true h
    go_enter Tryz.func44, Tryz.ntmps44
    go_wp2
    go_ret
    exact ⟨by first | rfl | (rw [h2]; rfl), hb⟩
  · have h2 : decide (e ≤ now) = false := decide_eq_false h
    have h3 : decide (now ≥ e) = false := decide_eq_false h
    go_enter Tryz.func44, Tryz.ntmps44
    go_wp2
    go_ret
    exact ⟨by first | rfl | (rw [h2]; rfl), hb⟩

set_option maxRecDepth 10000 in
set_option maxHeartbeats 4000000 in
theorem rootOk_any (x : RfP) (a0 : Option Addr) (n0 c0 : Nat) (a1 : Option Addr) (n1 c1 : Nat) (w : World) (hr : Ros KT w a0 n0 x.rs) (hs : Fss KT w a1 n1 x.ss) :
    Calls Tryz.prog 41 #[.agg #[.int .i64 x.v, .int .i64 x.e, .slice a1 n1 c1, .slice a0 n0 c0]] w (SaysG (rootP x) w) := by
  obtain ⟨w1, hw1⟩ : ∃ w1, w1 = w.alloc (.cells #[.int .i64 x.v, .int .i64 x.e, .slice a1 n1 c1, .slice a0 n0 c0] 95) := ⟨_, rfl⟩
  have hbb : Below w.heap.size w w1 := by rw [hw1]; exact (Below.refl _ _).alloc (Nat.le_refl _) _
  have HB : Hid (w1.heap[w.heap.size]? = some (.cells #[.int .i64 x.v, .int .i64 x.e, .slice a1 n1 c1, .slice a0 n0 c0] 95 (0, 0))) := by show _ = _; rw [hw1]; exact heap_alloc_new w _
  have HS : Hid (∀ W, Below w.heap.size w W → Fss KT W a1 n1 x.ss) := fun W hW => hs.kept hW
  have HLS : Hid (x.ss.length = n1) := hs.len
  have HW : Hid (_ = _) := hw1
  have HR : Hid (∀ W, Below w.heap.size w W → Ros KT W a0 n0 x.rs) := fun W hW => hr.kept hW
  have HLR : Hid (x.rs.length = n0) := hr.len
  have hm0 := hr.max
  clear hr
  clear hw1 hs
  have x0 : w1.cell? ⟨w.heap.size, 0, none⟩ = some (.int .i64 x.v) := (cell_of_row _ _ 0 _ _ (0, 0) HB.out).trans rfl
  have x1 : w1.cell? ⟨w.heap.size, 1, none⟩ = some (.int .i64 x.e) := (cell_of_row _ _ 1 _ _ (0, 0) HB.out).trans rfl
  have x2 : w1.cell? ⟨w.heap.size, 2, none⟩ = some (.slice a1 n1 c1) := (cell_of_row _ _ 2 _ _ (0, 0) HB.out).trans rfl
  have x3 : w1.cell? ⟨w.heap.size, 3, none⟩ = some (.slice a0 n0 c0) := (cell_of_row _ _ 3 _ _ (0, 0) HB.out).trans rfl
  go_enter Tryz.func41, Tryz.ntmps41
  go_upto_region 1 with fail
  rw [← HW.out]
  clear HW
  go_wp2_with fail
  refine (headOk_any x.v x.e x.ss a1 n1 c1 _ (HS.out _ hbb)).mono ?_
  rintro e1 w2 ⟨b2, rfl, HE, hb2⟩
  have k2 : Below w.heap.size w w2 := keepT hbb hb2
  clear x0 x1 x2 x3
  have x0 : w2.cell? ⟨w.heap.size, 0, none⟩ = some (.int .i64 x.v) := (cell_of_row _ _ 0 _ _ (0, 0) (below_kept HB.out hb2)).trans rfl
  have x1 : w2.cell? ⟨w.heap.size, 1, none⟩ = some (.int .i64 x.e) := (cell_of_row _ _ 1 _ _ (0, 0) (below_kept HB.out hb2)).trans rfl
  have x2 : w2.cell? ⟨w.heap.size, 2, none⟩ = some (.slice a1 n1 c1) := (cell_of_row _ _ 2 _ _ (0, 0) (below_kept HB.out hb2)).trans rfl
  have x3 : w2.cell? ⟨w.heap.size, 3, none⟩ = some (.slice a0 n0 c0) := (cell_of_row _ _ 3 _ _ (0, 0) (below_kept HB.out hb2)).trans rfl
  cases b2 with
  | false =>
    have HF : Hid (¬ (rootP x)) := fun hr => by have := HE.out.2 (by show headB _ _ _ _; have h3 := hr.2.2.1; rw [HLS.out] at h3; exact ⟨hr.1, hr.2.1, h3⟩); cases this
    clear HE
    go_wp2
    go_ret
    exact saysG_f HF.out k2
  | true =>
  have HH : Hid (verP x.v ∧ timP x.e ∧ sigsP x.ss x.ss.length) := by
    have h3 := HE.out.1 rfl
    show _ ∧ _ ∧ _
    rw [HLS.out]
    exact h3
  clear HE
  by_cases h3 : n0 = 3
  case neg =>
    have HF : Hid (¬ rootP x) := fun hr => h3 (by have := hr.2.2.2.1; rw [HLR.out] at this; exact this)
    have q3 : ((n0 : Int) == 3) = false := by simp; omega
    go_wp2
    go_ret
    exact saysG_f HF.out k2
  have q3 : ((n0 : Int) == 3) = true := by simp; omega
  have H3 : Hid (n0 = 3) := h3
  clear h3
  go_wp2_with fail
  refine (everyRo_any a0 n0 c0 x.rs _ (HR.out _ k2) hm0).mono ?_
  rintro e1 w3 ⟨b3, rfl, HE, hb3⟩
  have k3 : Below w.heap.size w w3 := keepT hbb (keepT hb2 hb3)
  clear x0 x1 x2 x3
  go_wp2
  go_ret
  refine ⟨b3, rfl, ⟨fun e => ⟨HH.out.1, HH.out.2.1, HH.out.2.2, by rw [HLR.out]; exact H3.out, ?_⟩, fun hr => HE.out.2 ?_⟩, k3⟩
  · have := HE.out.1 e
    rw [H3.out] at this
    exact this
  · rw [H3.out]
    exact hr.2.2.2.2

set_option maxRecDepth 10000 in
set_option maxHeartbeats 4000000 in
theorem stampOk_any (x : SfP) (a1 : Option Addr) (n1 c1 : Nat) (w : World) (hs : Fss KT w a1 n1 x.ss) :
    Calls Tryz.prog 42 #[.agg #[.int .i64 x.v, .int .i64 x.e, .slice a1 n1 c1, .int .i64 x.lv, .int .u64 x.lh]] w (SaysG (stampP x) w) := by
  obtain ⟨w1, hw1⟩ : ∃ w1, w1 = w.alloc (.cells #[.int .i64 x.v, .int .i64 x.e, .slice a1 n1 c1, .int .i64 x.lv, .int .u64 x.lh] 97) := ⟨_, rfl⟩
  have hbb : Below w.heap.size w w1 := by rw [hw1]; exact (Below.refl _ _).alloc (Nat.le_refl _) _
  have HB : Hid (w1.heap[w.heap.size]? = some (.cells #[.int .i64 x.v, .int .i64 x.e, .slice a1 n1 c1, .int .i64 x.lv, .int .u64 x.lh] 97 (0, 0))) := by show _ = _; rw [hw1]; exact heap_alloc_new w _
  have HS : Hid (∀ W, Below w.heap.size w W → Fss KT W a1 n1 x.ss) := fun W hW => hs.kept hW
  have HLS : Hid (x.ss.length = n1) := hs.len
  have HW : Hid (_ = _) := hw1
  clear hw1 hs
  have x0 : w1.cell? ⟨w.heap.size, 0, none⟩ = some (.int .i64 x.v) := (cell_of_row _ _ 0 _ _ (0, 0) HB.out).trans rfl
  have x1 : w1.cell? ⟨w.heap.size, 1, none⟩ = some (.int .i64 x.e) := (cell_of_row _ _ 1 _ _ (0, 0) HB.out).trans rfl
  have x2 : w1.cell? ⟨w.heap.size, 2, none⟩ = some (.slice a1 n1 c1) := (cell_of_row _ _ 2 _ _ (0, 0) HB.out).trans rfl
  have x3 : w1.cell? ⟨w.heap.size, 3, none⟩ = some (.int .i64 x.lv) := (cell_of_row _ _ 3 _ _ (0, 0) HB.out).trans rfl
  have x4 : w1.cell? ⟨w.heap.size, 4, none⟩ = some (.int .u64 x.lh) := (cell_of_row _ _ 4 _ _ (0, 0) HB.out).trans rfl
  go_enter Tryz.func42, Tryz.ntmps42
  go_upto_region 1 with fail
  rw [← HW.out]
  clear HW
  go_wp2_with fail
  refine (headOk_any x.v x.e x.ss a1 n1 c1 _ (HS.out _ hbb)).mono ?_
  rintro e1 w2 ⟨b2, rfl, HE, hb2⟩
  have k2 : Below w.heap.size w w2 := keepT hbb hb2
  clear x0 x1 x2 x3 x4
  have x0 : w2.cell? ⟨w.heap.size, 0, none⟩ = some (.int .i64 x.v) := (cell_of_row _ _ 0 _ _ (0, 0) (below_kept HB.out hb2)).trans rfl
  have x1 : w2.cell? ⟨w.heap.size, 1, none⟩ = some (.int .i64 x.e) := (cell_of_row _ _ 1 _ _ (0, 0) (below_kept HB.out hb2)).trans rfl
  have x2 : w2.cell? ⟨w.heap.size, 2, none⟩ = some (.slice a1 n1 c1) := (cell_of_row _ _ 2 _ _ (0, 0) (below_kept HB.out hb2)).trans rfl
  have x3 : w2.cell? ⟨w.heap.size, 3, none⟩ = some (.int .i64 x.lv) := (cell_of_row _ _ 3 _ _ (0, 0) (below_kept HB.out hb2)).trans rfl
  have x4 : w2.cell? ⟨w.heap.size, 4, none⟩ = some (.int .u64 x.lh) := (cell_of_row _ _ 4 _ _ (0, 0) (below_kept HB.out hb2)).trans rfl
  cases b2 with
  | false =>
    have HF : Hid (¬ (stampP x)) := fun hr => by have := HE.out.2 (by show headB _ _ _ _; have h3 := hr.2.2.1; rw [HLS.out] at h3; exact ⟨hr.1, hr.2.1, h3⟩); cases this
    clear HE
    go_wp2
    go_ret
    exact saysG_f HF.out k2
  | true =>
  have HH : Hid (verP x.v ∧ timP x.e ∧ sigsP x.ss x.ss.length) := by
    have h3 := HE.out.1 rfl
    show _ ∧ _ ∧ _
    rw [HLS.out]
    exact h3
  clear HE
  go_wp2_with fail
  refine (isVersion_any x.lv _).mono ?_
  rintro e1 w3 ⟨rfl, hw3⟩
  have hw3 := hw3.symm
  subst hw3
  obtain ⟨bb, hbq⟩ : ∃ bb, bb = decide (verP x.lv) := ⟨_, rfl⟩
  rw [← hbq]
  have HQ : Hid (bb = decide (verP x.lv)) := hbq
  clear hbq x0 x1 x2 x3 x4
  go_wp2
  go_ret
  exact ⟨bb, rfl, ⟨fun e => ⟨HH.out.1, HH.out.2.1, HH.out.2.2, of_decide_eq_true (HQ.out.symm.trans e)⟩, fun hr => by rw [HQ.out]; exact decide_eq_true hr.2.2.2⟩, k2⟩

set_option maxRecDepth 10000 in
set_option maxHeartbeats 4000000 in
theorem listOk_any (x : LfP) (a0 : Option Addr) (n0 c0 : Nat) (a1 : Option Addr) (n1 c1 : Nat) (w : World) (hr : RowTe w a0 n0 x.es) (hm0 : n0 ≤ 9223372036854775807) (hs : Fss KT w a1 n1 x.ss) :
    Calls Tryz.prog 43 #[.agg #[.int .i64 x.v, .int .i64 x.e, .slice a1 n1 c1, .slice a0 n0 c0]] w (SaysG (listP x) w) := by
  obtain ⟨w1, hw1⟩ : ∃ w1, w1 = w.alloc (.cells #[.int .i64 x.v, .int .i64 x.e, .slice a1 n1 c1, .slice a0 n0 c0] 99) := ⟨_, rfl⟩
  have hbb : Below w.heap.size w w1 := by rw [hw1]; exact (Below.refl _ _).alloc (Nat.le_refl _) _
  have HB : Hid (w1.heap[w.heap.size]? = some (.cells #[.int .i64 x.v, .int .i64 x.e, .slice a1 n1 c1, .slice a0 n0 c0] 99 (0, 0))) := by show _ = _; rw [hw1]; exact heap_alloc_new w _
  have HS : Hid (∀ W, Below w.heap.size w W → Fss KT W a1 n1 x.ss) := fun W hW => hs.kept hW
  have HLS : Hid (x.ss.length = n1) := hs.len
  have HW : Hid (_ = _) := hw1
  have HR : Hid (∀ W, Below w.heap.size w W → RowTe W a0 n0 x.es) := fun W hW => hr.kept hW
  have HLR : Hid (x.es.length = n0) := hr.len
  clear hr
  clear hw1 hs
  have x0 : w1.cell? ⟨w.heap.size, 0, none⟩ = some (.int .i64 x.v) := (cell_of_row _ _ 0 _ _ (0, 0) HB.out).trans rfl
  have x1 : w1.cell? ⟨w.heap.size, 1, none⟩ = some (.int .i64 x.e) := (cell_of_row _ _ 1 _ _ (0, 0) HB.out).trans rfl
  have x2 : w1.cell? ⟨w.heap.size, 2, none⟩ = some (.slice a1 n1 c1) := (cell_of_row _ _ 2 _ _ (0, 0) HB.out).trans rfl
  have x3 : w1.cell? ⟨w.heap.size, 3, none⟩ = some (.slice a0 n0 c0) := (cell_of_row _ _ 3 _ _ (0, 0) HB.out).trans rfl
  go_enter Tryz.func43, Tryz.ntmps43
  go_upto_region 1 with fail
  rw [← HW.out]
  clear HW
  go_wp2_with fail
  refine (headOk_any x.v x.e x.ss a1 n1 c1 _ (HS.out _ hbb)).mono ?_
  rintro e1 w2 ⟨b2, rfl, HE, hb2⟩
  have k2 : Below w.heap.size w w2 := keepT hbb hb2
  clear x0 x1 x2 x3
  have x0 : w2.cell? ⟨w.heap.size, 0, none⟩ = some (.int .i64 x.v) := (cell_of_row _ _ 0 _ _ (0, 0) (below_kept HB.out hb2)).trans rfl
  have x1 : w2.cell? ⟨w.heap.size, 1, none⟩ = some (.int .i64 x.e) := (cell_of_row _ _ 1 _ _ (0, 0) (below_kept HB.out hb2)).trans rfl
  have x2 : w2.cell? ⟨w.heap.size, 2, none⟩ = some (.slice a1 n1 c1) := (cell_of_row _ _ 2 _ _ (0, 0) (below_kept HB.out hb2)).trans rfl
  have x3 : w2.cell? ⟨w.heap.size, 3, none⟩ = some (.slice a0 n0 c0) := (cell_of_row _ _ 3 _ _ (0, 0) (below_kept HB.out hb2)).trans rfl
  cases b2 with
  | false =>
    have HF : Hid (¬ (listP x)) := fun hr => by have := HE.out.2 (by show headB _ _ _ _; have h3 := hr.2.2.1; rw [HLS.out] at h3; exact ⟨hr.1, hr.2.1, h3⟩); cases this
    clear HE
    go_wp2
    go_ret
    exact saysG_f HF.out k2
  | true =>
  have HH : Hid (verP x.v ∧ timP x.e ∧ sigsP x.ss x.ss.length) := by
    have h3 := HE.out.1 rfl
    show _ ∧ _ ∧ _
    rw [HLS.out]
    exact h3
  clear HE
  by_cases h3 : n0 ≤ 20
  case neg =>
    have HF : Hid (¬ listP x) := fun hr => h3 (by have := hr.2.2.2.1; rw [HLR.out] at this; exact this)
    have q3 : decide ((n0 : Int) ≤ 20) = false := decide_eq_false (by omega)
    go_wp2
    go_ret
    exact saysG_f HF.out k2
  have q3 : decide ((n0 : Int) ≤ 20) = true := decide_eq_true (by omega)
  go_wp2_with fail
  refine (everyTe_any a0 n0 c0 x.es _ (HR.out _ k2) hm0).mono ?_
  rintro e1 w3 ⟨b3, rfl, HE, hb3⟩
  have k3 : Below w.heap.size w w3 := keepT hbb (keepT hb2 hb3)
  clear x0 x1 x2 x3
  go_wp2
  go_ret
  refine ⟨b3, rfl, ⟨fun e => ⟨HH.out.1, HH.out.2.1, HH.out.2.2, by rw [HLR.out]; exact h3, by rw [HLR.out]; exact HE.out.1 e⟩, fun hr => HE.out.2 (by have := hr.2.2.2.2; rw [HLR.out] at this; exact this)⟩, k3⟩

end Go.Proofs.YtglpbgebcpijaaaGreat
