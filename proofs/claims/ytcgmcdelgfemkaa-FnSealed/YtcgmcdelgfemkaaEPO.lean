import Derived.Test.YtcgmcdelgfemkaaEPB
import Derived.Test.YtcgmcdelgfemkaaTTB
namespace Go.Proofs.Ytcgmcdelgfemkaa
open Go.RowKit

def pbv (t : Int × Int × Int) : Value := .agg #[.int .i64 t.1, .int .u64 t.2.1, .int .i64 t.2.2]
theorem results_tk {fn : Func} {t : Tmp} (h : fn.results = #[.cell t 103]) (tmps : Array Value) (g : Nat) (ht : tmps.getD t undef = .pointer (some ⟨g, 0, none⟩)) (w : World) (c0 c1 c2 : Value)
    (hb : w.heap[g]? = some (.cells #[c0, c1, c2] 103 (0, 0))) : (results fn tmps).run Try.prog w = .ok (.agg #[c0, c1, c2]) w := by
  have d0 : w.cell? ⟨g, 0, none⟩ = some c0 := (cell_of_row _ g 0 _ 103 (0, 0) hb).trans rfl
  have d1 : w.cell? ⟨g, 1, none⟩ = some c1 := (cell_of_row _ g 1 _ 103 (0, 0) hb).trans rfl
  have d2 : w.cell? ⟨g, 2, none⟩ = some c2 := (cell_of_row _ g 2 _ 103 (0, 0) hb).trans rfl
  clear hb
  have ht' : tmps[t]?.getD undef = .pointer (some ⟨g, 0, none⟩) := by rw [← ht]; simp
  simp [results, h, go_sem, ht', d0, d1, d2]
theorem heap_set3 {w : World} {g t : Nat} {c0 c1 c2 : Value} (h : w.heap[g]? = some (.cells #[c0, c1, c2] t (0, 0))) (v0 v1 v2 : Value) : (((w.setCell ⟨g, 0, none⟩ v0).setCell ⟨g, 1, none⟩ v1).setCell ⟨g, 2, none⟩ v2).heap[g]? = some (.cells #[v0, v1, v2] t (0, 0)) :=
  heap_setCell_same _ g 2 _ t v2 (heap_setCell_same _ g 1 _ t v1 (heap_setCell_same _ g 0 _ t v0 h))
theorem below_set3T {B : Nat} {w0 w : World} (h : Below B w0 w) (g : Nat) (hg : B ≤ g) (u v t : Value) : Below B w0 (((w.setCell ⟨g, 0, none⟩ u).setCell ⟨g, 1, none⟩ v).setCell ⟨g, 2, none⟩ t) := ((h.setCell hg _).setCell hg _).setCell hg _

set_option maxRecDepth 10000 in
set_option maxHeartbeats 1000000 in
theorem l8Tree_any (sc x h n : Int) (w : World) :
    Calls Try.prog 72 #[scv sc x h n] w fun e w' => e = .returned (tkv x h n) ∧ Below w.heap.size w w' := by
  have HB : Hid (_) := (two_blocks w (.cells #[.int .i64 sc, .int .u64 x, .int .i64 h, .int .i64 n] 40) (.cells #[.int .u64 x, .int .i64 h, .int .i64 n] 103)).2
  unfold scv tkv
  go_enter Try.func72, Try.ntmps72
  go_wp2
  try simp only [Exit.inBlock, Exit.then]
  exact bodyPost_ret (results_tk rfl _ (w.heap.size + 1) rfl _ _ _ _ HB.out) rfl ⟨rfl, two_below _ _ _⟩

def grpP (x h n : Int) : Prop := (1 ≤ x ∧ x ≤ 500000002) ∧ h = 0 ∧ n = 0
instance (x h n : Int) : Decidable (grpP x h n) := by unfold grpP; infer_instance
def secOk (sc x h n : Int) : Prop := (sc = 1 ∧ grpP x h n) ∨ (sc = 2 ∧ kP h n)
instance (sc x h n : Int) : Decidable (secOk sc x h n) := by unfold secOk; infer_instance

set_option maxRecDepth 10000 in
set_option maxHeartbeats 2000000 in
theorem l8SecretOk_any (sc x h n : Int) (w : World) (hx : U64 x) :
    Calls Try.prog 69 #[scv sc x h n] w fun e w' => e = .returned (.bool (decide (secOk sc x h n))) ∧ Below w.heap.size w w' := by
  have hbb : Below w.heap.size w (w.alloc (.cells #[.int .i64 sc, .int .u64 x, .int .i64 h, .int .i64 n] 40)) := (Below.refl _ _).alloc (Nat.le_refl _) _
  obtain ⟨hx0, hx1⟩ := hx
  rw [scv]
  by_cases h1 : sc = 1
  · subst h1
    by_cases a1 : 1 ≤ x
    · by_cases a2 : x < 500000003
      · by_cases a3 : h = 0
        · have z1 : (h == 0) = true := beq_iff_eq.2 a3
          by_cases a4 : n = 0
          · have z2 : (n == 0) = true := beq_iff_eq.2 a4
            have HV : Hid (decide (secOk 1 x h n) = true) := decide_eq_true (.inl ⟨rfl, ⟨a1, by omega⟩, a3, a4⟩)
            clear a3 a4
            go_enter Try.func69, Try.ntmps69
            go_wp2
            go_ret
            exact ⟨by rw [HV.out]; rfl, hbb⟩
          · have z2 : (n == 0) = false := beq_false_of_ne a4
            have HV : Hid (decide (secOk 1 x h n) = false) := decide_eq_false (fun hh => hh.elim (fun a => a4 a.2.2.2) (fun a => absurd a.1 (by decide)))
            clear a3 a4
            go_enter Try.func69, Try.ntmps69
            go_wp2
            go_ret
            exact ⟨by rw [HV.out]; rfl, hbb⟩
        · have z1 : (h == 0) = false := beq_false_of_ne a3
          have HV : Hid (decide (secOk 1 x h n) = false) := decide_eq_false (fun hh => hh.elim (fun a => a3 a.2.2.1) (fun a => absurd a.1 (by decide)))
          clear a3
          go_enter Try.func69, Try.ntmps69
          go_wp2
          go_ret
          exact ⟨by rw [HV.out]; rfl, hbb⟩
      · have a2' : decide (x < 500000003) = false := decide_eq_false a2
        have HV : Hid (decide (secOk 1 x h n) = false) := decide_eq_false (fun hh => hh.elim (fun a => by have := a.2.1.2; omega) (fun a => absurd a.1 (by decide)))
        go_enter Try.func69, Try.ntmps69
        go_wp2
        go_ret
        exact ⟨by rw [HV.out]; rfl, hbb⟩
    · have a1' : decide (1 ≤ x) = false := decide_eq_false a1
      have HV : Hid (decide (secOk 1 x h n) = false) := decide_eq_false (fun hh => hh.elim (fun a => a1 a.2.1.1) (fun a => absurd a.1 (by decide)))
      go_enter Try.func69, Try.ntmps69
      go_wp2
      go_ret
      exact ⟨by rw [HV.out]; rfl, hbb⟩
  have z1 : (sc == 1) = false := beq_false_of_ne h1
  by_cases h2 : sc = 2
  · subst h2
    have HV : Hid (decide (secOk 2 x h n) = decide (kP h n)) := by
      show _ = _
      exact decide_eq_decide.2 ⟨fun hh => hh.elim (fun a => absurd a.1 (by decide)) (fun a => a.2), fun hh => .inr ⟨rfl, hh⟩⟩
    clear h1
    go_enter Try.func69, Try.ntmps69
    go_wp2_with fail
    refine (l8Tree_any 2 x h n _).mono ?_
    rintro e w2 ⟨rfl, hb2⟩
    go_wp2_with fail
    refine (l8KeyOk_any x h n _).mono ?_
    rintro e w3 ⟨rfl, hb3⟩
    go_wp2
    go_ret
    exact ⟨by rw [HV.out]; rfl, keepT hbb (keepT hb2 hb3)⟩
  · have z2 : (sc == 2) = false := beq_false_of_ne h2
    have HV : Hid (decide (secOk sc x h n) = false) := decide_eq_false (fun hh => hh.elim (fun a => h1 a.1) (fun a => h2 a.1))
    clear h1 h2
    go_enter Try.func69, Try.ntmps69
    go_wp2
    go_ret
    exact ⟨by rw [HV.out]; rfl, hbb⟩

def pubR (sc x h n : Int) : (Int × Int × Int) × Bool := if secOk sc x h n then ((if sc = 1 then (1, keyOf x, 0) else (2, rootN x h, h)), true) else ((0, 0, 0), false)

set_option maxRecDepth 10000 in
set_option maxHeartbeats 2000000 in
theorem specPubOf_any (sc x h n : Int) (w : World) (hx : U64 x) :
    Calls Try.prog 49 #[scv sc x h n] w fun e w' => e = .returned (.tuple #[pbv (pubR sc x h n).1, .bool (pubR sc x h n).2]) ∧ Below w.heap.size w w' := by
  obtain ⟨w1, hw1⟩ : ∃ w1, w1 = (w.alloc (.cells #[.int .i64 sc, .int .u64 x, .int .i64 h, .int .i64 n] 40)).alloc (.cells #[.int .i64 0, .int .u64 0, .int .i64 0] 48) := ⟨_, rfl⟩
  have hbb : Below w.heap.size w w1 := by rw [hw1]; exact two_below _ _ _
  have HPX : Hid (∀ w7, Below w1.heap.size w1 w7 → w7.heap[w.heap.size + 1]? = some (.cells #[.int .i64 0, .int .u64 0, .int .i64 0] 48)) := fun w7 h7 => (h7.block _ (by rw [hw1]; simp)).trans (by rw [hw1]; exact (two_blocks w _ _).2)
  have HSX : Hid (∀ w7, Below w1.heap.size w1 w7 → w7.heap[w.heap.size]? = some (.cells #[.int .i64 sc, .int .u64 x, .int .i64 h, .int .i64 n] 40)) := fun w7 h7 => (h7.block _ (by rw [hw1]; simp; omega)).trans (by rw [hw1]; exact (two_blocks w _ _).1)
  have HW : Hid (_ = _) := hw1
  clear hw1
  rw [scv]
  go_enter Try.func49, Try.ntmps49
  go_wp2_with fail
  rw [← HW.out]
  clear HW
  refine (l8SecretOk_any sc x h n _ hx).mono ?_
  rintro e w2 ⟨rfl, hb2⟩
  have hs := HSX.out _ hb2
  have s0 : w2.cell? ⟨w.heap.size, 0, none⟩ = some (.int .i64 sc) := (cell_of_row _ _ 0 _ 40 (0, 0) hs).trans rfl
  have s1 : w2.cell? ⟨w.heap.size, 1, none⟩ = some (.int .u64 x) := (cell_of_row _ _ 1 _ 40 (0, 0) hs).trans rfl
  have s2 : w2.cell? ⟨w.heap.size, 2, none⟩ = some (.int .i64 h) := (cell_of_row _ _ 2 _ 40 (0, 0) hs).trans rfl
  have s3 : w2.cell? ⟨w.heap.size, 3, none⟩ = some (.int .i64 n) := (cell_of_row _ _ 3 _ 40 (0, 0) hs).trans rfl
  have hbx := HPX.out _ hb2
  have c0 : w2.cell? ⟨w.heap.size + 1, 0, none⟩ = some (.int .i64 0) := (cell_of_row _ _ 0 _ 48 (0, 0) hbx).trans rfl
  have c1 : w2.cell? ⟨w.heap.size + 1, 1, none⟩ = some (.int .u64 0) := (cell_of_row _ _ 1 _ 48 (0, 0) hbx).trans rfl
  have c2 : w2.cell? ⟨w.heap.size + 1, 2, none⟩ = some (.int .i64 0) := (cell_of_row _ _ 2 _ 48 (0, 0) hbx).trans rfl
  have f0 : w2.frozen? ⟨w.heap.size + 1, 0, none⟩ = false := frozen_of_row w2 _ 0 _ 48 hbx
  have f1 : w2.frozen? ⟨w.heap.size + 1, 1, none⟩ = false := frozen_of_row w2 _ 1 _ 48 hbx
  have f2 : w2.frozen? ⟨w.heap.size + 1, 2, none⟩ = false := frozen_of_row w2 _ 2 _ 48 hbx
  have HBX : Hid (_ = _) := hbx
  have hB2 := keepT hbb hb2
  clear hs hbx
  by_cases hk : secOk sc x h n
  · rw [decide_eq_true hk]
    by_cases h1 : sc = 1
    · subst h1
      have hg : grpP x h n := hk.elim (fun a => a.2) (fun a => absurd a.1 (by decide))
      have HR : Hid (pubR 1 x h n = ((1, keyOf x, 0), true)) := by show _ = _; unfold pubR; rw [if_pos hk, if_pos rfl]
      have hx0 := hg.1.1
      have hx9 := hg.1.2
      have hsec : secP x := hg.1
      have hko : 0 ≤ keyOf x ∧ keyOf x ≤ 1000000006 := by have := gp_bd 4 x; unfold keyOf; rw [if_pos hsec]; omega
      obtain ⟨hko0, hko1⟩ := hko
      have u1 : wrap64 x = x := by unfold wrap64; omega
      have u2 : IntKind.i64.wrap x = x := by rw [IntKind.wrap_i64]; omega
      have u3 : IntKind.u64.wrap (keyOf x) = keyOf x := by rw [IntKind.wrap_u64]; omega
      go_upto_region 4 with fail
      go_region_with ((go_at_call 70; refine (specKeyOf_any x _).mono ?_; rintro e w3 ⟨rfl, rfl⟩))
      all_goals
        go_wp2_with fail
        try simp only [Exit.inBlock, Exit.then]
        refine bodyPost_ret (results_pb2 rfl _ (w.heap.size + 1) rfl _ rfl _ _ _ _ (heap_set3 (w := w2.drew) HBX.out _ _ _)) rfl ⟨?_, below_set3T hB2.drew _ (by omega) _ _ _⟩
        rw [HR.out]
        rfl
    · obtain ⟨rfl, hkk⟩ : sc = 2 ∧ kP h n := hk.elim (fun a => absurd a.1 h1) (fun a => a)
      have HR : Hid (pubR 2 x h n = ((2, rootN x h, h), true)) := by show _ = _; unfold pubR; rw [if_pos hk, if_neg (by decide)]
      obtain ⟨v, hv⟩ : ∃ v, v = rootN x h := ⟨_, rfl⟩
      have HRR : Hid (rootR x h n = (v, true)) := by show _ = _; unfold rootR; rw [if_pos hkk, hv]
      rw [← hv] at HR
      clear hv c0 c1 c2 f0 f1 f2
      go_wp2_with fail
      refine (l8Tree_any 2 x h n _).mono ?_
      rintro e w3 ⟨rfl, hb3⟩
      clear s0 s1 s2 s3
      go_wp2_with fail
      refine (specTreeRoot_any x h n _ hx).mono ?_
      rintro e w4 ⟨rfl, hb4⟩
      rw [HRR.out, pairU]
      have hb47 := keepT hb2 (keepT hb3 hb4)
      have hs := HSX.out _ hb47
      have s0 : w4.cell? ⟨w.heap.size, 0, none⟩ = some (.int .i64 2) := (cell_of_row _ _ 0 _ 40 (0, 0) hs).trans rfl
      have s2 : w4.cell? ⟨w.heap.size, 2, none⟩ = some (.int .i64 h) := (cell_of_row _ _ 2 _ 40 (0, 0) hs).trans rfl
      have hbx := HPX.out _ hb47
      have c0 : w4.cell? ⟨w.heap.size + 1, 0, none⟩ = some (.int .i64 0) := (cell_of_row _ _ 0 _ 48 (0, 0) hbx).trans rfl
      have c1 : w4.cell? ⟨w.heap.size + 1, 1, none⟩ = some (.int .u64 0) := (cell_of_row _ _ 1 _ 48 (0, 0) hbx).trans rfl
      have c2 : w4.cell? ⟨w.heap.size + 1, 2, none⟩ = some (.int .i64 0) := (cell_of_row _ _ 2 _ 48 (0, 0) hbx).trans rfl
      have f0 : w4.frozen? ⟨w.heap.size + 1, 0, none⟩ = false := frozen_of_row w4 _ 0 _ 48 hbx
      have f1 : w4.frozen? ⟨w.heap.size + 1, 1, none⟩ = false := frozen_of_row w4 _ 1 _ 48 hbx
      have f2 : w4.frozen? ⟨w.heap.size + 1, 2, none⟩ = false := frozen_of_row w4 _ 2 _ 48 hbx
      have HBX4 : Hid (_ = _) := hbx
      have hB4 := keepT hbb hb47
      clear hbx hs
      go_wp2
      try simp only [Exit.inBlock, Exit.then]
      refine bodyPost_ret (results_pb2 rfl _ (w.heap.size + 1) rfl _ rfl _ _ _ _ (heap_set3 HBX4.out _ _ _)) rfl ⟨?_, below_set3T hB4 _ (by omega) _ _ _⟩
      rw [HR.out]
      rfl
  · have HR : Hid (pubR sc x h n = ((0, 0, 0), false)) := by show _ = _; unfold pubR; rw [if_neg hk]
    rw [decide_eq_false hk]
    go_wp2
    try simp only [Exit.inBlock, Exit.then]
    refine bodyPost_ret (results_pb2 rfl _ (w.heap.size + 1) rfl _ rfl _ _ _ _ (heap_set3 HBX.out _ _ _)) rfl ⟨?_, below_set3T hB2 _ (by omega) _ _ _⟩
    rw [HR.out]
    rfl

end Go.Proofs.Ytcgmcdelgfemkaa
