import Derived.Test.YtddkjofnligibaaTTD
import Derived.Test.YtddkjofnligibaaGB4
namespace Go.Proofs.Ytddkjofnligibaa
open Go.RowKit

def scv (sc x h n : Int) : Value := .agg #[.int .i64 sc, .int .u64 x, .int .i64 h, .int .i64 n]
def pbv (t : Int × Int × Int) : Value := .agg #[.int .i64 t.1, .int .u64 t.2.1, .int .i64 t.2.2]
theorem results_pb {fn : Func} {t : Tmp} (h : fn.results = #[.cell t 51]) (tmps : Array Value) (g : Nat) (ht : tmps.getD t undef = .pointer (some ⟨g, 0, none⟩)) (w : World) (c0 c1 c2 : Value)
    (hb : w.heap[g]? = some (.cells #[c0, c1, c2] 51 (0, 0))) : (results fn tmps).run Try.prog w = .ok (.agg #[c0, c1, c2]) w := by
  have d0 : w.cell? ⟨g, 0, none⟩ = some c0 := (cell_of_row _ g 0 _ 51 (0, 0) hb).trans rfl
  have d1 : w.cell? ⟨g, 1, none⟩ = some c1 := (cell_of_row _ g 1 _ 51 (0, 0) hb).trans rfl
  have d2 : w.cell? ⟨g, 2, none⟩ = some c2 := (cell_of_row _ g 2 _ 51 (0, 0) hb).trans rfl
  clear hb
  have ht' : tmps[t]?.getD undef = .pointer (some ⟨g, 0, none⟩) := by rw [← ht]; simp
  simp [results, h, go_sem, ht', d0, d1, d2]
theorem results_pb2 {fn : Func} {t u : Tmp} (h : fn.results = #[.cell t 51, .tmp u]) (tmps : Array Value) (g : Nat) (ht : tmps.getD t undef = .pointer (some ⟨g, 0, none⟩)) (v : Value) (hv : tmps.getD u undef = v) (w : World) (c0 c1 c2 : Value)
    (hb : w.heap[g]? = some (.cells #[c0, c1, c2] 51 (0, 0))) : (results fn tmps).run Try.prog w = .ok (.tuple #[.agg #[c0, c1, c2], v]) w := by
  have d0 : w.cell? ⟨g, 0, none⟩ = some c0 := (cell_of_row _ g 0 _ 51 (0, 0) hb).trans rfl
  have d1 : w.cell? ⟨g, 1, none⟩ = some c1 := (cell_of_row _ g 1 _ 51 (0, 0) hb).trans rfl
  have d2 : w.cell? ⟨g, 2, none⟩ = some c2 := (cell_of_row _ g 2 _ 51 (0, 0) hb).trans rfl
  clear hb
  have ht' : tmps[t]?.getD undef = .pointer (some ⟨g, 0, none⟩) := by rw [← ht]; simp
  have hv' : tmps[u]?.getD undef = v := by rw [← hv]; simp
  simp [results, h, go_sem, ht', hv', d0, d1, d2]
theorem two_blocks (w : World) (o0 o1 : Obj) : ((w.alloc o0).alloc o1).heap[w.heap.size]? = some o0 ∧ ((w.alloc o0).alloc o1).heap[w.heap.size + 1]? = some o1 := by
  have s1 : (w.alloc o0).heap.size = w.heap.size + 1 := by simp
  exact ⟨(alloc_oldT _ o1 _ (by simp)).trans (heap_alloc_new w o0), by rw [← s1]; exact heap_alloc_new _ o1⟩
theorem two_below (w : World) (o0 o1 : Obj) : Below w.heap.size w ((w.alloc o0).alloc o1) := ((Below.refl _ _).alloc (Nat.le_refl _) _).alloc (by simp) _

set_option maxRecDepth 10000 in
set_option maxHeartbeats 1000000 in
theorem treeKeyOf_any (sc x h n : Int) (w : World) :
    Calls Try.prog 128 #[scv sc x h n] w fun e w' => e = .returned (tkv x h n) ∧ Below w.heap.size w w' := by
  have HB : Hid (_) := (two_blocks w (.cells #[.int .i64 sc, .int .u64 x, .int .i64 h, .int .i64 n] 54) (.cells #[.int .u64 x, .int .i64 h, .int .i64 n] 27)).2
  unfold scv tkv
  go_enter Try.func128, Try.ntmps128
  go_wp2
  try simp only [Exit.inBlock, Exit.then]
  exact bodyPost_ret (results_tk rfl _ (w.heap.size + 1) rfl _ _ _ _ HB.out) rfl ⟨rfl, two_below _ _ _⟩

set_option maxRecDepth 10000 in
set_option maxHeartbeats 1000000 in
theorem l8Tree_any (sc x h n : Int) (w : World) :
    Calls Try.prog 62 #[scv sc x h n] w fun e w' => e = .returned (tkv x h n) ∧ Below w.heap.size w w' := by
  have HB : Hid (_) := (two_blocks w (.cells #[.int .i64 sc, .int .u64 x, .int .i64 h, .int .i64 n] 54) (.cells #[.int .u64 x, .int .i64 h, .int .i64 n] 27)).2
  unfold scv tkv
  go_enter Try.func62, Try.ntmps62
  go_wp2
  try simp only [Exit.inBlock, Exit.then]
  exact bodyPost_ret (results_tk rfl _ (w.heap.size + 1) rfl _ _ _ _ HB.out) rfl ⟨rfl, two_below _ _ _⟩

set_option maxRecDepth 10000 in
set_option maxHeartbeats 1000000 in
theorem schemeOf_1 (w : World) : Calls Try.prog 83 #[.int .i64 1] w fun e w' => e = .returned (.tuple #[.iface 122 (.agg #[]), .bool true]) ∧ w' = w := by
  go_enter Try.func83, Try.ntmps83
  go_wp2
  go_ret2
  exact ⟨rfl, rfl⟩

set_option maxRecDepth 10000 in
set_option maxHeartbeats 1000000 in
theorem schemeOf_2 (w : World) : Calls Try.prog 83 #[.int .i64 2] w fun e w' => e = .returned (.tuple #[.iface 123 (.agg #[]), .bool true]) ∧ w' = w := by
  go_enter Try.func83, Try.ntmps83
  go_wp2
  go_ret2
  exact ⟨rfl, rfl⟩

set_option maxRecDepth 10000 in
set_option maxHeartbeats 1000000 in
theorem schemeOf_o (k : Int) (w : World) (h1 : k ≠ 1) (h2 : k ≠ 2) : Calls Try.prog 83 #[.int .i64 k] w fun e w' => e = .returned (.tuple #[.nilIface, .bool false]) ∧ w' = w := by
  have z1 : (k == 1) = false := beq_false_of_ne h1
  have z2 : (k == 2) = false := beq_false_of_ne h2
  clear h1 h2
  go_enter Try.func83, Try.ntmps83
  go_wp2
  go_ret2
  exact ⟨rfl, rfl⟩

def grpP (x h n : Int) : Prop := (1 ≤ x ∧ x ≤ 500000002) ∧ h = 0 ∧ n = 0
instance (x h n : Int) : Decidable (grpP x h n) := by unfold grpP; infer_instance
theorem wrap_big {x : Int} (hx : U64 x) (hb : ¬ x ≤ 9223372036854775807) : wrap64 x = x - 18446744073709551616 := by
  have := hx.2
  unfold wrap64
  omega

set_option maxRecDepth 10000 in
set_option maxHeartbeats 2000000 in
theorem groupSecretOk_any (sc x h n : Int) (w : World) (hx : U64 x) :
    Calls Try.prog 107 #[.agg #[], scv sc x h n] w fun e w' => e = .returned (.bool (decide (grpP x h n))) ∧ Below w.heap.size w w' := by
  have hbb : Below w.heap.size w ((w.alloc (.cells #[] 122)).alloc (.cells #[.int .i64 sc, .int .u64 x, .int .i64 h, .int .i64 n] 54)) := two_below _ _ _
  obtain ⟨hx0, hx1⟩ := hx
  unfold scv
  by_cases hs : secP x
  · have hxs : x ≤ 9223372036854775807 := by have := hs.2; omega
    by_cases h1 : h = 0
    · by_cases h2 : n = 0
      · have HV : Hid (decide (grpP x h n) = true) := decide_eq_true ⟨hs, h1, h2⟩
        have z1 : (h == 0) = true := beq_iff_eq.2 h1
        have z2 : (n == 0) = true := beq_iff_eq.2 h2
        clear h1 h2
        go_enter Try.func107, Try.ntmps107
        go_wp2_with fail
        refine (isSecret_any x _).mono ?_
        rintro e w2 ⟨rfl, rfl⟩
        rw [decide_eq_true hs]
        go_wp2
        go_ret
        exact ⟨by rw [HV.out]; rfl, hbb⟩
      · have HV : Hid (decide (grpP x h n) = false) := decide_eq_false (fun hh => h2 hh.2.2)
        have z1 : (h == 0) = true := beq_iff_eq.2 h1
        have z2 : (n == 0) = false := beq_false_of_ne h2
        clear h1 h2
        go_enter Try.func107, Try.ntmps107
        go_wp2_with fail
        refine (isSecret_any x _).mono ?_
        rintro e w2 ⟨rfl, rfl⟩
        rw [decide_eq_true hs]
        go_wp2
        go_ret
        exact ⟨by rw [HV.out]; rfl, hbb⟩
    · have HV : Hid (decide (grpP x h n) = false) := decide_eq_false (fun hh => h1 hh.2.1)
      have z1 : (h == 0) = false := beq_false_of_ne h1
      clear h1
      go_enter Try.func107, Try.ntmps107
      go_wp2_with fail
      refine (isSecret_any x _).mono ?_
      rintro e w2 ⟨rfl, rfl⟩
      rw [decide_eq_true hs]
      go_wp2
      go_ret
      exact ⟨by rw [HV.out]; rfl, hbb⟩
  · have HV : Hid (decide (grpP x h n) = false) := decide_eq_false (fun hh => hs hh.1)
    by_cases hxs : x ≤ 9223372036854775807
    · go_enter Try.func107, Try.ntmps107
      go_wp2_with fail
      refine (isSecret_any x _).mono ?_
      rintro e w2 ⟨rfl, rfl⟩
      rw [decide_eq_false hs]
      go_wp2
      go_ret
      exact ⟨by rw [HV.out]; rfl, hbb⟩
    · have hwr := wrap_big ⟨hx0, hx1⟩ hxs
      have hs2 : ¬ secP (wrap64 x) := by rw [hwr]; intro hh; have := hh.1; omega
      clear hwr
      go_enter Try.func107, Try.ntmps107
      go_wp2_with fail
      refine (isSecret_any (wrap64 x) _).mono ?_
      rintro e w2 ⟨rfl, rfl⟩
      rw [decide_eq_false hs2]
      go_wp2
      go_ret
      exact ⟨by rw [HV.out]; rfl, hbb⟩

set_option maxRecDepth 10000 in
set_option maxHeartbeats 2000000 in
theorem treeSecretOk_any (sc x h n : Int) (w : World) :
    Calls Try.prog 125 #[.agg #[], scv sc x h n] w fun e w' => e = .returned (.bool (decide (kP h n))) ∧ Below w.heap.size w w' := by
  have hbb : Below w.heap.size w ((w.alloc (.cells #[] 123)).alloc (.cells #[.int .i64 sc, .int .u64 x, .int .i64 h, .int .i64 n] 54)) := two_below _ _ _
  unfold scv
  go_enter Try.func125, Try.ntmps125
  go_wp2_with fail
  refine (treeKeyOf_any sc x h n _).mono ?_
  rintro e w2 ⟨rfl, hb2⟩
  go_wp2_with fail
  refine (isRight_any x h n _).mono ?_
  rintro e w3 ⟨rfl, hb3⟩
  go_wp2
  go_ret
  exact ⟨rfl, keepT hbb (keepT hb2 hb3)⟩

theorem three_blocksT (w : World) (o0 o1 o2 : Obj) : (((w.alloc o0).alloc o1).alloc o2).heap[w.heap.size + 1 + 1]? = some o2 := by
  have s1 : ((w.alloc o0).alloc o1).heap.size = w.heap.size + 1 + 1 := by simp
  rw [← s1]; exact heap_alloc_new _ o2
theorem three_belowT (w : World) (o0 o1 o2 : Obj) : Below w.heap.size w (((w.alloc o0).alloc o1).alloc o2) := (((Below.refl _ _).alloc (Nat.le_refl _) _).alloc (by simp) _).alloc (by simp; omega) _
theorem below_set3T {B : Nat} {w0 w : World} (h : Below B w0 w) (g : Nat) (hg : B ≤ g) (u v t : Value) : Below B w0 (((w.setCell ⟨g, 0, none⟩ u).setCell ⟨g, 1, none⟩ v).setCell ⟨g, 2, none⟩ t) := ((h.setCell hg _).setCell hg _).setCell hg _
theorem heap_set3 {w : World} {g t : Nat} {c0 c1 c2 : Value} (h : w.heap[g]? = some (.cells #[c0, c1, c2] t (0, 0))) (v0 v1 v2 : Value) : (((w.setCell ⟨g, 0, none⟩ v0).setCell ⟨g, 1, none⟩ v1).setCell ⟨g, 2, none⟩ v2).heap[g]? = some (.cells #[v0, v1, v2] t (0, 0)) :=
  heap_setCell_same _ g 2 _ t v2 (heap_setCell_same _ g 1 _ t v1 (heap_setCell_same _ g 0 _ t v0 h))

set_option maxRecDepth 10000 in
set_option maxHeartbeats 2000000 in
theorem groupPubOf_any (sc x h n : Int) (w : World) (hs : secP x) :
    Calls Try.prog 105 #[.agg #[], scv sc x h n] w fun e w' => e = .returned (pbv (1, keyOf x, 0)) ∧ Below w.heap.size w w' := by
  obtain ⟨w1, hw1⟩ : ∃ w1, w1 = ((w.alloc (.cells #[] 122)).alloc (.cells #[.int .i64 sc, .int .u64 x, .int .i64 h, .int .i64 n] 54)).alloc (.cells #[.int .i64 0, .int .u64 0, .int .i64 0] 51) := ⟨_, rfl⟩
  have hbb : Below w.heap.size w w1 := by rw [hw1]; exact three_belowT _ _ _ _
  have hbx : w1.heap[w.heap.size + 1 + 1]? = some (.cells #[.int .i64 0, .int .u64 0, .int .i64 0] 51) := by rw [hw1]; exact three_blocksT _ _ _ _
  have HW : Hid (_ = _) := hw1
  clear hw1
  have hx0 := hs.1
  have hx1 := hs.2
  have hkb := gp_bd 4 x
  have hko : 0 ≤ keyOf x ∧ keyOf x ≤ 1000000006 := by unfold keyOf; rw [if_pos hs]; omega
  obtain ⟨hko0, hko1⟩ := hko
  unfold scv
  go_enter Try.func105, Try.ntmps105
  go_wp2_with fail
  rw [← HW.out]
  clear HW
  refine (implKeyOf_any x _).mono ?_
  rintro e w2 ⟨rfl, rfl⟩
  have c0 : w2.cell? ⟨w.heap.size + 1 + 1, 0, none⟩ = some (.int .i64 0) := (cell_of_row _ _ 0 _ 51 (0, 0) hbx).trans rfl
  have c1 : w2.cell? ⟨w.heap.size + 1 + 1, 1, none⟩ = some (.int .u64 0) := (cell_of_row _ _ 1 _ 51 (0, 0) hbx).trans rfl
  have c2 : w2.cell? ⟨w.heap.size + 1 + 1, 2, none⟩ = some (.int .i64 0) := (cell_of_row _ _ 2 _ 51 (0, 0) hbx).trans rfl
  have f0 : w2.frozen? ⟨w.heap.size + 1 + 1, 0, none⟩ = false := frozen_of_row w2 _ 0 _ 51 hbx
  have f1 : w2.frozen? ⟨w.heap.size + 1 + 1, 1, none⟩ = false := frozen_of_row w2 _ 1 _ 51 hbx
  have f2 : w2.frozen? ⟨w.heap.size + 1 + 1, 2, none⟩ = false := frozen_of_row w2 _ 2 _ 51 hbx
  have HBX : Hid (_ = _) := hbx
  clear hbx
  go_wp2
  try simp only [Exit.inBlock, Exit.then]
  exact bodyPost_ret (results_pb rfl _ (w.heap.size + 1 + 1) rfl _ _ _ _ (heap_set3 HBX.out _ _ _)) rfl ⟨rfl, below_set3T hbb _ (by omega) _ _ _⟩

set_option maxRecDepth 10000 in
set_option maxHeartbeats 2000000 in
theorem treePubOf_any (sc x h n : Int) (w : World) (hx : U64 x) (hk : kP h n) :
    Calls Try.prog 123 #[.agg #[], scv sc x h n] w fun e w' => e = .returned (pbv (2, rootN x h, h)) ∧ Below w.heap.size w w' := by
  obtain ⟨w1, hw1⟩ : ∃ w1, w1 = ((w.alloc (.cells #[] 123)).alloc (.cells #[.int .i64 sc, .int .u64 x, .int .i64 h, .int .i64 n] 54)).alloc (.cells #[.int .i64 0, .int .u64 0, .int .i64 0] 51) := ⟨_, rfl⟩
  have hbb : Below w.heap.size w w1 := by rw [hw1]; exact three_belowT _ _ _ _
  have hbx1 : w1.heap[w.heap.size + 1 + 1]? = some (.cells #[.int .i64 0, .int .u64 0, .int .i64 0] 51) := by rw [hw1]; exact three_blocksT _ _ _ _
  have hby1 : w1.heap[w.heap.size + 1]? = some (.cells #[.int .i64 sc, .int .u64 x, .int .i64 h, .int .i64 n] 54) := by rw [hw1]; exact (alloc_oldT _ _ _ (by simp)).trans (two_blocks w _ _).2
  have HBX1 : Hid (_ = _) := hbx1
  have HBY1 : Hid (_ = _) := hby1
  have HW : Hid (_ = _) := hw1
  clear hw1 hbx1 hby1
  obtain ⟨v, hv⟩ : ∃ v, v = rootN x h := ⟨_, rfl⟩
  have HR : Hid (rootR x h n = (v, true)) := by show _ = _; unfold rootR; rw [if_pos hk, hv]
  rw [← hv]
  clear hv
  unfold scv
  go_enter Try.func123, Try.ntmps123
  go_wp2_with fail
  rw [← HW.out]
  clear HW
  refine (treeKeyOf_any sc x h n _).mono ?_
  rintro e w2 ⟨rfl, hb2⟩
  go_wp2_with fail
  refine (implTreeRoot_any x h n _ hx).mono ?_
  rintro e w3 ⟨rfl, hb3⟩
  rw [HR.out, pairU]
  have hb37 := keepT hb2 hb3
  have hbx : w3.heap[w.heap.size + 1 + 1]? = some (.cells #[.int .i64 0, .int .u64 0, .int .i64 0] 51) := (hb37.block _ (Array.getElem?_eq_some_iff.1 HBX1.out).1).trans HBX1.out
  have hby : w3.heap[w.heap.size + 1]? = some (.cells #[.int .i64 sc, .int .u64 x, .int .i64 h, .int .i64 n] 54) := (hb37.block _ (Array.getElem?_eq_some_iff.1 HBY1.out).1).trans HBY1.out
  have s2 : w3.cell? ⟨w.heap.size + 1, 2, none⟩ = some (.int .i64 h) := (cell_of_row _ _ 2 _ 54 (0, 0) hby).trans rfl
  have c0 : w3.cell? ⟨w.heap.size + 1 + 1, 0, none⟩ = some (.int .i64 0) := (cell_of_row _ _ 0 _ 51 (0, 0) hbx).trans rfl
  have c1 : w3.cell? ⟨w.heap.size + 1 + 1, 1, none⟩ = some (.int .u64 0) := (cell_of_row _ _ 1 _ 51 (0, 0) hbx).trans rfl
  have c2 : w3.cell? ⟨w.heap.size + 1 + 1, 2, none⟩ = some (.int .i64 0) := (cell_of_row _ _ 2 _ 51 (0, 0) hbx).trans rfl
  have f0 : w3.frozen? ⟨w.heap.size + 1 + 1, 0, none⟩ = false := frozen_of_row w3 _ 0 _ 51 hbx
  have f1 : w3.frozen? ⟨w.heap.size + 1 + 1, 1, none⟩ = false := frozen_of_row w3 _ 1 _ 51 hbx
  have f2 : w3.frozen? ⟨w.heap.size + 1 + 1, 2, none⟩ = false := frozen_of_row w3 _ 2 _ 51 hbx
  have HBX : Hid (_ = _) := hbx
  have hB3 := keepT hbb hb37
  clear hbx hby
  go_wp2
  try simp only [Exit.inBlock, Exit.then]
  exact bodyPost_ret (results_pb rfl _ (w.heap.size + 1 + 1) rfl _ _ _ _ (heap_set3 HBX.out _ _ _)) rfl ⟨rfl, below_set3T hB3 _ (by omega) _ _ _⟩

end Go.Proofs.Ytddkjofnligibaa
