import Derived.Test.YtgbjleapaioemaaGreatTTD
import Derived.Test.YtgbjleapaioemaaGreatGB4
namespace Go.Proofs.YtgbjleapaioemaaGreat
open Go.RowKit

def scv (sc x h n : Int) : Value := .agg #[.int .i64 sc, .int .u64 x, .int .i64 h, .int .i64 n]
def pbv (t : Int × Int × Int) : Value := .agg #[.int .i64 t.1, .int .u64 t.2.1, .int .i64 t.2.2]
theorem results_pb {fn : Func} {t : Tmp} (h : fn.results = #[.cell t 58]) (tmps : Array Value) (g : Nat) (ht : tmps.getD t undef = .pointer (some ⟨g, 0, none⟩)) (w : World) (c0 c1 c2 : Value)
    (hb : w.heap[g]? = some (.cells #[c0, c1, c2] 58 (0, 0))) : (results fn tmps).run Tryz.prog w = .ok (.agg #[c0, c1, c2]) w := by
  have d0 : w.cell? ⟨g, 0, none⟩ = some c0 := (cell_of_row _ g 0 _ 58 (0, 0) hb).trans rfl
  have d1 : w.cell? ⟨g, 1, none⟩ = some c1 := (cell_of_row _ g 1 _ 58 (0, 0) hb).trans rfl
  have d2 : w.cell? ⟨g, 2, none⟩ = some c2 := (cell_of_row _ g 2 _ 58 (0, 0) hb).trans rfl
  clear hb
  have ht' : tmps[t]?.getD undef = .pointer (some ⟨g, 0, none⟩) := by rw [← ht]; simp
  simp [results, h, go_sem, ht', d0, d1, d2]
theorem results_pb2 {fn : Func} {t u : Tmp} (h : fn.results = #[.cell t 58, .tmp u]) (tmps : Array Value) (g : Nat) (ht : tmps.getD t undef = .pointer (some ⟨g, 0, none⟩)) (v : Value) (hv : tmps.getD u undef = v) (w : World) (c0 c1 c2 : Value)
    (hb : w.heap[g]? = some (.cells #[c0, c1, c2] 58 (0, 0))) : (results fn tmps).run Tryz.prog w = .ok (.tuple #[.agg #[c0, c1, c2], v]) w := by
  have d0 : w.cell? ⟨g, 0, none⟩ = some c0 := (cell_of_row _ g 0 _ 58 (0, 0) hb).trans rfl
  have d1 : w.cell? ⟨g, 1, none⟩ = some c1 := (cell_of_row _ g 1 _ 58 (0, 0) hb).trans rfl
  have d2 : w.cell? ⟨g, 2, none⟩ = some c2 := (cell_of_row _ g 2 _ 58 (0, 0) hb).trans rfl
  clear hb
  have ht' : tmps[t]?.getD undef = .pointer (some ⟨g, 0, none⟩) := by rw [← ht]; simp
  have hv' : tmps[u]?.getD undef = v := by rw [← hv]; simp
  simp [results, h, go_sem, ht', hv', d0, d1, d2]
theorem two_blocks (w : World) (o0 o1 : Obj) : ((w.alloc o0).alloc o1).heap[w.heap.size]? = some o0 ∧ ((w.alloc o0).alloc o1).heap[w.heap.size + 1]? = some o1 := by
  have s1 : (w.alloc o0).heap.size = w.heap.size + 1 := by simp
  exact ⟨(alloc_oldT _ o1 _ (by simp)).trans (heap_alloc_new w o0), by rw [← s1]; exact heap_alloc_new _ o1⟩
theorem two_below (w : World) (o0 o1 : Obj) : Below w.heap.size w ((w.alloc o0).alloc o1) := ((Below.refl _ _).alloc (Nat.le_refl _) _).alloc (by simp) _

set_option maxRecDepth 10000 in
set_option maxHeartbeats 1000000 in
theorem treeKeyOf_any (sc x h n : Int) (w : World) :
    Calls Tryz.prog 124 #[scv sc x h n] w fun e w' => e = .returned (tkv x h n) ∧ Below w.heap.size w w' := by
  have HB : Hid (_) := (two_blocks w (.cells #[.int .i64 sc, .int .u64 x, .int .i64 h, .int .i64 n] 45) (.cells #[.int .u64 x, .int .i64 h, .int .i64 n] 75)).2
  unfold scv tkv
  go_enter Tryz.func124, Tryz.ntmps124
  go_wp2
  try simp only [Exit.inBlock, Exit.then]
  exact bodyPost_ret (results_tk rfl _ (w.heap.size + 1) rfl _ _ _ _ HB.out) rfl ⟨rfl, two_below _ _ _⟩

set_option maxRecDepth 10000 in
set_option maxHeartbeats 1000000 in
theorem l8Tree_any (sc x h n : Int) (w : World) :
    Calls Tryz.prog 41 #[scv sc x h n] w fun e w' => e = .returned (tkv x h n) ∧ Below w.heap.size w w' := by
  have HB : Hid (_) := (two_blocks w (.cells #[.int .i64 sc, .int .u64 x, .int .i64 h, .int .i64 n] 45) (.cells #[.int .u64 x, .int .i64 h, .int .i64 n] 75)).2
  unfold scv tkv
  go_enter Tryz.func41, Tryz.ntmps41
  go_wp2
  try simp only [Exit.inBlock, Exit.then]
  exact bodyPost_ret (results_tk rfl _ (w.heap.size + 1) rfl _ _ _ _ HB.out) rfl ⟨rfl, two_below _ _ _⟩

set_option maxRecDepth 10000 in
set_option maxHeartbeats 1000000 in
theorem schemeOf_1 (w : World) : Calls Tryz.prog 80 #[.int .i64 1] w fun e w' => e = .returned (.tuple #[.iface 126 (.agg #[]), .bool true]) ∧ w' = w := by
  go_enter Tryz.func80, Tryz.ntmps80
  go_wp2
  go_ret2
  exact ⟨rfl, rfl⟩

set_option maxRecDepth 10000 in
set_option maxHeartbeats 1000000 in
theorem schemeOf_2 (w : World) : Calls Tryz.prog 80 #[.int .i64 2] w fun e w' => e = .returned (.tuple #[.iface 127 (.agg #[]), .bool true]) ∧ w' = w := by
  go_enter Tryz.func80, Tryz.ntmps80
  go_wp2
  go_ret2
  exact ⟨rfl, rfl⟩

set_option maxRecDepth 10000 in
set_option maxHeartbeats 1000000 in
theorem schemeOf_o (k : Int) (w : World) (h1 : k ≠ 1) (h2 : k ≠ 2) : Calls Tryz.prog 80 #[.int .i64 k] w fun e w' => e = .returned (.tuple #[.nilIface, .bool false]) ∧ w' = w := by
  have z1 : (k == 1) = false := beq_false_of_ne h1
  have z2 : (k == 2) = false := beq_false_of_ne h2
  clear h1 h2
  go_enter Tryz.func80, Tryz.ntmps80
  go_wp2
  go_ret2
  exact ⟨rfl, rfl⟩

def grpP (x h n : Int) : Prop := (1 ≤ x ∧ x ≤ 500000002) ∧ h = 0 ∧ n = 0
instance (x h n : Int) : Decidable (grpP x h n) := by unfold grpP; infer_instance
theorem wrap_big {x : Int} (hx : U64 x) (hb : ¬ x ≤ 9223372036854775807) : wrap64 x = x - 18446744073709551616 := by
  have := hx.2
  unfold wrap64
  omega

set_option maxRecDepth 10000 in
set_option maxHeartbeats 2000000 in
theorem groupSecretOk_any (sc x h n : Int) (w : World) (hx : U64 x) :
    Calls Tryz.prog 108 #[.agg #[], scv sc x h n] w fun e w' => e = .returned (.bool (decide (grpP x h n))) ∧ Below w.heap.size w w' := by
  have hbb : Below w.heap.size w ((w.alloc (.cells #[] 126)).alloc (.cells #[.int .i64 sc, .int .u64 x, .int .i64 h, .int .i64 n] 45)) := two_below _ _ _
  obtain ⟨hx0, hx1⟩ := hx
  unfold scv
  by_cases hs : secP x
  · have hxs : x ≤ 9223372036854775807 := by have := hs.2; omega
    by_cases h1 : h = 0
    · by_cases h2 : n = 0
      · have HV : Hid (decide (grpP x h n) = true) := decide_eq_true ⟨hs, h1, h2⟩
        have z1 : (h == 0) = true := beq_iff_eq.2 h1
        have z2 : (n == 0) = true := beq_iff_eq.2 h2
        clear h1 h2
        go_enter Tryz.func108, Tryz.ntmps108
        go_wp2_with fail
        refine (isSecret_any x _).mono ?_
        rintro e w2 ⟨rfl, rfl⟩
        rw [decide_eq_true hs]
        go_wp2
        go_ret
        exact ⟨by rw [HV.out]; rfl, hbb⟩
      · have HV : Hid (decide (grpP x h n) = false) := decide_eq_false (fun hh => h2 hh.2.2)
        have z1 : (h == 0) = true := beq_iff_eq.2 h1
        have z2 : (n == 0) = false := beq_false_of_ne h2
        clear h1 h2
        go_enter Tryz.func108, Tryz.ntmps108
        go_wp2_with fail
        refine (isSecret_any x _).mono ?_
        rintro e w2 ⟨rfl, rfl⟩
        rw [decide_eq_true hs]
        go_wp2
        go_ret
        exact ⟨by rw [HV.out]; rfl, hbb⟩
    · have HV : Hid (decide (grpP x h n) = false) := decide_eq_false (fun hh => h1 hh.2.1)
      have z1 : (h == 0) = false := beq_false_of_ne h1
      clear h1
      go_enter Tryz.func108, Tryz.ntmps108
      go_wp2_with fail
      refine (isSecret_any x _).mono ?_
      rintro e w2 ⟨rfl, rfl⟩
      rw [decide_eq_true hs]
      go_wp2
      go_ret
      exact ⟨by rw [HV.out]; rfl, hbb⟩
  · have HV : Hid (decide (grpP x h n) = false) := decide_eq_false (fun hh => hs hh.1)
    by_cases hxs : x ≤ 9223372036854775807
    · go_enter Tryz.func108, Tryz.ntmps108
      go_wp2_with fail
      refine (isSecret_any x _).mono ?_
      rintro e w2 ⟨rfl, rfl⟩
      rw [decide_eq_false hs]
      go_wp2
      go_ret
      exact ⟨by rw [HV.out]; rfl, hbb⟩
    · have hwr := wrap_big ⟨hx0, hx1⟩ hxs
      have hs2 : ¬ secP (wrap64 x) := by rw [hwr]; intro hh; have := hh.1; omega
      clear hwr
      go_enter Tryz.func108, Tryz.ntmps108
      go_wp2_with fail
      refine (isSecret_any (wrap64 x) _).mono ?_
      rintro e w2 ⟨rfl, rfl⟩
      rw [decide_eq_false hs2]
      go_wp2
      go_ret
      exact ⟨by rw [HV.out]; rfl, hbb⟩

set_option maxRecDepth 10000 in
set_option maxHeartbeats 2000000 in
theorem treeSecretOk_any (sc x h n : Int) (w : World) :
    Calls Tryz.prog 120 #[.agg #[], scv sc x h n] w fun e w' => e = .returned (.bool (decide (kP h n))) ∧ Below w.heap.size w w' := by
  have hbb : Below w.heap.size w ((w.alloc (.cells #[] 127)).alloc (.cells #[.int .i64 sc, .int .u64 x, .int .i64 h, .int .i64 n] 45)) := two_below _ _ _
  unfold scv
  go_enter Tryz.func120, Tryz.ntmps120
  go_wp2_with fail
  refine (treeKeyOf_any sc x h n _).mono ?_
  rintro e w2 ⟨rfl, hb2⟩
  go_wp2_with fail
  refine (isRight_any x h n _).mono ?_
  rintro e w3 ⟨rfl, hb3⟩
  go_wp2
  go_ret
  exact ⟨rfl, keepT hbb (keepT hb2 hb3)⟩

end Go.Proofs.YtgbjleapaioemaaGreat
