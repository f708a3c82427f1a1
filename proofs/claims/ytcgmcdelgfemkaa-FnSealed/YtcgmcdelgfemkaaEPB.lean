import Derived.Test.YtcgmcdelgfemkaaTK1
import Derived.Test.YtcgmcdelgfemkaaGB3GB4
namespace Go.Proofs.Ytcgmcdelgfemkaa
open Go.RowKit

theorem alloc_oldT (w : World) (o : Obj) (g : Nat) (hg : g < w.heap.size) : (w.alloc o).heap[g]? = w.heap[g]? := ((Below.refl w.heap.size w).alloc (Nat.le_refl _) o).block g hg
def scv (sc x h n : Int) : Value := .agg #[.int .i64 sc, .int .u64 x, .int .i64 h, .int .i64 n]
theorem results_pb2 {fn : Func} {t u : Tmp} (h : fn.results = #[.cell t 48, .tmp u]) (tmps : Array Value) (g : Nat) (ht : tmps.getD t undef = .pointer (some ⟨g, 0, none⟩)) (v : Value) (hv : tmps.getD u undef = v) (w : World) (c0 c1 c2 : Value)
    (hb : w.heap[g]? = some (.cells #[c0, c1, c2] 48 (0, 0))) : (results fn tmps).run Try.prog w = .ok (.tuple #[.agg #[c0, c1, c2], v]) w := by
  have d0 : w.cell? ⟨g, 0, none⟩ = some c0 := (cell_of_row _ g 0 _ 48 (0, 0) hb).trans rfl
  have d1 : w.cell? ⟨g, 1, none⟩ = some c1 := (cell_of_row _ g 1 _ 48 (0, 0) hb).trans rfl
  have d2 : w.cell? ⟨g, 2, none⟩ = some c2 := (cell_of_row _ g 2 _ 48 (0, 0) hb).trans rfl
  clear hb
  have ht' : tmps[t]?.getD undef = .pointer (some ⟨g, 0, none⟩) := by rw [← ht]; simp
  have hv' : tmps[u]?.getD undef = v := by rw [← hv]; simp
  simp [results, h, go_sem, ht', hv', d0, d1, d2]
theorem two_blocks (w : World) (o0 o1 : Obj) : ((w.alloc o0).alloc o1).heap[w.heap.size]? = some o0 ∧ ((w.alloc o0).alloc o1).heap[w.heap.size + 1]? = some o1 := by
  have s1 : (w.alloc o0).heap.size = w.heap.size + 1 := by simp
  exact ⟨(alloc_oldT _ o1 _ (by simp)).trans (heap_alloc_new w o0), by rw [← s1]; exact heap_alloc_new _ o1⟩
theorem two_below (w : World) (o0 o1 : Obj) : Below w.heap.size w ((w.alloc o0).alloc o1) := ((Below.refl _ _).alloc (Nat.le_refl _) _).alloc (by simp) _

set_option maxRecDepth 10000 in
set_option maxHeartbeats 1000000 in
theorem schemeOf_1 (w : World) : Calls Try.prog 80 #[.int .i64 1] w fun e w' => e = .returned (.tuple #[.iface 120 (.agg #[]), .bool true]) ∧ w' = w := by
  go_enter Try.func80, Try.ntmps80
  go_wp2
  go_ret2
  exact ⟨rfl, rfl⟩

set_option maxRecDepth 10000 in
set_option maxHeartbeats 1000000 in
theorem schemeOf_2 (w : World) : Calls Try.prog 80 #[.int .i64 2] w fun e w' => e = .returned (.tuple #[.iface 121 (.agg #[]), .bool true]) ∧ w' = w := by
  go_enter Try.func80, Try.ntmps80
  go_wp2
  go_ret2
  exact ⟨rfl, rfl⟩

set_option maxRecDepth 10000 in
set_option maxHeartbeats 1000000 in
theorem schemeOf_o (k : Int) (w : World) (h1 : k ≠ 1) (h2 : k ≠ 2) : Calls Try.prog 80 #[.int .i64 k] w fun e w' => e = .returned (.tuple #[.nilIface, .bool false]) ∧ w' = w := by
  have z1 : (k == 1) = false := beq_false_of_ne h1
  have z2 : (k == 2) = false := beq_false_of_ne h2
  clear h1 h2
  go_enter Try.func80, Try.ntmps80
  go_wp2
  go_ret2
  exact ⟨rfl, rfl⟩

theorem wrap_big {x : Int} (hx : U64 x) (hb : ¬ x ≤ 9223372036854775807) : wrap64 x = x - 18446744073709551616 := by
  have := hx.2
  unfold wrap64
  omega


def gkP (y h : Int) : Prop := keyP y ∧ h = 0
instance (y h : Int) : Decidable (gkP y h) := by unfold gkP; infer_instance
def hbP (h : Int) : Prop := 0 ≤ h ∧ h ≤ 5
instance (h : Int) : Decidable (hbP h) := by unfold hbP; infer_instance
def pubP (sc y h : Int) : Prop := (sc = 1 ∧ gkP y h) ∨ (sc = 2 ∧ hbP h)
instance (sc y h : Int) : Decidable (pubP sc y h) := by unfold pubP; infer_instance
def ifvP (sc : Int) : Value := if sc = 1 then .iface 120 (.agg #[]) else if sc = 2 then .iface 121 (.agg #[]) else .nilIface
theorem keyP_lt {y : Int} (h : keyP y) : 2 ≤ y ∧ y ≤ 1000000006 := by
  have h1 := h.1.1
  have h2 := h.2
  omega

set_option maxRecDepth 10000 in
set_option maxHeartbeats 2000000 in
theorem groupPubOk_any (sc y h : Int) (w : World) (hy : U64 y) :
    Calls Try.prog 102 #[.agg #[], kpv sc y h] w fun e w' => e = .returned (.bool (decide (gkP y h))) ∧ Below w.heap.size w w' := by
  have hbb : Below w.heap.size w ((w.alloc (.cells #[] 120)).alloc (.cells #[.int .i64 sc, .int .u64 y, .int .i64 h] 48)) := two_below _ _ _
  obtain ⟨hx0, hx1⟩ := hy
  unfold kpv
  by_cases hs : keyP y
  · have hxs : y ≤ 9223372036854775807 := by have := (keyP_lt hs).2; omega
    by_cases h1 : h = 0
    · have HV : Hid (decide (gkP y h) = true) := decide_eq_true ⟨hs, h1⟩
      have z1 : (h == 0) = true := beq_iff_eq.2 h1
      clear h1
      go_enter Try.func102, Try.ntmps102
      go_wp2_with fail
      refine (isKey_any y _).mono ?_
      rintro e w2 ⟨rfl, rfl⟩
      rw [decide_eq_true hs]
      go_wp2
      go_ret
      exact ⟨by rw [HV.out]; rfl, hbb⟩
    · have HV : Hid (decide (gkP y h) = false) := decide_eq_false (fun hh => h1 hh.2)
      have z1 : (h == 0) = false := beq_false_of_ne h1
      clear h1
      go_enter Try.func102, Try.ntmps102
      go_wp2_with fail
      refine (isKey_any y _).mono ?_
      rintro e w2 ⟨rfl, rfl⟩
      rw [decide_eq_true hs]
      go_wp2
      go_ret
      exact ⟨by rw [HV.out]; rfl, hbb⟩
  · have HV : Hid (decide (gkP y h) = false) := decide_eq_false (fun hh => hs hh.1)
    by_cases hxs : y ≤ 9223372036854775807
    · go_enter Try.func102, Try.ntmps102
      go_wp2_with fail
      refine (isKey_any y _).mono ?_
      rintro e w2 ⟨rfl, rfl⟩
      rw [decide_eq_false hs]
      go_wp2
      go_ret
      exact ⟨by rw [HV.out]; rfl, hbb⟩
    · have hwr := wrap_big ⟨hx0, hx1⟩ hxs
      have hs2 : ¬ keyP (wrap64 y) := by rw [hwr]; intro hh; have := (keyP_lt hh).1; omega
      clear hwr
      go_enter Try.func102, Try.ntmps102
      go_wp2_with fail
      refine (isKey_any (wrap64 y) _).mono ?_
      rintro e w2 ⟨rfl, rfl⟩
      rw [decide_eq_false hs2]
      go_wp2
      go_ret
      exact ⟨by rw [HV.out]; rfl, hbb⟩

set_option maxRecDepth 10000 in
set_option maxHeartbeats 2000000 in
theorem treePubOk_any (sc y h : Int) (w : World) :
    Calls Try.prog 107 #[.agg #[], kpv sc y h] w fun e w' => e = .returned (.bool (decide (hbP h))) ∧ Below w.heap.size w w' := by
  have hbb : Below w.heap.size w ((w.alloc (.cells #[] 121)).alloc (.cells #[.int .i64 sc, .int .u64 y, .int .i64 h] 48)) := two_below _ _ _
  unfold kpv
  by_cases h1 : 0 ≤ h ∧ h ≤ 5
  · have HV : Hid (decide (hbP h) = true) := decide_eq_true h1
    go_enter Try.func107, Try.ntmps107
    go_wp2_with fail
    refine (inBounds_t h 0 5 _ h1).mono ?_
    rintro e w2 ⟨rfl, rfl⟩
    go_wp2
    go_ret
    exact ⟨by rw [HV.out]; rfl, hbb⟩
  · have HV : Hid (decide (hbP h) = false) := decide_eq_false h1
    go_enter Try.func107, Try.ntmps107
    go_wp2_with fail
    refine (inBounds_f h 0 5 _ h1).mono ?_
    rintro e w2 ⟨rfl, rfl⟩
    go_wp2
    go_ret
    exact ⟨by rw [HV.out]; rfl, hbb⟩

set_option maxRecDepth 10000 in
set_option maxHeartbeats 2000000 in
theorem pubScheme_any (sc y h : Int) (w : World) (hy : U64 y) :
    Calls Try.prog 74 #[kpv sc y h] w fun e w' => e = .returned (.tuple #[ifvP sc, .bool (decide (pubP sc y h))]) ∧ Below w.heap.size w w' := by
  have hbb : Below w.heap.size w (w.alloc (.cells #[.int .i64 sc, .int .u64 y, .int .i64 h] 48)) := (Below.refl _ _).alloc (Nat.le_refl _) _
  by_cases h1 : sc = 1
  · subst h1
    have HV : Hid (decide (pubP 1 y h) = decide (gkP y h)) := by
      show _ = _
      exact decide_eq_decide.2 ⟨fun hh => hh.elim (fun a => a.2) (fun a => absurd a.1 (by decide)), fun hh => .inl ⟨rfl, hh⟩⟩
    have HI : Hid (ifvP 1 = .iface 120 (.agg #[])) := rfl
    rw [HI.out, kpv]
    go_enter Try.func74, Try.ntmps74
    go_wp2_with fail
    refine (schemeOf_1 _).mono ?_
    rintro e w2 ⟨rfl, rfl⟩
    go_wp2_with fail
    refine (groupPubOk_any 1 y h _ hy).mono ?_
    rintro e w3 ⟨rfl, hb3⟩
    go_wp2
    go_ret2
    exact ⟨by rw [HV.out]; rfl, keepT hbb hb3⟩
  by_cases h2 : sc = 2
  · subst h2
    have HV : Hid (decide (pubP 2 y h) = decide (hbP h)) := by
      show _ = _
      exact decide_eq_decide.2 ⟨fun hh => hh.elim (fun a => absurd a.1 (by decide)) (fun a => a.2), fun hh => .inr ⟨rfl, hh⟩⟩
    have HI : Hid (ifvP 2 = .iface 121 (.agg #[])) := rfl
    rw [HI.out, kpv]
    go_enter Try.func74, Try.ntmps74
    go_wp2_with fail
    refine (schemeOf_2 _).mono ?_
    rintro e w2 ⟨rfl, rfl⟩
    go_wp2_with fail
    refine (treePubOk_any 2 y h _).mono ?_
    rintro e w3 ⟨rfl, hb3⟩
    go_wp2
    go_ret2
    exact ⟨by rw [HV.out]; rfl, keepT hbb hb3⟩
  · have HV : Hid (decide (pubP sc y h) = false) := decide_eq_false (fun hh => hh.elim (fun a => h1 a.1) (fun a => h2 a.1))
    have HI : Hid (ifvP sc = .nilIface) := by show _ = _; unfold ifvP; rw [if_neg h1, if_neg h2]
    rw [HI.out, kpv]
    go_enter Try.func74, Try.ntmps74
    go_wp2_with fail
    refine (schemeOf_o sc _ h1 h2).mono ?_
    rintro e w2 ⟨rfl, rfl⟩
    go_wp2
    go_ret2
    exact ⟨by rw [HV.out]; rfl, hbb⟩

set_option maxRecDepth 10000 in
set_option maxHeartbeats 1000000 in
theorem pubOk_any (sc y h : Int) (w : World) (hy : U64 y) :
    Calls Try.prog 67 #[kpv sc y h] w fun e w' => e = .returned (.bool (decide (pubP sc y h))) ∧ Below w.heap.size w w' := by
  have hbb : Below w.heap.size w (w.alloc (.cells #[.int .i64 sc, .int .u64 y, .int .i64 h] 48)) := (Below.refl _ _).alloc (Nat.le_refl _) _
  obtain ⟨d, hd⟩ : ∃ d, d = decide (pubP sc y h) := ⟨_, rfl⟩
  have PS := fun W => pubScheme_any sc y h W hy
  rw [← hd]
  have HD : Hid (decide (pubP sc y h) = d) := hd.symm
  clear hd
  unfold kpv at PS ⊢
  go_enter Try.func67, Try.ntmps67
  go_wp2_with fail
  refine (PS _).mono ?_
  rintro e w2 ⟨rfl, hb2⟩
  rw [HD.out]
  go_wp2
  go_ret
  exact ⟨rfl, keepT hbb hb2⟩

end Go.Proofs.Ytcgmcdelgfemkaa
