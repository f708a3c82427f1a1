import Derived.Test.YtgbjleapaioemaaGreatTTE1
namespace Go.Proofs.YtgbjleapaioemaaGreat
open Go.RowKit

def secOk (sc x h n : Int) : Prop := (sc = 1 ∧ grpP x h n) ∨ (sc = 2 ∧ kP h n)
instance (sc x h n : Int) : Decidable (secOk sc x h n) := by unfold secOk; infer_instance
def ifv (sc : Int) : Value := if sc = 1 then .iface 126 (.agg #[]) else if sc = 2 then .iface 127 (.agg #[]) else .nilIface

set_option maxRecDepth 10000 in
set_option maxHeartbeats 2000000 in
theorem secretScheme_any (sc x h n : Int) (w : World) (hx : U64 x) :
    Calls Tryz.prog 71 #[scv sc x h n] w fun e w' => e = .returned (.tuple #[ifv sc, .bool (decide (secOk sc x h n))]) ∧ Below w.heap.size w w' := by
  have hbb : Below w.heap.size w (w.alloc (.cells #[.int .i64 sc, .int .u64 x, .int .i64 h, .int .i64 n] 45)) := (Below.refl _ _).alloc (Nat.le_refl _) _
  by_cases h1 : sc = 1
  · subst h1
    have HV : Hid (decide (secOk 1 x h n) = decide (grpP x h n)) := by
      show _ = _
      exact decide_eq_decide.2 ⟨fun hh => hh.elim (fun a => a.2) (fun a => absurd a.1 (by decide)), fun hh => .inl ⟨rfl, hh⟩⟩
    have HI : Hid (ifv 1 = .iface 126 (.agg #[])) := rfl
    rw [HI.out, scv]
    go_enter Tryz.func71, Tryz.ntmps71
    go_wp2_with fail
    refine (schemeOf_1 _).mono ?_
    rintro e w2 ⟨rfl, rfl⟩
    go_wp2_with fail
    refine (groupSecretOk_any 1 x h n _ hx).mono ?_
    rintro e w3 ⟨rfl, hb3⟩
    go_wp2
    go_ret2
    exact ⟨by rw [HV.out]; rfl, keepT hbb hb3⟩
  by_cases h2 : sc = 2
  · subst h2
    have HV : Hid (decide (secOk 2 x h n) = decide (kP h n)) := by
      show _ = _
      exact decide_eq_decide.2 ⟨fun hh => hh.elim (fun a => absurd a.1 (by decide)) (fun a => a.2), fun hh => .inr ⟨rfl, hh⟩⟩
    have HI : Hid (ifv 2 = .iface 127 (.agg #[])) := rfl
    rw [HI.out, scv]
    go_enter Tryz.func71, Tryz.ntmps71
    go_wp2_with fail
    refine (schemeOf_2 _).mono ?_
    rintro e w2 ⟨rfl, rfl⟩
    go_wp2_with fail
    refine (treeSecretOk_any 2 x h n _).mono ?_
    rintro e w3 ⟨rfl, hb3⟩
    go_wp2
    go_ret2
    exact ⟨by rw [HV.out]; rfl, keepT hbb hb3⟩
  · have HV : Hid (decide (secOk sc x h n) = false) := decide_eq_false (fun hh => hh.elim (fun a => h1 a.1) (fun a => h2 a.1))
    have HI : Hid (ifv sc = .nilIface) := by show _ = _; unfold ifv; rw [if_neg h1, if_neg h2]
    rw [HI.out, scv]
    go_enter Tryz.func71, Tryz.ntmps71
    go_wp2_with fail
    refine (schemeOf_o sc _ h1 h2).mono ?_
    rintro e w2 ⟨rfl, rfl⟩
    go_wp2
    go_ret2
    exact ⟨by rw [HV.out]; rfl, hbb⟩

set_option maxRecDepth 10000 in
set_option maxHeartbeats 2000000 in
theorem l8SecretOk_any (sc x h n : Int) (w : World) (hx : U64 x) :
    Calls Tryz.prog 37 #[scv sc x h n] w fun e w' => e = .returned (.bool (decide (secOk sc x h n))) ∧ Below w.heap.size w w' := by
  have hbb : Below w.heap.size w (w.alloc (.cells #[.int .i64 sc, .int .u64 x, .int .i64 h, .int .i64 n] 45)) := (Below.refl _ _).alloc (Nat.le_refl _) _
  obtain ⟨hx0, hx1⟩ := hx
  rw [scv]
  by_cases h1 : sc = 1
  · subst h1
    by_cases a1 : 1 ≤ x
    · by_cases a2 : x < 500000003
      · by_cases a3 : h = 0
        · have z1 : (h == 0) = true := beq_iff_eq.2 a3
          by_cases a4 : n = 0
          · have z2 : (n == 0) = true := beq_iff_eq.2 a4
            have HV : Hid (decide (secOk 1 x h n) = true) := decide_eq_true (.inl ⟨rfl, ⟨a1, by omega⟩, a3, a4⟩)
            clear a3 a4
            go_enter Tryz.func37, Tryz.ntmps37
            go_wp2
            go_ret
            exact ⟨by rw [HV.out]; rfl, hbb⟩
          · have z2 : (n == 0) = false := beq_false_of_ne a4
            have HV : Hid (decide (secOk 1 x h n) = false) := decide_eq_false (fun hh => hh.elim (fun a => a4 a.2.2.2) (fun a => absurd a.1 (by decide)))
            clear a3 a4
            go_enter Tryz.func37, Tryz.ntmps37
            go_wp2
            go_ret
            exact ⟨by rw [HV.out]; rfl, hbb⟩
        · have z1 : (h == 0) = false := beq_false_of_ne a3
          have HV : Hid (decide (secOk 1 x h n) = false) := decide_eq_false (fun hh => hh.elim (fun a => a3 a.2.2.1) (fun a => absurd a.1 (by decide)))
          clear a3
          go_enter Tryz.func37, Tryz.ntmps37
          go_wp2
          go_ret
          exact ⟨by rw [HV.out]; rfl, hbb⟩
      · have a2' : decide (x < 500000003) = false := decide_eq_false a2
        have HV : Hid (decide (secOk 1 x h n) = false) := decide_eq_false (fun hh => hh.elim (fun a => by have := a.2.1.2; omega) (fun a => absurd a.1 (by decide)))
        go_enter Tryz.func37, Tryz.ntmps37
        go_wp2
        go_ret
        exact ⟨by rw [HV.out]; rfl, hbb⟩
    · have a1' : decide (1 ≤ x) = false := decide_eq_false a1
      have HV : Hid (decide (secOk 1 x h n) = false) := decide_eq_false (fun hh => hh.elim (fun a => a1 a.2.1.1) (fun a => absurd a.1 (by decide)))
      go_enter Tryz.func37, Tryz.ntmps37
      go_wp2
      go_ret
      exact ⟨by rw [HV.out]; rfl, hbb⟩
  have z1 : (sc == 1) = false := beq_false_of_ne h1
  by_cases h2 : sc = 2
  · subst h2
    have HV : Hid (decide (secOk 2 x h n) = decide (kP h n)) := by
      show _ = _
      exact decide_eq_decide.2 ⟨fun hh => hh.elim (fun a => absurd a.1 (by decide)) (fun a => a.2), fun hh => .inr ⟨rfl, hh⟩⟩
    clear h1
    go_enter Tryz.func37, Tryz.ntmps37
    go_wp2_with fail
    refine (l8Tree_any 2 x h n _).mono ?_
    rintro e w2 ⟨rfl, hb2⟩
    go_wp2_with fail
    refine (l8KeyOk_any x h n _).mono ?_
    rintro e w3 ⟨rfl, hb3⟩
    go_wp2
    go_ret
    exact ⟨by rw [HV.out]; rfl, keepT hbb (keepT hb2 hb3)⟩
  · have z2 : (sc == 2) = false := beq_false_of_ne h2
    have HV : Hid (decide (secOk sc x h n) = false) := decide_eq_false (fun hh => hh.elim (fun a => h1 a.1) (fun a => h2 a.1))
    clear h1 h2
    go_enter Tryz.func37, Tryz.ntmps37
    go_wp2
    go_ret
    exact ⟨by rw [HV.out]; rfl, hbb⟩

theorem results_se {fn : Func} {t : Tmp} (h : fn.results = #[.cell t 45]) (tmps : Array Value) (g : Nat) (ht : tmps.getD t undef = .pointer (some ⟨g, 0, none⟩)) (w : World) (c0 c1 c2 c3 : Value)
    (hb : w.heap[g]? = some (.cells #[c0, c1, c2, c3] 45 (0, 0))) : (results fn tmps).run Tryz.prog w = .ok (.agg #[c0, c1, c2, c3]) w := by
  have d0 : w.cell? ⟨g, 0, none⟩ = some c0 := (cell_of_row _ g 0 _ 45 (0, 0) hb).trans rfl
  have d1 : w.cell? ⟨g, 1, none⟩ = some c1 := (cell_of_row _ g 1 _ 45 (0, 0) hb).trans rfl
  have d2 : w.cell? ⟨g, 2, none⟩ = some c2 := (cell_of_row _ g 2 _ 45 (0, 0) hb).trans rfl
  have d3 : w.cell? ⟨g, 3, none⟩ = some c3 := (cell_of_row _ g 3 _ 45 (0, 0) hb).trans rfl
  clear hb
  have ht' : tmps[t]?.getD undef = .pointer (some ⟨g, 0, none⟩) := by rw [← ht]; simp
  simp [results, h, go_sem, ht', d0, d1, d2, d3]

set_option maxRecDepth 10000 in
set_option maxHeartbeats 1000000 in
theorem toSecret_any (a b c d : Int) (w : World) :
    Calls Tryz.prog 19 #[scv a b c d] w fun e w' => e = .returned (scv a b c d) ∧ Below w.heap.size w w' := by
  have b1 : ((((w.alloc (.cells #[.int .i64 a, .int .u64 b, .int .i64 c, .int .i64 d] 49)).alloc (.cells #[.int .i64 a, .int .u64 b, .int .i64 c, .int .i64 d] 45)).alloc (.cells #[.int .i64 a, .int .u64 b, .int .i64 c, .int .i64 d] 45))).heap[w.heap.size + 1]? = some (.cells #[.int .i64 a, .int .u64 b, .int .i64 c, .int .i64 d] 45) := by
    exact (alloc_oldT _ _ _ (by simp)).trans (two_blocks w _ _).2
  have HB1 : Hid (_ = _) := b1
  clear b1
  unfold scv
  go_enter Tryz.func19, Tryz.ntmps19
  go_wp2
  try simp only [Exit.inBlock, Exit.then]
  exact bodyPost_ret (results_se rfl _ (w.heap.size + 1) rfl _ _ _ _ _ HB1.out) rfl ⟨rfl, three_belowT _ _ _ _⟩

end Go.Proofs.YtgbjleapaioemaaGreat
