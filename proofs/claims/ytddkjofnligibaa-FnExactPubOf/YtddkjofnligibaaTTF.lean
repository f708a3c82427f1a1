import Derived.Test.YtddkjofnligibaaTTE
namespace Go.Proofs.Ytddkjofnligibaa
open Go.RowKit

def secOk (sc x h n : Int) : Prop := (sc = 1 ∧ grpP x h n) ∨ (sc = 2 ∧ kP h n)
instance (sc x h n : Int) : Decidable (secOk sc x h n) := by unfold secOk; infer_instance
def pubR (sc x h n : Int) : (Int × Int × Int) × Bool := if secOk sc x h n then ((if sc = 1 then (1, keyOf x, 0) else (2, rootN x h, h)), true) else ((0, 0, 0), false)
def ifv (sc : Int) : Value := if sc = 1 then .iface 122 (.agg #[]) else if sc = 2 then .iface 123 (.agg #[]) else .nilIface

set_option maxRecDepth 10000 in
set_option maxHeartbeats 2000000 in
theorem secretScheme_any (sc x h n : Int) (w : World) (hx : U64 x) :
    Calls Try.prog 63 #[scv sc x h n] w fun e w' => e = .returned (.tuple #[ifv sc, .bool (decide (secOk sc x h n))]) ∧ Below w.heap.size w w' := by
  have hbb : Below w.heap.size w (w.alloc (.cells #[.int .i64 sc, .int .u64 x, .int .i64 h, .int .i64 n] 54)) := (Below.refl _ _).alloc (Nat.le_refl _) _
  by_cases h1 : sc = 1
  · subst h1
    have HV : Hid (decide (secOk 1 x h n) = decide (grpP x h n)) := by
      show _ = _
      exact decide_eq_decide.2 ⟨fun hh => hh.elim (fun a => a.2) (fun a => absurd a.1 (by decide)), fun hh => .inl ⟨rfl, hh⟩⟩
    have HI : Hid (ifv 1 = .iface 122 (.agg #[])) := rfl
    rw [HI.out, scv]
    go_enter Try.func63, Try.ntmps63
    go_wp2_with fail
    refine (schemeOf_1 _).mono ?_
    rintro e w2 ⟨rfl, rfl⟩
    go_wp2_with fail
    refine (groupSecretOk_any 1 x h n _ hx).mono ?_
    rintro e w3 ⟨rfl, hb3⟩
    go_wp2
    go_ret2
    exact ⟨by rw [HV.out]; rfl, keepT hbb hb3⟩
  by_cases h2 : sc = 2
  · subst h2
    have HV : Hid (decide (secOk 2 x h n) = decide (kP h n)) := by
      show _ = _
      exact decide_eq_decide.2 ⟨fun hh => hh.elim (fun a => absurd a.1 (by decide)) (fun a => a.2), fun hh => .inr ⟨rfl, hh⟩⟩
    have HI : Hid (ifv 2 = .iface 123 (.agg #[])) := rfl
    rw [HI.out, scv]
    go_enter Try.func63, Try.ntmps63
    go_wp2_with fail
    refine (schemeOf_2 _).mono ?_
    rintro e w2 ⟨rfl, rfl⟩
    go_wp2_with fail
    refine (treeSecretOk_any 2 x h n _).mono ?_
    rintro e w3 ⟨rfl, hb3⟩
    go_wp2
    go_ret2
    exact ⟨by rw [HV.out]; rfl, keepT hbb hb3⟩
  · have HV : Hid (decide (secOk sc x h n) = false) := decide_eq_false (fun hh => hh.elim (fun a => h1 a.1) (fun a => h2 a.1))
    have HI : Hid (ifv sc = .nilIface) := by show _ = _; unfold ifv; rw [if_neg h1, if_neg h2]
    rw [HI.out, scv]
    go_enter Try.func63, Try.ntmps63
    go_wp2_with fail
    refine (schemeOf_o sc _ h1 h2).mono ?_
    rintro e w2 ⟨rfl, rfl⟩
    go_wp2
    go_ret2
    exact ⟨by rw [HV.out]; rfl, hbb⟩

set_option maxRecDepth 10000 in
set_option maxHeartbeats 2000000 in
theorem l8SecretOk_any (sc x h n : Int) (w : World) (hx : U64 x) :
    Calls Try.prog 60 #[scv sc x h n] w fun e w' => e = .returned (.bool (decide (secOk sc x h n))) ∧ Below w.heap.size w w' := by
  have hbb : Below w.heap.size w (w.alloc (.cells #[.int .i64 sc, .int .u64 x, .int .i64 h, .int .i64 n] 54)) := (Below.refl _ _).alloc (Nat.le_refl _) _
  obtain ⟨hx0, hx1⟩ := hx
  rw [scv]
  by_cases h1 : sc = 1
  · subst h1
    by_cases a1 : 1 ≤ x
    · by_cases a2 : x < 500000003
      · by_cases a3 : h = 0
        · have z1 : (h == 0) = true := beq_iff_eq.2 a3
          by_cases a4 : n = 0
          · have z2 : (n == 0) = true := beq_iff_eq.2 a4
            have HV : Hid (decide (secOk 1 x h n) = true) := decide_eq_true (.inl ⟨rfl, ⟨a1, by omega⟩, a3, a4⟩)
            clear a3 a4
            go_enter Try.func60, Try.ntmps60
            go_wp2
            go_ret
            exact ⟨by rw [HV.out]; rfl, hbb⟩
          · have z2 : (n == 0) = false := beq_false_of_ne a4
            have HV : Hid (decide (secOk 1 x h n) = false) := decide_eq_false (fun hh => hh.elim (fun a => a4 a.2.2.2) (fun a => absurd a.1 (by decide)))
            clear a3 a4
            go_enter Try.func60, Try.ntmps60
            go_wp2
            go_ret
            exact ⟨by rw [HV.out]; rfl, hbb⟩
        · have z1 : (h == 0) = false := beq_false_of_ne a3
          have HV : Hid (decide (secOk 1 x h n) = false) := decide_eq_false (fun hh => hh.elim (fun a => a3 a.2.2.1) (fun a => absurd a.1 (by decide)))
          clear a3
          go_enter Try.func60, Try.ntmps60
          go_wp2
          go_ret
          exact ⟨by rw [HV.out]; rfl, hbb⟩
      · have a2' : decide (x < 500000003) = false := decide_eq_false a2
        have HV : Hid (decide (secOk 1 x h n) = false) := decide_eq_false (fun hh => hh.elim (fun a => by have := a.2.1.2; omega) (fun a => absurd a.1 (by decide)))
        go_enter Try.func60, Try.ntmps60
        go_wp2
        go_ret
        exact ⟨by rw [HV.out]; rfl, hbb⟩
    · have a1' : decide (1 ≤ x) = false := decide_eq_false a1
      have HV : Hid (decide (secOk 1 x h n) = false) := decide_eq_false (fun hh => hh.elim (fun a => a1 a.2.1.1) (fun a => absurd a.1 (by decide)))
      go_enter Try.func60, Try.ntmps60
      go_wp2
      go_ret
      exact ⟨by rw [HV.out]; rfl, hbb⟩
  have z1 : (sc == 1) = false := beq_false_of_ne h1
  by_cases h2 : sc = 2
  · subst h2
    have HV : Hid (decide (secOk 2 x h n) = decide (kP h n)) := by
      show _ = _
      exact decide_eq_decide.2 ⟨fun hh => hh.elim (fun a => absurd a.1 (by decide)) (fun a => a.2), fun hh => .inr ⟨rfl, hh⟩⟩
    clear h1
    go_enter Try.func60, Try.ntmps60
    go_wp2_with fail
    refine (l8Tree_any 2 x h n _).mono ?_
    rintro e w2 ⟨rfl, hb2⟩
    go_wp2_with fail
    refine (l8KeyOk_any x h n _).mono ?_
    rintro e w3 ⟨rfl, hb3⟩
    go_wp2
    go_ret
    exact ⟨by rw [HV.out]; rfl, keepT hbb (keepT hb2 hb3)⟩
  · have z2 : (sc == 2) = false := beq_false_of_ne h2
    have HV : Hid (decide (secOk sc x h n) = false) := decide_eq_false (fun hh => hh.elim (fun a => h1 a.1) (fun a => h2 a.1))
    clear h1 h2
    go_enter Try.func60, Try.ntmps60
    go_wp2
    go_ret
    exact ⟨by rw [HV.out]; rfl, hbb⟩

set_option maxRecDepth 10000 in
set_option maxHeartbeats 2000000 in
theorem implPubOf_any (sc x h n : Int) (w : World) (hx : U64 x) :
    Calls Try.prog 27 #[scv sc x h n] w fun e w' => e = .returned (.tuple #[pbv (pubR sc x h n).1, .bool (pubR sc x h n).2]) ∧ Below w.heap.size w w' := by
  obtain ⟨w1, hw1⟩ : ∃ w1, w1 = (w.alloc (.cells #[.int .i64 sc, .int .u64 x, .int .i64 h, .int .i64 n] 54)).alloc (.cells #[.int .i64 0, .int .u64 0, .int .i64 0] 51) := ⟨_, rfl⟩
  have hbb : Below w.heap.size w w1 := by rw [hw1]; exact two_below _ _ _
  have HPX : Hid (∀ w7, Below w1.heap.size w1 w7 → w7.heap[w.heap.size + 1]? = some (.cells #[.int .i64 0, .int .u64 0, .int .i64 0] 51)) := fun w7 h7 => (h7.block _ (by rw [hw1]; simp)).trans (by rw [hw1]; exact (two_blocks w _ _).2)
  have HSX : Hid (∀ w7, Below w1.heap.size w1 w7 → w7.heap[w.heap.size]? = some (.cells #[.int .i64 sc, .int .u64 x, .int .i64 h, .int .i64 n] 54)) := fun w7 h7 => (h7.block _ (by rw [hw1]; simp; omega)).trans (by rw [hw1]; exact (two_blocks w _ _).1)
  have HW : Hid (_ = _) := hw1
  clear hw1
  rw [scv]
  go_enter Try.func27, Try.ntmps27
  go_wp2_with fail
  rw [← HW.out]
  clear HW
  refine (secretScheme_any sc x h n _ hx).mono ?_
  rintro e w2 ⟨rfl, hb2⟩
  have hs := HSX.out _ hb2
  have s0 : w2.cell? ⟨w.heap.size, 0, none⟩ = some (.int .i64 sc) := (cell_of_row _ _ 0 _ 54 (0, 0) hs).trans rfl
  have s1 : w2.cell? ⟨w.heap.size, 1, none⟩ = some (.int .u64 x) := (cell_of_row _ _ 1 _ 54 (0, 0) hs).trans rfl
  have s2 : w2.cell? ⟨w.heap.size, 2, none⟩ = some (.int .i64 h) := (cell_of_row _ _ 2 _ 54 (0, 0) hs).trans rfl
  have s3 : w2.cell? ⟨w.heap.size, 3, none⟩ = some (.int .i64 n) := (cell_of_row _ _ 3 _ 54 (0, 0) hs).trans rfl
  clear hs
  by_cases hk : secOk sc x h n
  · rw [decide_eq_true hk]
    by_cases h1 : sc = 1
    · subst h1
      have hg : grpP x h n := hk.elim (fun a => a.2) (fun a => absurd a.1 (by decide))
      have HR : Hid (pubR 1 x h n = ((1, keyOf x, 0), true)) := by show _ = _; unfold pubR; rw [if_pos hk, if_pos rfl]
      have HI : Hid (ifv 1 = .iface 122 (.agg #[])) := rfl
      rw [HI.out]
      go_wp2_with fail
      refine (groupPubOf_any 1 x h n _ hg.1).mono ?_
      rintro e w3 ⟨rfl, hb3⟩
      rw [pbv]
      obtain ⟨v, hv⟩ : ∃ v, v = keyOf x := ⟨_, rfl⟩
      rw [← hv] at HR ⊢
      clear hv s0 s1 s2 s3
      have hb37 := keepT hb2 hb3
      have hbx := HPX.out _ hb37
      have c0 : w3.cell? ⟨w.heap.size + 1, 0, none⟩ = some (.int .i64 0) := (cell_of_row _ _ 0 _ 51 (0, 0) hbx).trans rfl
      have c1 : w3.cell? ⟨w.heap.size + 1, 1, none⟩ = some (.int .u64 0) := (cell_of_row _ _ 1 _ 51 (0, 0) hbx).trans rfl
      have c2 : w3.cell? ⟨w.heap.size + 1, 2, none⟩ = some (.int .i64 0) := (cell_of_row _ _ 2 _ 51 (0, 0) hbx).trans rfl
      have f0 : w3.frozen? ⟨w.heap.size + 1, 0, none⟩ = false := frozen_of_row w3 _ 0 _ 51 hbx
      have f1 : w3.frozen? ⟨w.heap.size + 1, 1, none⟩ = false := frozen_of_row w3 _ 1 _ 51 hbx
      have f2 : w3.frozen? ⟨w.heap.size + 1, 2, none⟩ = false := frozen_of_row w3 _ 2 _ 51 hbx
      have HBX : Hid (_ = _) := hbx
      have hB3 := keepT hbb hb37
      clear hbx
      go_wp2
      try simp only [Exit.inBlock, Exit.then]
      refine bodyPost_ret (results_pb2 rfl _ (w.heap.size + 1) rfl _ rfl _ _ _ _ (heap_set3 HBX.out _ _ _)) rfl ⟨?_, below_set3T hB3 _ (by omega) _ _ _⟩
      rw [HR.out]
      rfl
    · obtain ⟨rfl, hkk⟩ : sc = 2 ∧ kP h n := hk.elim (fun a => absurd a.1 h1) (fun a => a)
      have HR : Hid (pubR 2 x h n = ((2, rootN x h, h), true)) := by show _ = _; unfold pubR; rw [if_pos hk, if_neg (by decide)]
      have HI : Hid (ifv 2 = .iface 123 (.agg #[])) := rfl
      rw [HI.out]
      go_wp2_with fail
      refine (treePubOf_any 2 x h n _ hx hkk).mono ?_
      rintro e w3 ⟨rfl, hb3⟩
      rw [pbv]
      obtain ⟨v, hv⟩ : ∃ v, v = rootN x h := ⟨_, rfl⟩
      rw [← hv] at HR ⊢
      clear hv s0 s1 s2 s3
      have hb37 := keepT hb2 hb3
      have hbx := HPX.out _ hb37
      have c0 : w3.cell? ⟨w.heap.size + 1, 0, none⟩ = some (.int .i64 0) := (cell_of_row _ _ 0 _ 51 (0, 0) hbx).trans rfl
      have c1 : w3.cell? ⟨w.heap.size + 1, 1, none⟩ = some (.int .u64 0) := (cell_of_row _ _ 1 _ 51 (0, 0) hbx).trans rfl
      have c2 : w3.cell? ⟨w.heap.size + 1, 2, none⟩ = some (.int .i64 0) := (cell_of_row _ _ 2 _ 51 (0, 0) hbx).trans rfl
      have f0 : w3.frozen? ⟨w.heap.size + 1, 0, none⟩ = false := frozen_of_row w3 _ 0 _ 51 hbx
      have f1 : w3.frozen? ⟨w.heap.size + 1, 1, none⟩ = false := frozen_of_row w3 _ 1 _ 51 hbx
      have f2 : w3.frozen? ⟨w.heap.size + 1, 2, none⟩ = false := frozen_of_row w3 _ 2 _ 51 hbx
      have HBX : Hid (_ = _) := hbx
      have hB3 := keepT hbb hb37
      clear hbx
      go_wp2
      try simp only [Exit.inBlock, Exit.then]
      refine bodyPost_ret (results_pb2 rfl _ (w.heap.size + 1) rfl _ rfl _ _ _ _ (heap_set3 HBX.out _ _ _)) rfl ⟨?_, below_set3T hB3 _ (by omega) _ _ _⟩
      rw [HR.out]
      rfl
  · have HR : Hid (pubR sc x h n = ((0, 0, 0), false)) := by show _ = _; unfold pubR; rw [if_neg hk]
    rw [decide_eq_false hk]
    obtain ⟨iv, hiv⟩ : ∃ iv, iv = ifv sc := ⟨_, rfl⟩
    rw [← hiv]
    clear hiv s0 s1 s2 s3
    have hbx := HPX.out _ hb2
    have c0 : w2.cell? ⟨w.heap.size + 1, 0, none⟩ = some (.int .i64 0) := (cell_of_row _ _ 0 _ 51 (0, 0) hbx).trans rfl
    have c1 : w2.cell? ⟨w.heap.size + 1, 1, none⟩ = some (.int .u64 0) := (cell_of_row _ _ 1 _ 51 (0, 0) hbx).trans rfl
    have c2 : w2.cell? ⟨w.heap.size + 1, 2, none⟩ = some (.int .i64 0) := (cell_of_row _ _ 2 _ 51 (0, 0) hbx).trans rfl
    have f0 : w2.frozen? ⟨w.heap.size + 1, 0, none⟩ = false := frozen_of_row w2 _ 0 _ 51 hbx
    have f1 : w2.frozen? ⟨w.heap.size + 1, 1, none⟩ = false := frozen_of_row w2 _ 1 _ 51 hbx
    have f2 : w2.frozen? ⟨w.heap.size + 1, 2, none⟩ = false := frozen_of_row w2 _ 2 _ 51 hbx
    have HBX : Hid (_ = _) := hbx
    have hB3 := keepT hbb hb2
    clear hbx
    go_wp2
    try simp only [Exit.inBlock, Exit.then]
    refine bodyPost_ret (results_pb2 rfl _ (w.heap.size + 1) rfl _ rfl _ _ _ _ (heap_set3 HBX.out _ _ _)) rfl ⟨?_, below_set3T hB3 _ (by omega) _ _ _⟩
    rw [HR.out]
    rfl

end Go.Proofs.Ytddkjofnligibaa
