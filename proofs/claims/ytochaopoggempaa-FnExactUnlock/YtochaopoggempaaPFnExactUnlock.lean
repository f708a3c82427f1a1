import Derived.Test.YtochaopoggempaaRows
import Derived.Test.YtochaopoggempaaLUnlock
import Derived.WalkKit
import Derived.ProofKit
import Derived.OpenShut
import Derived.ShutString
import Derived.ChangeOld
import Derived.Below
import Derived.Deep.Slices
import Derived.ChangeArms
import Derived.ChangeSlices
namespace Go.Proofs.Ytochaopoggempaa.fnExactUnlock
open Go.ChangeShapes Go.WideShapes Go.ChangeAt Go.RowKit
open Go.ChangeMaps (open_string shut_string)
set_option linter.unusedVariables false

theorem own : ownKnob Try.prog.godebug = none := by kernel_rfl
theorem laidOut : laidOutB Try.prog = true := by kernel_rfl

theorem walk (s0a0 : Option Addr) (s0n0 s0c0 : Nat) (s0z0 : List Int) (s0v1 : Int) (s0a2 : Option Addr) (s0n2 s0c2 : Nat) (s0z2 : List Int) (s0v3 : Int) (a1 : ByteArray) (w : World) (w0 : (Row w s0a0 s0n0 s0z0 ∧ s0n0 ≤ 9223372036854775807) ∧ (Lit.int .i64 s0v1).wf = true ∧ (Row w s0a2 s0n2 s0z2 ∧ s0n2 ≤ 9223372036854775807) ∧ (Lit.int .u64 s0v3).wf = true) (w1 : a1.size ≤ maxLen) :
    Calls Try.prog 5 #[.agg #[.slice s0a0 s0n0 s0c0, .int .i64 s0v1, .slice s0a2 s0n2 s0c2, .int .u64 s0v3], .string a1] w fun e w' => e = .returned (.bool true) ∧ Below w.heap.size w w' :=
  lawUnlock_walk s0a0 s0n0 s0c0 s0v1 s0a2 s0n2 s0c2 s0v3 s0z0 s0z2 a1 w w0.1.1 w0.2.2.1.1 w0.1.2 w0.2.2.1.2

theorem open_rowB {H : Type} {enc : TypeId × Value → H} {W : World} {fuel : Nat} {cs : List Value} {x : DataW H × List MemPlace} (h : DataW.trod enc Try.prog W 0 (fun _ => true) true fuel 22 cs = some x) :
    ∃ a n cap zs, cs = [.slice a n cap] ∧ Row W a n zs ∧ n ≤ 9223372036854775807 := by
  rcases open_ints Try.underlying22 Try.underlying5 (by kernel_rfl) h with ⟨rfl, _⟩ | ⟨a, len, cap, zs, rfl, _, hl, hm, hz, _, hc, hwz⟩
  · exact ⟨none, 0, 0, [], rfl, ⟨rfl, fun k hk => absurd hk (Nat.not_lt_zero _), by simp⟩, by decide⟩
  · obtain ⟨h1, h2⟩ := IsRow.row (.inr ⟨_, rfl, hl, hm, by simpa using hz, hc, hwz⟩ : IsRow .u8 W (some a) len cap zs)
    exact ⟨some a, len, cap, zs.take len, rfl, h1, by unfold maxLen at h2; omega⟩

set_option maxRecDepth 20000 in
theorem open_laws_Store {H : Type} {enc : TypeId × Value → H} {W : World} {fuel : Nat} {cs : List Value} {x : DataW H × List MemPlace} (h : DataW.trod enc Try.prog W 0 (fun _ => true) true fuel 36 cs = some x) :
    ∃ (qa0 : Option Addr) (qn0 qc0 : Nat) (qz0 : List Int) (qv1 : Int) (qa2 : Option Addr) (qn2 qc2 : Nat) (qz2 : List Int) (qv3 : Int), cs = [.slice qa0 qn0 qc0, .int .i64 qv1, .slice qa2 qn2 qc2, .int .u64 qv3] ∧ (Row W qa0 qn0 qz0 ∧ qn0 ≤ 9223372036854775807) ∧ (Lit.int .i64 qv1).wf = true ∧ (Row W qa2 qn2 qz2 ∧ qn2 ≤ 9223372036854775807) ∧ (Lit.int .u64 qv3).wf = true := by
  obtain ⟨xs, m, rfl, _, hl, hxl, hf⟩ := DataW.trod_struct Try.underlying36 h
  have hl2 : cs.length = 4 := hl.trans (by kernel_rfl)
  have hx2 : xs.length = 4 := hxl
  obtain ⟨c0, c1, c2, c3, rfl⟩ : ∃ c0 c1 c2 c3, cs = [c0, c1, c2, c3] := by
    match cs, hl2 with
    | [c0, c1, c2, c3], _ => exact ⟨c0, c1, c2, c3, rfl⟩
  obtain ⟨x0, x1, x2, x3, rfl⟩ : ∃ c0 c1 c2 c3, xs = [c0, c1, c2, c3] := by
    match xs, hx2 with
    | [c0, c1, c2, c3], _ => exact ⟨c0, c1, c2, c3, rfl⟩
  have e_bytes : Try.prog.cellsOf 22 = 1 := by kernel_rfl
  have e_i64 : Try.prog.cellsOf 2 = 1 := by kernel_rfl
  have e_u64 : Try.prog.cellsOf 23 = 1 := by kernel_rfl
  have f0 : DataW.trod enc Try.prog W 0 (fun _ => true) true m 22 ((([c0, c1, c2, c3] : List Value).drop 0).take (Try.prog.cellsOf 22)) = some x0 := hf 0 _ rfl
  rw [e_bytes] at f0
  obtain ⟨qa0, qn0, qc0, qz0, g0, u0⟩ := open_rowB f0
  have f1 : DataW.trod enc Try.prog W 0 (fun _ => true) true m 2 ((([c0, c1, c2, c3] : List Value).drop 1).take (Try.prog.cellsOf 2)) = some x1 := hf 1 _ rfl
  rw [e_i64] at f1
  obtain ⟨qv1, g1, _, u1⟩ := DataW.trod_int Try.underlying2 f1
  have f2 : DataW.trod enc Try.prog W 0 (fun _ => true) true m 22 ((([c0, c1, c2, c3] : List Value).drop 2).take (Try.prog.cellsOf 22)) = some x2 := hf 2 _ rfl
  rw [e_bytes] at f2
  obtain ⟨qa2, qn2, qc2, qz2, g2, u2⟩ := open_rowB f2
  have f3 : DataW.trod enc Try.prog W 0 (fun _ => true) true m 23 ((([c0, c1, c2, c3] : List Value).drop 3).take (Try.prog.cellsOf 23)) = some x3 := hf 3 _ rfl
  rw [e_u64] at f3
  obtain ⟨qv3, g3, _, u3⟩ := DataW.trod_int Try.underlying23 f3
  simp at g0 g1 g2 g3
  subst g0 g1 g2 g3
  exact ⟨qa0, qn0, qc0, qz0, qv1, qa2, qn2, qc2, qz2, qv3, rfl, u0, u1, u2, u3⟩

set_option maxRecDepth 100000 in
theorem lifted (os : Os) (started : os.Started) (H : Type) (enc : TypeId × Value → H) :
    ReturnsInHanded {} Try.checked os 5 .any (Rows.fnExactUnlockSpec.pre6 enc Try.prog Try.f5 Rows.fnExactUnlockRow.domain false) (Rows.fnExactUnlockSpec.post enc Try.prog Try.f5 false true false false) := by
  refine returnsInHanded_of_change (C := Try.checked) own started (by kernel_rfl) Try.func5
    (ChangeSpec.witness6 (enc := enc) (C := Try.checked) false ⟨#[], #[.agg #[.slice none 0 0, .int .i64 0, .slice none 0 0, .int .u64 0], .string ByteArray.empty], []⟩ 8 (by kernel_rfl) (by kernel_rfl) (by kernel_rfl) (by kernel_rfl)) ?_
  intro W base args ds gs before hval0 hW hcnd _
  have hval : ∀ (j : Nat) t v, Try.f5.params[j]? = some t → args[j]? = some v → Value.okWide Try.prog W .any base t v := hval0
  have hW' := hW
  obtain ⟨p, q, hA0, hV, rfl, hfz, hnd⟩ := hW
  have hA : DataW.TrodAll enc Try.prog W 0 (fun _ => true) true Try.f5.params.toList args.toList ds p := hA0
  rw [Try.params5] at hA hval
  obtain ⟨v0, vs0, d0, ds0, p0, q0, hargs, rfl, rfl, h0, r0⟩ := trodAll_cons hA
  obtain ⟨v1, vs1, d1, ds1, p1, q1, rfl, rfl, rfl, h1, r1⟩ := trodAll_cons r0
  obtain ⟨rfl, rfl, rfl⟩ := trodAll_nil r1
  obtain rfl : args = #[v0, v1] := by cases args; simp_all
  obtain ⟨rfl, rfl⟩ := trodVars_none hV
  obtain ⟨cs0, rfl, hcs0⟩ := okWide_struct Try.underlying36 (hval 0 36 v0 rfl rfl)
  have k0 := h0
  have lt0 : ∀ x ∈ p0, x.block < W.heap.size := by obtain ⟨m, hm⟩ := k0; exact DataW.trod_lt m _ _ _ hm
  obtain ⟨s0a0, s0n0, s0c0, s0z0, s0v1, s0a2, s0n2, s0c2, s0z2, s0v3, hl0, w0⟩ : ∃ (s0a0 : Option Addr) (s0n0 s0c0 : Nat) (s0z0 : List Int) (s0v1 : Int) (s0a2 : Option Addr) (s0n2 s0c2 : Nat) (s0z2 : List Int) (s0v3 : Int), cs0.toList = [.slice s0a0 s0n0 s0c0, .int .i64 s0v1, .slice s0a2 s0n2 s0c2, .int .u64 s0v3] ∧ (Row W s0a0 s0n0 s0z0 ∧ s0n0 ≤ 9223372036854775807) ∧ (Lit.int .i64 s0v1).wf = true ∧ (Row W s0a2 s0n2 s0z2 ∧ s0n2 ≤ 9223372036854775807) ∧ (Lit.int .u64 s0v3).wf = true := by
    obtain ⟨fuel, hf⟩ := h0
    exact open_laws_Store hf
  obtain rfl : cs0 = #[.slice s0a0 s0n0 s0c0, .int .i64 s0v1, .slice s0a2 s0n2 s0c2, .int .u64 s0v3] := by
    cases cs0; simp_all
  obtain ⟨a1, rfl, rfl, rfl, w1⟩ := open_string Try.underlying9 (hval 1 9 v1 rfl rfl) h1
  clear hA0 hval0
  refine (walk s0a0 s0n0 s0c0 s0z0 s0v1 s0a2 s0n2 s0c2 s0z2 s0v3 a1 W w0 w1).mono fun e W' ⟨he, bel⟩ => ?_
  subst he
  exact ⟨_, rfl, _, _, _, [], _, [], hW', trodAll_mk1 (shut_bool Try.underlying4 _), (trodAll_cons_mk (Below.trod laidOut (by kernel_rfl) (of_decide_eq_true (by kernel_rfl)) k0 bel lt0) (trodAll_cons_mk (shut_string Try.underlying9 w1) trodAll_mk0)), rfl, bel.frame _, fun h => by cases h⟩

theorem over : Rows.fnExactUnlockRow.holds Try.pinned (OpenSpec.ofChange Rows.fnExactUnlockSpec) :=
  OpenClaim.holds_of_wide 5 Try.f5 rfl rfl rfl rfl rfl rfl rfl ⟨rfl, rfl, rfl, rfl, rfl⟩ rfl rfl rfl rfl rfl (by kernel_rfl) Try.func5 (by kernel_rfl)
    (of_decide_eq_true (by kernel_rfl)) (by unfold Func.isWrapper; first | (rw [if_pos (by decide +kernel)]; kernel_rfl) | (rw [if_neg (by decide +kernel)]; exact ⟨rfl, rfl⟩))
    (fun os started H enc _ => lifted os started H enc)

theorem proved : Rows.FnExactUnlockSaid := over
end Go.Proofs.Ytochaopoggempaa.fnExactUnlock
namespace Go.Proofs.Ytochaopoggempaa
theorem fnExactUnlock_holds : Rows.FnExactUnlockSaid := fnExactUnlock.proved
#print axioms fnExactUnlock_holds
end Go.Proofs.Ytochaopoggempaa
