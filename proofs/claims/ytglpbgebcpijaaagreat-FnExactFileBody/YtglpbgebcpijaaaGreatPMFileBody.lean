import Derived.Test.YtglpbgebcpijaaaGreatRows
import Derived.Test.YtglpbgebcpijaaaGreatMTN
import Derived.Test.YtglpbgebcpijaaaGreatMOP
import Derived.WalkKit
import Derived.ProofKit
import Derived.OpenShut
import Derived.ShutString
import Derived.ChangeOld
import Derived.Below
import Derived.Deep.Slices
import Derived.ChangeArms
import Derived.ChangeSlices
namespace Go.Proofs.YtglpbgebcpijaaaGreat.fnExactFileBody
open Go.ChangeShapes Go.WideShapes Go.ChangeAt Go.RowKit
set_option linter.unusedVariables false

theorem own : ownKnob Tryz.prog.godebug = none := by kernel_rfl
theorem laidOut : laidOutB Tryz.prog = true := by kernel_rfl

theorem walk (x0 : TfP) (b0_0 : Option Addr) (n0_0 c0_0 : Nat) (b0_1 : Option Addr) (n0_1 c0_1 : Nat) (b0_2 : Option Addr) (n0_2 c0_2 : Nat) (b0_3 : Option Addr) (n0_3 c0_3 : Nat) (b0_4 : Option Addr) (n0_4 c0_4 : Nat) (w : World) (w0 : TfR x0 b0_0 n0_0 b0_1 n0_1 b0_2 n0_2 b0_3 n0_3 b0_4 n0_4 w) :
    Calls Tryz.prog 3 #[.agg #[.int .i64 x0.k, .int .i64 x0.r.v, .int .i64 x0.r.e, .slice b0_0 n0_0 c0_0, .slice b0_1 n0_1 c0_1, .int .i64 x0.s.v, .int .i64 x0.s.e, .int .i64 x0.s.lv, .int .u64 x0.s.lh, .slice b0_2 n0_2 c0_2, .int .i64 x0.l.v, .int .i64 x0.l.e, .slice b0_3 n0_3 c0_3, .slice b0_4 n0_4 c0_4]] w fun e w' => e = .returned (.bool true) ∧ Below w.heap.size w w' :=
  lawFileBody_walk x0 b0_0 n0_0 c0_0 b0_1 n0_1 c0_1 b0_2 n0_2 c0_2 b0_3 n0_3 c0_3 b0_4 n0_4 c0_4 w w0

set_option maxRecDepth 100000 in
theorem lifted (os : Os) (started : os.Started) (H : Type) (enc : TypeId × Value → H) :
    ReturnsInHanded {} Tryz.checked os 3 .any (Rows.fnExactFileBodySpec.pre6 enc Tryz.prog Tryz.f3 Rows.fnExactFileBodyRow.domain false) (Rows.fnExactFileBodySpec.post enc Tryz.prog Tryz.f3 false true false false) := by
  refine returnsInHanded_of_change (C := Tryz.checked) own started (by kernel_rfl) Tryz.func3
    (ChangeSpec.witness6 (enc := enc) (C := Tryz.checked) false ⟨#[], #[.agg #[.int .i64 0, .int .i64 0, .int .i64 0, .slice none 0 0, .slice none 0 0, .int .i64 0, .int .i64 0, .int .i64 0, .int .u64 0, .slice none 0 0, .int .i64 0, .int .i64 0, .slice none 0 0, .slice none 0 0]], []⟩ 8 (by kernel_rfl) (by kernel_rfl) (by kernel_rfl) (by kernel_rfl)) ?_
  intro W base args ds gs before hval0 hW hcnd _
  have hval : ∀ (j : Nat) t v, Tryz.f3.params[j]? = some t → args[j]? = some v → Value.okWide Tryz.prog W .any base t v := hval0
  have hW' := hW
  obtain ⟨p, q, hA0, hV, rfl, hfz, hnd⟩ := hW
  have hA : DataW.TrodAll enc Tryz.prog W 0 (fun _ => true) true Tryz.f3.params.toList args.toList ds p := hA0
  rw [Tryz.params3] at hA hval
  obtain ⟨v0, vs0, d0, ds0, p0, q0, hargs, rfl, rfl, h0, r0⟩ := trodAll_cons hA
  obtain ⟨rfl, rfl, rfl⟩ := trodAll_nil r0
  obtain rfl : args = #[v0] := by cases args; simp_all
  obtain ⟨rfl, rfl⟩ := trodVars_none hV
  obtain ⟨vm0, rfl, hcs0⟩ := okWide_struct Tryz.underlying33 (hval 0 33 v0 rfl rfl)
  have k0 := h0
  have lt0 : ∀ x ∈ p0, x.block < W.heap.size := by obtain ⟨m, hm⟩ := k0; exact DataW.trod_lt m _ _ _ hm
  obtain ⟨x0, b0_0, n0_0, c0_0, b0_1, n0_1, c0_1, b0_2, n0_2, c0_2, b0_3, n0_3, c0_3, b0_4, n0_4, c0_4, hl0, w0⟩ : ∃ (x0 : TfP) (b0_0 : Option Addr) (n0_0 c0_0 : Nat) (b0_1 : Option Addr) (n0_1 c0_1 : Nat) (b0_2 : Option Addr) (n0_2 c0_2 : Nat) (b0_3 : Option Addr) (n0_3 c0_3 : Nat) (b0_4 : Option Addr) (n0_4 c0_4 : Nat), vm0.toList = [.int .i64 x0.k, .int .i64 x0.r.v, .int .i64 x0.r.e, .slice b0_0 n0_0 c0_0, .slice b0_1 n0_1 c0_1, .int .i64 x0.s.v, .int .i64 x0.s.e, .int .i64 x0.s.lv, .int .u64 x0.s.lh, .slice b0_2 n0_2 c0_2, .int .i64 x0.l.v, .int .i64 x0.l.e, .slice b0_3 n0_3 c0_3, .slice b0_4 n0_4 c0_4] ∧ TfR x0 b0_0 n0_0 b0_1 n0_1 b0_2 n0_2 b0_3 n0_3 b0_4 n0_4 W := by
    obtain ⟨fuel, hf⟩ := h0
    exact open_tf hf
  obtain rfl : vm0 = #[.int .i64 x0.k, .int .i64 x0.r.v, .int .i64 x0.r.e, .slice b0_0 n0_0 c0_0, .slice b0_1 n0_1 c0_1, .int .i64 x0.s.v, .int .i64 x0.s.e, .int .i64 x0.s.lv, .int .u64 x0.s.lh, .slice b0_2 n0_2 c0_2, .int .i64 x0.l.v, .int .i64 x0.l.e, .slice b0_3 n0_3 c0_3, .slice b0_4 n0_4 c0_4] := by
    cases vm0; simp_all
  clear hA0 hval0
  refine (walk x0 b0_0 n0_0 c0_0 b0_1 n0_1 c0_1 b0_2 n0_2 c0_2 b0_3 n0_3 c0_3 b0_4 n0_4 c0_4 W w0).mono fun e W' ⟨he, bel⟩ => ?_
  subst he
  exact ⟨_, rfl, _, _, _, [], _, [], hW', trodAll_mk1 (shut_bool Tryz.underlying4 _), (trodAll_cons_mk (Below.trod laidOut (by kernel_rfl) (of_decide_eq_true (by kernel_rfl)) k0 bel lt0) trodAll_mk0), rfl, bel.frame _, fun h => by cases h⟩

theorem over : Rows.fnExactFileBodyRow.holds Tryz.pinned (OpenSpec.ofChange Rows.fnExactFileBodySpec) :=
  OpenClaim.holds_of_wide 3 Tryz.f3 rfl rfl rfl rfl rfl rfl rfl ⟨rfl, rfl, rfl, rfl, rfl⟩ rfl rfl rfl rfl rfl (by kernel_rfl) Tryz.func3 (by kernel_rfl)
    (of_decide_eq_true (by kernel_rfl)) (by unfold Func.isWrapper; first | (rw [if_pos (by decide +kernel)]; kernel_rfl) | (rw [if_neg (by decide +kernel)]; exact ⟨rfl, rfl⟩))
    (fun os started H enc _ => lifted os started H enc)

theorem proved : Rows.FnExactFileBodySaid := over
end Go.Proofs.YtglpbgebcpijaaaGreat.fnExactFileBody
namespace Go.Proofs.YtglpbgebcpijaaaGreat
theorem fnExactFileBody_holds : Rows.FnExactFileBodySaid := fnExactFileBody.proved
#print axioms fnExactFileBody_holds
end Go.Proofs.YtglpbgebcpijaaaGreat

