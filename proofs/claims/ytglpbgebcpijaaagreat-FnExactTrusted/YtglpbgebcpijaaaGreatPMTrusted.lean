import Derived.Test.YtglpbgebcpijaaaGreatRows
import Derived.Test.YtglpbgebcpijaaaGreatMTN
import Derived.Test.YtglpbgebcpijaaaGreatMOP
import Derived.WalkKit
import Derived.ProofKit
import Derived.OpenShut
import Derived.ShutString
import Derived.ChangeOld
import Derived.Below
import Derived.Deep.Slices
import Derived.ChangeArms
import Derived.ChangeSlices
namespace Go.Proofs.YtglpbgebcpijaaaGreat.fnExactTrusted
open Go.ChangeShapes Go.WideShapes Go.ChangeAt Go.RowKit
set_option linter.unusedVariables false

theorem own : ownKnob Tryz.prog.godebug = none := by kernel_rfl
theorem laidOut : laidOutB Tryz.prog = true := by kernel_rfl

theorem walk (x0 : TsP) (b0_0 : Option Addr) (n0_0 c0_0 : Nat) (b0_1 : Option Addr) (n0_1 c0_1 : Nat) (b0_2 : Option Addr) (n0_2 c0_2 : Nat) (b0_3 : Option Addr) (n0_3 c0_3 : Nat) (b0_4 : Option Addr) (n0_4 c0_4 : Nat) (a1 : Int) (a2 : Int) (a3 : Int) (w : World) (w0 : TsR x0 b0_0 n0_0 b0_1 n0_1 b0_2 n0_2 b0_3 n0_3 b0_4 n0_4 w) (w1 : (Lit.int .u64 a1).wf = true) (w2 : (Lit.int .i64 a2).wf = true) (w3 : (Lit.int .i64 a3).wf = true) :
    Calls Tryz.prog 4 #[.agg #[.int .i64 x0.r.v, .int .i64 x0.r.e, .slice b0_0 n0_0 c0_0, .slice b0_1 n0_1 c0_1, .int .i64 x0.s.v, .int .i64 x0.s.e, .int .i64 x0.s.lv, .int .u64 x0.s.lh, .slice b0_2 n0_2 c0_2, .int .i64 x0.l.v, .int .i64 x0.l.e, .slice b0_3 n0_3 c0_3, .slice b0_4 n0_4 c0_4], .int .u64 a1, .int .i64 a2, .int .i64 a3] w fun e w' => e = .returned (.bool true) ∧ Below w.heap.size w w' :=
  lawTrusted_walk x0 a1 a2 a3 b0_0 n0_0 c0_0 b0_1 n0_1 c0_1 b0_2 n0_2 c0_2 b0_3 n0_3 c0_3 b0_4 n0_4 c0_4 w w0

set_option maxRecDepth 100000 in
theorem lifted (os : Os) (started : os.Started) (H : Type) (enc : TypeId × Value → H) :
    ReturnsInHanded {} Tryz.checked os 4 .any (Rows.fnExactTrustedSpec.pre6 enc Tryz.prog Tryz.f4 Rows.fnExactTrustedRow.domain false) (Rows.fnExactTrustedSpec.post enc Tryz.prog Tryz.f4 false true false false) := by
  refine returnsInHanded_of_change (C := Tryz.checked) own started (by kernel_rfl) Tryz.func4
    (ChangeSpec.witness6 (enc := enc) (C := Tryz.checked) false ⟨#[], #[.agg #[.int .i64 0, .int .i64 0, .slice none 0 0, .slice none 0 0, .int .i64 0, .int .i64 0, .int .i64 0, .int .u64 0, .slice none 0 0, .int .i64 0, .int .i64 0, .slice none 0 0, .slice none 0 0], .int .u64 0, .int .i64 0, .int .i64 0], []⟩ 8 (by kernel_rfl) (by kernel_rfl) (by kernel_rfl) (by kernel_rfl)) ?_
  intro W base args ds gs before hval0 hW hcnd _
  have hval : ∀ (j : Nat) t v, Tryz.f4.params[j]? = some t → args[j]? = some v → Value.okWide Tryz.prog W .any base t v := hval0
  have hW' := hW
  obtain ⟨p, q, hA0, hV, rfl, hfz, hnd⟩ := hW
  have hA : DataW.TrodAll enc Tryz.prog W 0 (fun _ => true) true Tryz.f4.params.toList args.toList ds p := hA0
  rw [Tryz.params4] at hA hval
  obtain ⟨v0, vs0, d0, ds0, p0, q0, hargs, rfl, rfl, h0, r0⟩ := trodAll_cons hA
  obtain ⟨v1, vs1, d1, ds1, p1, q1, rfl, rfl, rfl, h1, r1⟩ := trodAll_cons r0
  obtain ⟨v2, vs2, d2, ds2, p2, q2, rfl, rfl, rfl, h2, r2⟩ := trodAll_cons r1
  obtain ⟨v3, vs3, d3, ds3, p3, q3, rfl, rfl, rfl, h3, r3⟩ := trodAll_cons r2
  obtain ⟨rfl, rfl, rfl⟩ := trodAll_nil r3
  obtain rfl : args = #[v0, v1, v2, v3] := by cases args; simp_all
  obtain ⟨rfl, rfl⟩ := trodVars_none hV
  obtain ⟨vm0, rfl, hcs0⟩ := okWide_struct Tryz.underlying56 (hval 0 56 v0 rfl rfl)
  have k0 := h0
  have lt0 : ∀ x ∈ p0, x.block < W.heap.size := by obtain ⟨m, hm⟩ := k0; exact DataW.trod_lt m _ _ _ hm
  obtain ⟨x0, b0_0, n0_0, c0_0, b0_1, n0_1, c0_1, b0_2, n0_2, c0_2, b0_3, n0_3, c0_3, b0_4, n0_4, c0_4, hl0, w0⟩ : ∃ (x0 : TsP) (b0_0 : Option Addr) (n0_0 c0_0 : Nat) (b0_1 : Option Addr) (n0_1 c0_1 : Nat) (b0_2 : Option Addr) (n0_2 c0_2 : Nat) (b0_3 : Option Addr) (n0_3 c0_3 : Nat) (b0_4 : Option Addr) (n0_4 c0_4 : Nat), vm0.toList = [.int .i64 x0.r.v, .int .i64 x0.r.e, .slice b0_0 n0_0 c0_0, .slice b0_1 n0_1 c0_1, .int .i64 x0.s.v, .int .i64 x0.s.e, .int .i64 x0.s.lv, .int .u64 x0.s.lh, .slice b0_2 n0_2 c0_2, .int .i64 x0.l.v, .int .i64 x0.l.e, .slice b0_3 n0_3 c0_3, .slice b0_4 n0_4 c0_4] ∧ TsR x0 b0_0 n0_0 b0_1 n0_1 b0_2 n0_2 b0_3 n0_3 b0_4 n0_4 W := by
    obtain ⟨fuel, hf⟩ := h0
    exact open_ts hf
  obtain rfl : vm0 = #[.int .i64 x0.r.v, .int .i64 x0.r.e, .slice b0_0 n0_0 c0_0, .slice b0_1 n0_1 c0_1, .int .i64 x0.s.v, .int .i64 x0.s.e, .int .i64 x0.s.lv, .int .u64 x0.s.lh, .slice b0_2 n0_2 c0_2, .int .i64 x0.l.v, .int .i64 x0.l.e, .slice b0_3 n0_3 c0_3, .slice b0_4 n0_4 c0_4] := by
    cases vm0; simp_all
  obtain ⟨a1, rfl, rfl, rfl, w1⟩ := open_int Tryz.underlying26 (hval 1 26 v1 rfl rfl) h1
  obtain ⟨a2, rfl, rfl, rfl, w2⟩ := open_int Tryz.underlying2 (hval 2 2 v2 rfl rfl) h2
  obtain ⟨a3, rfl, rfl, rfl, w3⟩ := open_int Tryz.underlying2 (hval 3 2 v3 rfl rfl) h3
  clear hA0 hval0
  refine (walk x0 b0_0 n0_0 c0_0 b0_1 n0_1 c0_1 b0_2 n0_2 c0_2 b0_3 n0_3 c0_3 b0_4 n0_4 c0_4 a1 a2 a3 W w0 w1 w2 w3).mono fun e W' ⟨he, bel⟩ => ?_
  subst he
  exact ⟨_, rfl, _, _, _, [], _, [], hW', trodAll_mk1 (shut_bool Tryz.underlying4 _), (trodAll_cons_mk (Below.trod laidOut (by kernel_rfl) (of_decide_eq_true (by kernel_rfl)) k0 bel lt0) (trodAll_cons_mk (shut_int Tryz.underlying26 w1) (trodAll_cons_mk (shut_int Tryz.underlying2 w2) (trodAll_cons_mk (shut_int Tryz.underlying2 w3) trodAll_mk0)))), rfl, bel.frame _, fun h => by cases h⟩

theorem over : Rows.fnExactTrustedRow.holds Tryz.pinned (OpenSpec.ofChange Rows.fnExactTrustedSpec) :=
  OpenClaim.holds_of_wide 4 Tryz.f4 rfl rfl rfl rfl rfl rfl rfl ⟨rfl, rfl, rfl, rfl, rfl⟩ rfl rfl rfl rfl rfl (by kernel_rfl) Tryz.func4 (by kernel_rfl)
    (of_decide_eq_true (by kernel_rfl)) (by unfold Func.isWrapper; first | (rw [if_pos (by decide +kernel)]; kernel_rfl) | (rw [if_neg (by decide +kernel)]; exact ⟨rfl, rfl⟩))
    (fun os started H enc _ => lifted os started H enc)

theorem proved : Rows.FnExactTrustedSaid := over
end Go.Proofs.YtglpbgebcpijaaaGreat.fnExactTrusted
namespace Go.Proofs.YtglpbgebcpijaaaGreat
theorem fnExactTrusted_holds : Rows.FnExactTrustedSaid := fnExactTrusted.proved
#print axioms fnExactTrusted_holds
end Go.Proofs.YtglpbgebcpijaaaGreat

