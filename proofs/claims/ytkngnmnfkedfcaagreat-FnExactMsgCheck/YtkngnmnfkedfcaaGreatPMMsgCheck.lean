import Derived.Test.YtkngnmnfkedfcaaGreatRows
import Derived.Test.YtkngnmnfkedfcaaGreatMCb
import Derived.WalkKit
import Derived.ProofKit
import Derived.OpenShut
import Derived.ShutString
import Derived.ChangeOld
import Derived.Below
import Derived.Deep.Slices
import Derived.ChangeArms
import Derived.ChangeSlices
namespace Go.Proofs.YtkngnmnfkedfcaaGreat.fnExactMsgCheck
open Go.ChangeShapes Go.WideShapes Go.ChangeAt Go.RowKit
set_option linter.unusedVariables false

theorem own : ownKnob Tryz.prog.godebug = none := by kernel_rfl
theorem laidOut : laidOutB Tryz.prog = true := by kernel_rfl

theorem walk (am0 : Option Addr) (nm0 cm0 : Nat) (zm0 : List Int) (D0 : Nat) (as0 : Option Addr) (ns0 cs0 : Nat) (zs0 : List ItT) (a1 : Option Addr) (len1 cap1 : Nat) (z1 : List (Int × Int × Int)) (a2 : Int) (w : World) (w0 : OpensMsg w am0 nm0 zm0 D0 as0 ns0 zs0) (w1 : RowPu w a1 len1 z1 ∧ len1 ≤ 9223372036854775807 ∧ ∀ j, j < len1 → (z1.getD j (0, 0, 0)).1 ≤ 9223372036854775807 ∧ (z1.getD j (0, 0, 0)).2.2 ≤ 9223372036854775807) (w2 : (Lit.int .i64 a2).wf = true) :
    Calls Tryz.prog 3 #[.agg #[.slice am0 nm0 cm0, .slice as0 ns0 cs0], .slice a1 len1 cap1, .int .i64 a2] w fun e w' => e = .returned (.bool true) ∧ Below w.heap.size w w' :=
  lawMsgCheck_walk D0 am0 nm0 cm0 zm0 as0 ns0 cs0 zs0 a1 len1 cap1 z1 a2 w w0.1 w0.2.1 w0.2.2 w1.1 w1.2.2 w1.2.1

set_option maxRecDepth 100000 in
theorem lifted (os : Os) (started : os.Started) (H : Type) (enc : TypeId × Value → H) :
    ReturnsInHanded {} Tryz.checked os 3 .any (Rows.fnExactMsgCheckSpec.pre6 enc Tryz.prog Tryz.f3 Rows.fnExactMsgCheckRow.domain false) (Rows.fnExactMsgCheckSpec.post enc Tryz.prog Tryz.f3 false true false false) := by
  refine returnsInHanded_of_change (C := Tryz.checked) own started (by kernel_rfl) Tryz.func3
    (ChangeSpec.witness6 (enc := enc) (C := Tryz.checked) false ⟨#[], #[.agg #[.slice none 0 0, .slice none 0 0], .slice none 0 0, .int .i64 0], []⟩ 8 (by kernel_rfl) (by kernel_rfl) (by kernel_rfl) (by kernel_rfl)) ?_
  intro W base args ds gs before hval0 hW hcnd _
  have hval : ∀ (j : Nat) t v, Tryz.f3.params[j]? = some t → args[j]? = some v → Value.okWide Tryz.prog W .any base t v := hval0
  have hW' := hW
  obtain ⟨p, q, hA0, hV, rfl, hfz, hnd⟩ := hW
  have hA : DataW.TrodAll enc Tryz.prog W 0 (fun _ => true) true Tryz.f3.params.toList args.toList ds p := hA0
  rw [Tryz.params3] at hA hval
  obtain ⟨v0, vs0, d0, ds0, p0, q0, hargs, rfl, rfl, h0, r0⟩ := trodAll_cons hA
  obtain ⟨v1, vs1, d1, ds1, p1, q1, rfl, rfl, rfl, h1, r1⟩ := trodAll_cons r0
  obtain ⟨v2, vs2, d2, ds2, p2, q2, rfl, rfl, rfl, h2, r2⟩ := trodAll_cons r1
  obtain ⟨rfl, rfl, rfl⟩ := trodAll_nil r2
  obtain rfl : args = #[v0, v1, v2] := by cases args; simp_all
  obtain ⟨rfl, rfl⟩ := trodVars_none hV
  obtain ⟨vm0, rfl, hcs0⟩ := okWide_struct Tryz.underlying25 (hval 0 25 v0 rfl rfl)
  have k0 := h0
  have lt0 : ∀ x ∈ p0, x.block < W.heap.size := by obtain ⟨m, hm⟩ := k0; exact DataW.trod_lt m _ _ _ hm
  obtain ⟨am0, nm0, cm0, zm0, D0, as0, ns0, cs0, zs0, hl0, w0⟩ : ∃ am nn cm ws D a n c xs, vm0.toList = [.slice am nn cm, .slice a n c] ∧ OpensMsg W am nn ws D a n xs := by
    obtain ⟨fuel, hf⟩ := h0
    exact open_msg hf
  obtain rfl : vm0 = #[.slice am0 nm0 cm0, .slice as0 ns0 cs0] := by
    cases vm0; simp_all
  obtain ⟨a1, len1, cap1, rfl⟩ := okWide_slice Tryz.underlying26 (hval 1 26 v1 rfl rfl)
  have k1 := h1
  have lt1 : ∀ x ∈ p1, x.block < W.heap.size := by obtain ⟨m, hm⟩ := k1; exact DataW.trod_lt m _ _ _ hm
  obtain ⟨z1, w1⟩ : ∃ ps, RowPu W a1 len1 ps ∧ len1 ≤ 9223372036854775807 ∧ ∀ j, j < len1 → (ps.getD j (0, 0, 0)).1 ≤ 9223372036854775807 ∧ (ps.getD j (0, 0, 0)).2.2 ≤ 9223372036854775807 := by
    obtain ⟨fuel, hf⟩ := h1
    obtain ⟨a, n, cap, zs, hcs, hz⟩ := open_Pus hf
    simp [Value.cells] at hcs
    obtain ⟨rfl, rfl, rfl⟩ := hcs
    exact ⟨zs, hz⟩
  obtain ⟨a2, rfl, rfl, rfl, w2⟩ := open_int Tryz.underlying2 (hval 2 2 v2 rfl rfl) h2
  clear hA0 hval0
  refine (walk am0 nm0 cm0 zm0 D0 as0 ns0 cs0 zs0 a1 len1 cap1 z1 a2 W w0 w1 w2).mono fun e W' ⟨he, bel⟩ => ?_
  subst he
  exact ⟨_, rfl, _, _, _, [], _, [], hW', trodAll_mk1 (shut_bool Tryz.underlying4 _), (trodAll_cons_mk (Below.trod laidOut (by kernel_rfl) (of_decide_eq_true (by kernel_rfl)) k0 bel lt0) (trodAll_cons_mk (Below.trod laidOut (by kernel_rfl) (of_decide_eq_true (by kernel_rfl)) k1 bel lt1) (trodAll_cons_mk (shut_int Tryz.underlying2 w2) trodAll_mk0))), rfl, bel.frame _, fun h => by cases h⟩

theorem over : Rows.fnExactMsgCheckRow.holds Tryz.pinned (OpenSpec.ofChange Rows.fnExactMsgCheckSpec) :=
  OpenClaim.holds_of_wide 3 Tryz.f3 rfl rfl rfl rfl rfl rfl rfl ⟨rfl, rfl, rfl, rfl, rfl⟩ rfl rfl rfl rfl rfl (by kernel_rfl) Tryz.func3 (by kernel_rfl)
    (of_decide_eq_true (by kernel_rfl)) (by unfold Func.isWrapper; first | (rw [if_pos (by decide +kernel)]; kernel_rfl) | (rw [if_neg (by decide +kernel)]; exact ⟨rfl, rfl⟩))
    (fun os started H enc _ => lifted os started H enc)

theorem proved : Rows.FnExactMsgCheckSaid := over
end Go.Proofs.YtkngnmnfkedfcaaGreat.fnExactMsgCheck
namespace Go.Proofs.YtkngnmnfkedfcaaGreat
theorem fnExactMsgCheck_holds : Rows.FnExactMsgCheckSaid := fnExactMsgCheck.proved
#print axioms fnExactMsgCheck_holds
end Go.Proofs.YtkngnmnfkedfcaaGreat

