import Derived.Test.YtlcojjcgaibbiaaRows
import Derived.Test.YtlcojjcgaibbiaaML1
import Derived.Test.YtlcojjcgaibbiaaOpenSg
import Derived.WalkKit
import Derived.ProofKit
import Derived.OpenShut
import Derived.ShutString
import Derived.ChangeOld
import Derived.Below
import Derived.Deep.Slices
import Derived.ChangeArms
import Derived.ChangeSlices
namespace Go.Proofs.Ytlcojjcgaibbiaa.fnExactMsgBytes
open Go.ChangeShapes Go.WideShapes Go.ChangeAt Go.RowKit
set_option linter.unusedVariables false

theorem own : ownKnob Try.prog.godebug = none := by kernel_rfl
theorem laidOut : laidOutB Try.prog = true := by kernel_rfl

theorem walk (am0 : Option Addr) (nm0 cm0 : Nat) (zm0 : List Int) (D0 : Nat) (as0 : Option Addr) (ns0 cs0 : Nat) (zs0 : List ItT) (w : World) (w0 : OpensMsg w am0 nm0 zm0 D0 as0 ns0 zs0) :
    Calls Try.prog 3 #[.agg #[.slice am0 nm0 cm0, .slice as0 ns0 cs0]] w fun e w' => e = .returned (.bool true) ∧ Below w.heap.size w w' :=
  lawMsgBytes_walk D0 zm0 zs0 am0 nm0 cm0 as0 ns0 cs0 w w0.1 w0.2.1 w0.2.2

set_option maxRecDepth 100000 in
theorem lifted (os : Os) (started : os.Started) (H : Type) (enc : TypeId × Value → H) :
    ReturnsInHanded {} Try.checked os 3 .any (Rows.fnExactMsgBytesSpec.pre6 enc Try.prog Try.f3 Rows.fnExactMsgBytesRow.domain false) (Rows.fnExactMsgBytesSpec.post enc Try.prog Try.f3 false true false false) := by
  refine returnsInHanded_of_change (C := Try.checked) own started (by kernel_rfl) Try.func3
    (ChangeSpec.witness6 (enc := enc) (C := Try.checked) false ⟨#[], #[.agg #[.slice none 0 0, .slice none 0 0]], []⟩ 8 (by kernel_rfl) (by kernel_rfl) (by kernel_rfl) (by kernel_rfl)) ?_
  intro W base args ds gs before hval0 hW hcnd _
  have hval : ∀ (j : Nat) t v, Try.f3.params[j]? = some t → args[j]? = some v → Value.okWide Try.prog W .any base t v := hval0
  have hW' := hW
  obtain ⟨p, q, hA0, hV, rfl, hfz, hnd⟩ := hW
  have hA : DataW.TrodAll enc Try.prog W 0 (fun _ => true) true Try.f3.params.toList args.toList ds p := hA0
  rw [Try.params3] at hA hval
  obtain ⟨v0, vs0, d0, ds0, p0, q0, hargs, rfl, rfl, h0, r0⟩ := trodAll_cons hA
  obtain ⟨rfl, rfl, rfl⟩ := trodAll_nil r0
  obtain rfl : args = #[v0] := by cases args; simp_all
  obtain ⟨rfl, rfl⟩ := trodVars_none hV
  obtain ⟨vm0, rfl, hcs0⟩ := okWide_struct Try.underlying25 (hval 0 25 v0 rfl rfl)
  have k0 := h0
  have lt0 : ∀ x ∈ p0, x.block < W.heap.size := by obtain ⟨m, hm⟩ := k0; exact DataW.trod_lt m _ _ _ hm
  obtain ⟨am0, nm0, cm0, zm0, D0, as0, ns0, cs0, zs0, hl0, w0⟩ : ∃ am nn cm ws D a n c xs, vm0.toList = [.slice am nn cm, .slice a n c] ∧ OpensMsg W am nn ws D a n xs := by
    obtain ⟨fuel, hf⟩ := h0
    exact open_msg hf
  obtain rfl : vm0 = #[.slice am0 nm0 cm0, .slice as0 ns0 cs0] := by
    cases vm0; simp_all
  clear hA0 hval0
  refine (walk am0 nm0 cm0 zm0 D0 as0 ns0 cs0 zs0 W w0).mono fun e W' ⟨he, bel⟩ => ?_
  subst he
  exact ⟨_, rfl, _, _, _, [], _, [], hW', trodAll_mk1 (shut_bool Try.underlying4 _), (trodAll_cons_mk (Below.trod laidOut (by kernel_rfl) (of_decide_eq_true (by kernel_rfl)) k0 bel lt0) trodAll_mk0), rfl, bel.frame _, fun h => by cases h⟩

theorem over : Rows.fnExactMsgBytesRow.holds Try.pinned (OpenSpec.ofChange Rows.fnExactMsgBytesSpec) :=
  OpenClaim.holds_of_wide 3 Try.f3 rfl rfl rfl rfl rfl rfl rfl ⟨rfl, rfl, rfl, rfl, rfl⟩ rfl rfl rfl rfl rfl (by kernel_rfl) Try.func3 (by kernel_rfl)
    (of_decide_eq_true (by kernel_rfl)) (by unfold Func.isWrapper; first | (rw [if_pos (by decide +kernel)]; kernel_rfl) | (rw [if_neg (by decide +kernel)]; exact ⟨rfl, rfl⟩))
    (fun os started H enc _ => lifted os started H enc)

theorem proved : Rows.FnExactMsgBytesSaid := over
end Go.Proofs.Ytlcojjcgaibbiaa.fnExactMsgBytes
namespace Go.Proofs.Ytlcojjcgaibbiaa
theorem fnExactMsgBytes_holds : Rows.FnExactMsgBytesSaid := fnExactMsgBytes.proved
#print axioms fnExactMsgBytes_holds
end Go.Proofs.Ytlcojjcgaibbiaa
