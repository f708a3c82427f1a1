import Derived.Test.YtoldngiclmidaaaGreatDoorCards
import Derived.Test.YtoldngiclmidaaaGreatDoorTie
import Derived.Test.YtoldngiclmidaaaGreatDoorMX2
import Derived.Test.YtoldngiclmidaaaGreatDoorHSh
import Derived.WalkKit
import Derived.ProofKit
import Derived.LaidMore
import Derived.OpenShut
import Derived.ShutString
import Derived.ChangeOld
import Derived.ChangeVars
import Derived.WalkSmall
import Derived.Below
import Derived.Stop.Joined
import Derived.Lay
import Derived.SevenTiedAt
namespace Go.Proofs.YtoldngiclmidaaaGreatDoor.fnExactAnchorOk
open Go.ChangeShapes Go.WideShapes Go.ChangeAt Go.RowKit
set_option linter.unusedVariables false

theorem own : ownKnob Tryz.prog.godebug = none := by kernel_rfl
theorem laidOut : laidOutB Tryz.prog = true := by kernel_rfl

set_option maxRecDepth 100000 in
set_option maxHeartbeats 4000000 in
theorem lifted (os : Os) (started : os.Started) (H : Type) (enc : TypeId × Value → H) :
    ReturnsInHanded {} Tryz.checked os 3 .any (fun w args => (Rows.fnExactAnchorOkSpec.pre enc Tryz.prog Tryz.f3 [] false w args ∧ laidMetH Tryz.prog Rows.fnExactAnchorOkRow.laid w) ∧ sizedMet enc Tryz.prog Tryz.f3 (OpenSpec.ofChange Rows.fnExactAnchorOkSpec) false w args)
      (Rows.fnExactAnchorOkSpec.post enc Tryz.prog Tryz.f3 false true false false) := by
  refine ret_shaped_and (C := Tryz.checked) (X := fun w _ => laidMetH Tryz.prog Rows.fnExactAnchorOkRow.laid w) (fun _ _ _ hh h => h.of_heap hh) own started (by kernel_rfl) Tryz.func3
    (ChangeSpec.witness_shaped (enc := enc) (C := Tryz.checked) (os := os) (X := fun w _ => laidMetH Tryz.prog Rows.fnExactAnchorOkRow.laid w) false (World.laidAll Tryz.prog os Rows.fnExactAnchorOkRow.laid) #[.agg #[.slice none 0 0, .int .i64 0, .int .u64 0, .int .i64 0, .slice none 0 0, .slice none 0 0, .int .i64 0]] 8 (World.laidAll_os _ _ _)
      (World.shaped_of_ZipB (by kernel_rfl) (by kernel_rfl)) (by kernel_rfl) (by kernel_rfl) (by kernel_rfl)
      (by rw [MakeChecks.laidMetH_plain _ _ _ (by kernel_rfl)]; exact laidMet_laidAll _ (by kernel_rfl) (by kernel_rfl))) ?_
  intro W base args ds gs before hval0 hW hL hsh
  have hval : ∀ (j : Nat) t v, Tryz.f3.params[j]? = some t → args[j]? = some v → Value.okWide Tryz.prog W .any base t v := hval0
  have hW' := hW
  obtain ⟨p, q, hA0, hV, rfl, hfz, hnd⟩ := hW
  have hA : DataW.TrodAll enc Tryz.prog W 0 (fun _ => true) true Tryz.f3.params.toList args.toList ds p := hA0
  rw [Tryz.params3] at hA hval
  obtain ⟨v0, vs0, d0, ds0, p0, q0, hargs, rfl, rfl, h0, r0⟩ := trodAll_cons hA
  obtain ⟨rfl, rfl, rfl⟩ := trodAll_nil r0
  obtain rfl : args = #[v0] := by cases args; simp_all
  obtain ⟨rfl, rfl⟩ := trodVars_none hV
  obtain ⟨cs0, rfl, hcs0⟩ := okWide_struct Tryz.underlying30 (hval 0 30 v0 rfl rfl)
  have k0 := h0
  have lt0 : ∀ x ∈ p0, x.block < W.heap.size := by obtain ⟨m, hm⟩ := k0; exact DataW.trod_lt m _ _ _ hm
  obtain ⟨a1, n1, c1, a2, n2, c2, a3, n3, c3, x, hcells0, hxs0⟩ : ∃ a1 n1 c1 a2 n2 c2 a3 n3 c3, ∃ x : AP, cs0.toList = [.slice a1 n1 c1, .int .i64 x.sch, .int .u64 x.y, .int .i64 x.ht, .slice a2 n2 c2, .slice a3 n3 c3, .int .i64 x.til] ∧ Ans W a1 n1 a2 n2 a3 n3 x := by
    obtain ⟨fuel, hf⟩ := h0
    exact open_anchor hf
  obtain rfl : cs0 = #[.slice a1 n1 c1, .int .i64 x.sch, .int .u64 x.y, .int .i64 x.ht, .slice a2 n2 c2, .slice a3 n3 c3, .int .i64 x.til] := by
    cases cs0; simp_all
  clear hA0 hval0
  refine (lawAnchorOk_walk a1 n1 c1 a2 n2 c2 a3 n3 c3 x W (Tryz.laysM145.s1_3 W hsh) hxs0).mono fun e W' ⟨he, bel⟩ => ?_
  subst he
  exact ⟨_, rfl, _, _, _, [], _, [], hW', trodAll_mk1 (shut_bool Tryz.underlying4 _), (trodAll_cons_mk (Below.trod laidOut (by kernel_rfl) (of_decide_eq_true (by kernel_rfl)) k0 bel lt0) trodAll_mk0), rfl, bel.frame _, fun h => by cases h⟩

theorem over : Rows.FnExactAnchorOkSaid :=
  OpenClaim.holds_of_wide 3 Tryz.f3 rfl rfl rfl rfl rfl rfl rfl ⟨rfl, rfl, rfl, rfl, rfl⟩ rfl rfl rfl rfl rfl (by kernel_rfl) Tryz.func3 (by kernel_rfl)
    (of_decide_eq_true (by kernel_rfl)) (by unfold Func.isWrapper; first | (rw [if_pos (by decide +kernel)]; kernel_rfl) | (rw [if_neg (by decide +kernel)]; exact ⟨rfl, rfl⟩))
    (fun os started H enc _ => lifted os started H enc)

theorem proved : Rows.FnExactAnchorOkCardSaid :=
  Claim7.holds_tied_plain_at .later [] [.data, .pinned] true (true, "cd727ff8747cfef3d2ace481b775d1b06577a9e953d6897c391a5a1155673f4a") false
    over (fun _ h => by cases h) (by kernel_rfl) (fun _ h => by cases h) fnExactAnchorOk_row_tie rfl ⟨rfl, rfl⟩ (by kernel_rfl) rfl
    (fun f fn hf hfn => by
      obtain rfl : f = 3 := Option.some.inj ((show Tryz.prog.funcNamed Rows.fnExactAnchorOkRow.func = some 3 by kernel_rfl).symm.trans hf) |>.symm
      obtain rfl : fn = Tryz.f3 := (Option.some.inj (Tryz.func3.symm.trans hfn)).symm
      exact ⟨by kernel_rfl, fun j t ht => by
        rw [Tryz.params3] at ht
        have hm : t ∈ [30] := by simpa using Array.mem_of_getElem? ht
        have hall : ([30].all fun u => !Tryz.prog.wantsStandIn u) = true := by kernel_rfl
        exact (show Tryz.prog.wantsStandIn t = false by simpa using List.all_eq_true.1 hall t hm)⟩)
    (by kernel_rfl)
end Go.Proofs.YtoldngiclmidaaaGreatDoor.fnExactAnchorOk
namespace Go.Proofs.YtoldngiclmidaaaGreatDoor
theorem fnExactAnchorOkCard_holds : Rows.FnExactAnchorOkCardSaid := fnExactAnchorOk.proved
#print axioms fnExactAnchorOkCard_holds
end Go.Proofs.YtoldngiclmidaaaGreatDoor

