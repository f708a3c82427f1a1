import Derived.Test.YtmmbfoncpjjonacDoorCards
import Derived.Test.YtmmbfoncpjjonacDoorTie
import Derived.Test.YtmmbfoncpjjonacDoorLTimeRead
import Derived.WalkKit
import Derived.ProofKit
import Derived.LaidMore
import Derived.OpenShut
import Derived.ShutString
import Derived.ChangeOld
import Derived.ChangeVars
import Derived.WalkSmall
import Derived.Below
import Derived.Stop.Joined
import Derived.Lib.LaidTab
import Derived.SevenTiedAt
namespace Go.Proofs.YtmmbfoncpjjonacDoor.fnExactTimeRead
open Go.ChangeShapes Go.WideShapes Go.ChangeAt Go.RowKit
open Go.ChangeMaps (open_string shut_string)
set_option linter.unusedVariables false

theorem own : ownKnob Tryd.prog.godebug = none := by kernel_rfl
theorem gN : Tryd.prog.globalNamed "loop.example/g00041/impl.plainMonths" = some 0 := by kernel_rfl
theorem gT : (Tryd.prog.globals[0]?).map (·.type) = some 30 := by kernel_rfl
theorem cells2 : Tryd.prog.cellsOf 2 = 1 := by kernel_rfl
theorem cellsA : Tryd.prog.cellsOf 30 = 12 := by kernel_rfl
def laid1 : List (String × DataW Unit) := [("loop.example/g00041/impl.plainMonths", Rows.laid_loop_example_g00041_impl_plainMonths)]

theorem walk (a0 : ByteArray) (w0 : a0.size ≤ maxLen) (w : World) (hT : TabW w) :
    Calls Tryd.prog 3 #[.string a0] w fun e w' => e = .returned (.bool true) ∧ Below w.heap.size w w' :=
  lawTimeRead_walk a0 w0 w hT

theorem door_met (os : Os) (args : Array Value) : laidMetH Tryd.prog laid1 ((World.doorLaid Tryd.prog 400 os).forCall (fun _ _ => 0) ⟨#[], args, []⟩).memory :=
  laidMetH_of_parts3 (fuel := 8) (laidMet_of_run' 8 (by kernel_rfl) (by kernel_rfl)) (by kernel_rfl) (by kernel_rfl)

theorem of_laid {W : World} (h : laidMetH Tryd.prog laid1 W) : TabW W := by
  rw [MakeChecks.laidMetH_plain _ _ _ (by kernel_rfl)] at h
  have h2 : laidMet Tryd.prog (("loop.example/g00041/impl.plainMonths", Lib.tabData .i64 mtab) :: []) W := h
  have hT := Lib.tabIs_of_head gN gT Tryd.underlying30 Tryd.underlying2 cells2 cellsA h2
  exact ⟨fun j hj => hT.cell gN j hj⟩

theorem trod_int_any {H : Type} (enc : TypeId × Value → H) (W W' : World) (sp sp' : Nat → Bool) (f : Nat) (cs : List Value) : DataW.trod enc Tryd.prog W 0 sp true f 2 cs = DataW.trod enc Tryd.prog W' 0 sp' true f 2 cs := by
  cases f with
  | zero => simp only [DataW.trod]
  | succ n =>
    simp only [DataW.trod, Tryd.underlying2]
    cases cs with
    | nil => rfl
    | cons c r =>
      cases r with
      | nil => cases c <;> rfl
      | cons c2 r2 => cases c <;> rfl
theorem trod_arr_any {H : Type} (enc : TypeId × Value → H) (W W' : World) (sp sp' : Nat → Bool) (f : Nat) (cs : List Value) : DataW.trod enc Tryd.prog W 0 sp true f 30 cs = DataW.trod enc Tryd.prog W' 0 sp' true f 30 cs := by
  cases f with
  | zero => simp only [DataW.trod]
  | succ n => simp only [DataW.trod, Tryd.underlying30, trod_int_any enc W W' sp sp']

set_option maxRecDepth 100000 in
theorem lifted (os : Os) (started : os.Started) (H : Type) (enc : TypeId × Value → H) :
    ReturnsInHanded {} Tryd.checked os 3 .any (fun w args => (Rows.fnExactTimeReadSpec.pre enc Tryd.prog Tryd.f3 [] false w args ∧ laidMetH Tryd.prog laid1 w) ∧ sizedMet enc Tryd.prog Tryd.f3 (OpenSpec.ofChange Rows.fnExactTimeReadSpec) false w args)
      (Rows.fnExactTimeReadSpec.post enc Tryd.prog Tryd.f3 false true false false) := by
  refine returnsInHanded_of_change_and (C := Tryd.checked) (X := fun w _ => laidMetH Tryd.prog laid1 w) (fun _ _ _ hh h => h.of_heap hh) own started (by kernel_rfl) Tryd.func3
    (ChangeSpec.witness_shaped (enc := enc) (C := Tryd.checked) (os := os) (X := fun w _ => laidMetH Tryd.prog laid1 w) false (World.doorLaid Tryd.prog 400 os) #[.string ByteArray.empty] 8 rfl (World.shaped_of_RefB (by kernel_rfl) (by kernel_rfl)) (by kernel_rfl) (by kernel_rfl) (by kernel_rfl) (door_met os _)) ?_
  intro W base args ds gs before hval0 hW _ _ hL _
  have hval : ∀ (j : Nat) t v, Tryd.f3.params[j]? = some t → args[j]? = some v → Value.okWide Tryd.prog W .any base t v := hval0
  have hW' := hW
  obtain ⟨p, q, hA0, hV, rfl, hfz, hnd⟩ := hW
  have hA : DataW.TrodAll enc Tryd.prog W 0 (fun _ => true) true Tryd.f3.params.toList args.toList ds p := hA0
  rw [Tryd.params3] at hA hval
  obtain ⟨v0, vs0, d0, ds0, p0, q0, hargs, rfl, rfl, h0, r0⟩ := trodAll_cons hA
  obtain ⟨rfl, rfl, rfl⟩ := trodAll_nil r0
  obtain rfl : args = #[v0] := by cases args; simp_all
  obtain ⟨g, t, cs, fuel, dv, pv, rfl, hg1, ht1, hv1, hd1, rfl⟩ := trodVars_one hV
  obtain rfl := Option.some.inj (gN.symm.trans hg1)
  obtain rfl := Option.some.inj (gT.symm.trans ht1)
  obtain ⟨a0, rfl, rfl, rfl, w0⟩ := open_string Tryd.underlying9 (hval 0 9 v0 rfl rfl) h0
  have hTab := of_laid hL
  clear hA0 hval0
  refine (walk a0 w0 W hTab).mono fun e W' ⟨he, bel⟩ => ?_
  subst he
  exact ⟨_, rfl, _, _, _, [], _, _, hW', trodAll_mk1 (shut_bool Tryd.underlying4 _), (trodAll_cons_mk (shut_string Tryd.underlying9 w0) trodAll_mk0), trodVars_mk1 gN gT (var?_below bel gN hTab.lt hv1) ((trod_arr_any enc W' W _ _ _ _).trans hd1), bel.frame _, fun h => by cases h⟩

theorem over : Rows.FnExactTimeReadSaid :=
  OpenClaim.holds_of_wide 3 Tryd.f3 rfl rfl rfl rfl rfl rfl rfl ⟨rfl, rfl, rfl, rfl, rfl⟩ rfl rfl rfl rfl rfl (by kernel_rfl) Tryd.func3 (by kernel_rfl)
    (of_decide_eq_true (by kernel_rfl)) (by unfold Func.isWrapper; first | (rw [if_pos (by decide +kernel)]; kernel_rfl) | (rw [if_neg (by decide +kernel)]; exact ⟨rfl, rfl⟩))
    (fun os started H enc _ => lifted os started H enc)

theorem proved : Rows.FnExactTimeReadCardSaid :=
  Claim7.holds_tied_plain_at .later [] [.data] true (true, "a5ef94048028e9dc47f9ae01ab1222d7308cb8cff00c04a1b149165aacb9bb92") false
    over (fun _ h => by cases h) (by kernel_rfl) (fun _ h => by cases h) fnExactTimeRead_row_tie rfl ⟨rfl, rfl⟩ (by kernel_rfl) rfl
    (fun f fn hf hfn => by
      obtain rfl : f = 3 := Option.some.inj ((show Tryd.prog.funcNamed "loop.example/g00041/laws.FnExactTimeRead" = some 3 by kernel_rfl).symm.trans hf) |>.symm
      obtain rfl : fn = Tryd.f3 := (Option.some.inj (Tryd.func3.symm.trans hfn)).symm
      exact ⟨by kernel_rfl, fun j t ht => by
        rw [Tryd.params3] at ht
        have h3 : t = 9 := by
          rcases j with _ | j
          · simpa using ht.symm
          · simp at ht
        subst h3
        exact (show Tryd.prog.wantsStandIn 9 = false by kernel_rfl)⟩)
    (by kernel_rfl)
end Go.Proofs.YtmmbfoncpjjonacDoor.fnExactTimeRead
namespace Go.Proofs.YtmmbfoncpjjonacDoor
theorem fnExactTimeReadCard_holds : Rows.FnExactTimeReadCardSaid := fnExactTimeRead.proved
#print axioms fnExactTimeReadCard_holds
end Go.Proofs.YtmmbfoncpjjonacDoor
