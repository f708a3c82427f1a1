import Derived.Test.YtmmbfoncpjjonabDoorCards
import Derived.Test.YtmmbfoncpjjonabDoorTie
import Derived.Test.YtmmbfoncpjjonabDoorDT6
import Derived.Test.YtmmbfoncpjjonabDoorHSh
import Derived.WalkKit
import Derived.ProofKit
import Derived.LaidMore
import Derived.OpenShut
import Derived.ShutString
import Derived.ChangeOld
import Derived.ChangeVars
import Derived.WalkSmall
import Derived.Below
import Derived.Stop.Joined
import Derived.Lay
import Derived.SevenTiedAt
import Derived.Lib.LaidTab
namespace Go.Proofs.YtmmbfoncpjjonabDoor.fnExactTimeText
open Go.ChangeShapes Go.WideShapes Go.ChangeAt Go.RowKit
open Go.ChangeMaps (open_string shut_string)
set_option linter.unusedVariables false

theorem own : ownKnob Tryd.prog.godebug = none := by kernel_rfl
theorem gN : Tryd.prog.globalNamed "loop.example/g00041/impl.plainMonths" = some 0 := by kernel_rfl
theorem gT : (Tryd.prog.globals[0]?).map (·.type) = some 85 := by kernel_rfl
theorem pN : Tryd.prog.globalNamed "internal/strconv.uint64pow10" = some 1 := by kernel_rfl
theorem pT : (Tryd.prog.globals[1]?).map (·.type) = some 119 := by kernel_rfl
theorem cells2 : Tryd.prog.cellsOf 2 = 1 := by kernel_rfl
theorem cellsA : Tryd.prog.cellsOf 85 = 12 := by kernel_rfl
theorem cellsU : Tryd.prog.cellsOf 84 = 1 := by kernel_rfl
theorem cellsB : Tryd.prog.cellsOf 119 = 20 := by kernel_rfl

theorem laid_tail {P : Program} {x : String × DataW Unit} {rest : List (String × DataW Unit)} {W : World} (h : laidMet P (x :: rest) W) : laidMet P rest W := by
  obtain ⟨ps, ⟨g, t, cs, fuel, p, q, _, _, _, _, hq, hps⟩, hnd, hall⟩ := h
  subst hps
  exact ⟨q, hq, (List.nodup_append.1 hnd).2.1, fun b off hm => hall b off (List.mem_append.2 (.inr hm))⟩
theorem of_laid {W : World} (h : laidMetH Tryd.prog Rows.fnExactTimeTextRow.laid W) : TabW W ∧ PowW W := by
  rw [MakeChecks.laidMetH_plain _ _ _ (by kernel_rfl)] at h
  have h3 : laidMet Tryd.prog [("internal/strconv.uint64pow10", Rows.laid_internal_strconv_uint64pow10), ("loop.example/g00041/impl.plainMonths", Rows.laid_loop_example_g00041_impl_plainMonths)] W := laid_tail (laid_tail h)
  have h4 : laidMet Tryd.prog [("internal/strconv.uint64pow10", Lib.tabData .u64 Lib.pow10Tab), ("loop.example/g00041/impl.plainMonths", Rows.laid_loop_example_g00041_impl_plainMonths)] W := h3
  have h5 : laidMet Tryd.prog [("loop.example/g00041/impl.plainMonths", Lib.tabData .i64 mtab)] W := laid_tail h3
  have hT := Lib.tabIs_of_head gN gT Tryd.underlying85 Tryd.underlying2 cells2 cellsA h5
  exact ⟨⟨fun j hj => hT.cell gN j hj⟩, Lib.tabIs_of_head pN pT Tryd.underlying119 Tryd.underlying84 cellsU cellsB h4⟩

theorem trod_int_any {H : Type} (enc : TypeId × Value → H) (W W' : World) (sp sp' : Nat → Bool) (f : Nat) (cs : List Value) : DataW.trod enc Tryd.prog W 0 sp true f 2 cs = DataW.trod enc Tryd.prog W' 0 sp' true f 2 cs := by
  cases f with
  | zero => simp only [DataW.trod]
  | succ n =>
    simp only [DataW.trod, Tryd.underlying2]
    cases cs with
    | nil => rfl
    | cons c r =>
      cases r with
      | nil => cases c <;> rfl
      | cons c2 r2 => cases c <;> rfl
theorem trod_arr_any {H : Type} (enc : TypeId × Value → H) (W W' : World) (sp sp' : Nat → Bool) (f : Nat) (cs : List Value) : DataW.trod enc Tryd.prog W 0 sp true f 85 cs = DataW.trod enc Tryd.prog W' 0 sp' true f 85 cs := by
  cases f with
  | zero => simp only [DataW.trod]
  | succ n => simp only [DataW.trod, Tryd.underlying85, trod_int_any enc W W' sp sp']


set_option maxRecDepth 100000 in
set_option maxHeartbeats 4000000 in
theorem lifted (os : Os) (started : os.Started) (H : Type) (enc : TypeId × Value → H) :
    ReturnsInHanded {} Tryd.checked os 6 .any (fun w args => (Rows.fnExactTimeTextSpec.pre enc Tryd.prog Tryd.f6 [] false w args ∧ laidMetH Tryd.prog Rows.fnExactTimeTextRow.laid w) ∧ sizedMet enc Tryd.prog Tryd.f6 (OpenSpec.ofChange Rows.fnExactTimeTextSpec) false w args)
      (Rows.fnExactTimeTextSpec.post enc Tryd.prog Tryd.f6 false true false false) := by
  refine ret_shaped_and (C := Tryd.checked) (X := fun w _ => laidMetH Tryd.prog Rows.fnExactTimeTextRow.laid w) (fun _ _ _ hh h => h.of_heap hh) own started (by kernel_rfl) Tryd.func6
    (ChangeSpec.witness_shaped (enc := enc) (C := Tryd.checked) (os := os) (X := fun w _ => laidMetH Tryd.prog Rows.fnExactTimeTextRow.laid w) false (World.laidAll Tryd.prog os Rows.fnExactTimeTextRow.laid) #[.int .i64 0] 8 (World.laidAll_os _ _ _)
      (World.shaped_of_ZipB (by kernel_rfl) (by kernel_rfl)) (by kernel_rfl) (by kernel_rfl) (by kernel_rfl)
      (by rw [MakeChecks.laidMetH_plain _ _ _ (by kernel_rfl)]; exact laidMet_laidAll _ (by kernel_rfl) (by kernel_rfl))) ?_
  intro W base args ds gs before hval0 hW hL hsh
  have hval : ∀ (j : Nat) t v, Tryd.f6.params[j]? = some t → args[j]? = some v → Value.okWide Tryd.prog W .any base t v := hval0
  have hW' := hW
  obtain ⟨p, q, hA0, hV, rfl, hfz, hnd⟩ := hW
  have hA : DataW.TrodAll enc Tryd.prog W 0 (fun _ => true) true Tryd.f6.params.toList args.toList ds p := hA0
  rw [Tryd.params6] at hA hval
  obtain ⟨v0, vs0, d0, ds0, p0, q0, hargs, rfl, rfl, h0, r0⟩ := trodAll_cons hA
  obtain ⟨rfl, rfl, rfl⟩ := trodAll_nil r0
  obtain rfl : args = #[v0] := by cases args; simp_all
  obtain ⟨g, t, cs, fuel, dv, pv, rfl, hg1, ht1, hv1, hd1, rfl⟩ := trodVars_one hV
  obtain rfl := Option.some.inj (gN.symm.trans hg1)
  obtain rfl := Option.some.inj (gT.symm.trans ht1)
  obtain ⟨a0, rfl, rfl, rfl, w0⟩ := open_int Tryd.underlying2 (hval 0 2 v0 rfl rfl) h0
  obtain ⟨hTab, hPow⟩ := of_laid hL
  clear hA0 hval0
  refine (lawTimeText_walk a0 W hTab hPow).mono fun e W' ⟨he, bel⟩ => ?_
  subst he
  exact ⟨_, rfl, _, _, _, [], _, _, hW', trodAll_mk1 (shut_bool Tryd.underlying4 _), (trodAll_cons_mk (shut_int Tryd.underlying2 w0) trodAll_mk0), trodVars_mk1 gN gT (var?_below bel gN hTab.lt hv1) ((trod_arr_any enc W' W _ _ _ _).trans hd1), bel.frame _, fun h => by cases h⟩

theorem over : Rows.FnExactTimeTextSaid :=
  OpenClaim.holds_of_wide 6 Tryd.f6 rfl rfl rfl rfl rfl rfl rfl ⟨rfl, rfl, rfl, rfl, rfl⟩ rfl rfl rfl rfl rfl (by kernel_rfl) Tryd.func6 (by kernel_rfl)
    (of_decide_eq_true (by kernel_rfl)) (by unfold Func.isWrapper; first | (rw [if_pos (by decide +kernel)]; kernel_rfl) | (rw [if_neg (by decide +kernel)]; exact ⟨rfl, rfl⟩))
    (fun os started H enc _ => lifted os started H enc)

theorem proved : Rows.FnExactTimeTextCardSaid :=
  Claim7.holds_tied_plain_at .later [] [.data, .data, .data, .data] true (true, "3964ca69e295192e623df479ec3cb204966061ccdd002ebe754bf266a4fcf084") false
    over (fun _ h => by cases h) (by kernel_rfl) (fun _ h => by cases h) fnExactTimeText_row_tie rfl ⟨rfl, rfl⟩ (by kernel_rfl) rfl
    (fun f fn hf hfn => by
      obtain rfl : f = 6 := Option.some.inj ((show Tryd.prog.funcNamed Rows.fnExactTimeTextRow.func = some 6 by kernel_rfl).symm.trans hf) |>.symm
      obtain rfl : fn = Tryd.f6 := (Option.some.inj (Tryd.func6.symm.trans hfn)).symm
      exact ⟨by kernel_rfl, fun j t ht => by
        rw [Tryd.params6] at ht
        have hm : t ∈ [2] := by simpa using Array.mem_of_getElem? ht
        have hall : ([2].all fun u => !Tryd.prog.wantsStandIn u) = true := by kernel_rfl
        exact (show Tryd.prog.wantsStandIn t = false by simpa using List.all_eq_true.1 hall t hm)⟩)
    (by kernel_rfl)
end Go.Proofs.YtmmbfoncpjjonabDoor.fnExactTimeText
namespace Go.Proofs.YtmmbfoncpjjonabDoor
theorem fnExactTimeTextCard_holds : Rows.FnExactTimeTextCardSaid := fnExactTimeText.proved
#print axioms fnExactTimeTextCard_holds
end Go.Proofs.YtmmbfoncpjjonabDoor
