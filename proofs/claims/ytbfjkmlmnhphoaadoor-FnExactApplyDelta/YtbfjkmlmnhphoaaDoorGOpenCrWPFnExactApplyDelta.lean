import Derived.Test.YtbfjkmlmnhphoaaDoorGOpenNmOpenCr
import Derived.Handed
import Derived.HandedShaped
import Derived.Test.YtbfjkmlmnhphoaaDoorCards
import Derived.Test.YtbfjkmlmnhphoaaDoorTie
import Derived.Test.YtbfjkmlmnhphoaaDoorLApplyDelta
import Derived.WalkKit
import Derived.ProofKit
import Derived.LaidMore
import Derived.OpenShut
import Derived.ShutString
import Derived.ChangeOld
import Derived.ChangeVars
import Derived.WalkSmall
import Derived.Below
import Derived.Stop.Joined
import Derived.Lay
import Derived.SevenTiedAt
import Derived.Lib.LaidTab
set_option linter.unusedVariables false
namespace Go.Proofs.YtbfjkmlmnhphoaaDoor
open Go.ChangeShapes Go.WideShapes Go.ChangeAt Go.RowKit

set_option maxRecDepth 20000 in
theorem open_crlW {H : Type} {enc : TypeId × Value → H} {W : World} {fuel : Nat} {cs : List Value} {x : DataW H × List MemPlace} (h : DataW.trod enc Tryd.prog W 0 (fun _ => true) true fuel 28 cs = some x) : ∃ a1 n1 c1 a2 n2 c2 a3 n3 c3, ∃ x : CP, cs = [.slice a1 n1 c1, .int .i64 x.num, .int .i64 x.base, .int .i64 x.tm, .int .i64 x.next, .int .i64 x.scope, .bool x.ind, .slice a2 n2 c2, .slice a3 n3 c3] ∧ Crs W a1 n1 a2 n2 a3 n3 x ∧ (-9223372036854775808 ≤ x.scope ∧ x.scope ≤ 9223372036854775807) := by
  obtain ⟨xs, m, rfl, _, hl, hxl, hf⟩ := DataW.trod_struct Tryd.underlying28 h
  have hl2 : cs.length = 9 := hl.trans (by kernel_rfl)
  have hx2 : xs.length = 9 := hxl
  obtain ⟨c0, c1, c2, c3, c4, c5, c6, c7, c8, rfl⟩ : ∃ c0 c1 c2 c3 c4 c5 c6 c7 c8, cs = [c0, c1, c2, c3, c4, c5, c6, c7, c8] := by
    match cs, hl2 with
    | [c0, c1, c2, c3, c4, c5, c6, c7, c8], _ => exact ⟨c0, c1, c2, c3, c4, c5, c6, c7, c8, rfl⟩
  obtain ⟨x0, x1, x2, x3, x4, x5, x6, x7, x8, rfl⟩ : ∃ c0 c1 c2 c3 c4 c5 c6 c7 c8, xs = [c0, c1, c2, c3, c4, c5, c6, c7, c8] := by
    match xs, hx2 with
    | [c0, c1, c2, c3, c4, c5, c6, c7, c8], _ => exact ⟨c0, c1, c2, c3, c4, c5, c6, c7, c8, rfl⟩
  have e0 : Tryd.prog.cellsOf 24 = 1 := by kernel_rfl
  have f0 : DataW.trod enc Tryd.prog W 0 (fun _ => true) true m 24 ((([c0, c1, c2, c3, c4, c5, c6, c7, c8] : List Value).drop 0).take (Tryd.prog.cellsOf 24)) = some x0 := hf 0 _ rfl
  rw [e0] at f0
  have e1 : Tryd.prog.cellsOf 2 = 1 := by kernel_rfl
  have f1 : DataW.trod enc Tryd.prog W 0 (fun _ => true) true m 2 ((([c0, c1, c2, c3, c4, c5, c6, c7, c8] : List Value).drop 1).take (Tryd.prog.cellsOf 2)) = some x1 := hf 1 _ rfl
  rw [e1] at f1
  have e2 : Tryd.prog.cellsOf 2 = 1 := by kernel_rfl
  have f2 : DataW.trod enc Tryd.prog W 0 (fun _ => true) true m 2 ((([c0, c1, c2, c3, c4, c5, c6, c7, c8] : List Value).drop 2).take (Tryd.prog.cellsOf 2)) = some x2 := hf 2 _ rfl
  rw [e2] at f2
  have e3 : Tryd.prog.cellsOf 2 = 1 := by kernel_rfl
  have f3 : DataW.trod enc Tryd.prog W 0 (fun _ => true) true m 2 ((([c0, c1, c2, c3, c4, c5, c6, c7, c8] : List Value).drop 3).take (Tryd.prog.cellsOf 2)) = some x3 := hf 3 _ rfl
  rw [e3] at f3
  have e4 : Tryd.prog.cellsOf 2 = 1 := by kernel_rfl
  have f4 : DataW.trod enc Tryd.prog W 0 (fun _ => true) true m 2 ((([c0, c1, c2, c3, c4, c5, c6, c7, c8] : List Value).drop 4).take (Tryd.prog.cellsOf 2)) = some x4 := hf 4 _ rfl
  rw [e4] at f4
  have e5 : Tryd.prog.cellsOf 2 = 1 := by kernel_rfl
  have f5 : DataW.trod enc Tryd.prog W 0 (fun _ => true) true m 2 ((([c0, c1, c2, c3, c4, c5, c6, c7, c8] : List Value).drop 5).take (Tryd.prog.cellsOf 2)) = some x5 := hf 5 _ rfl
  rw [e5] at f5
  have e6 : Tryd.prog.cellsOf 4 = 1 := by kernel_rfl
  have f6 : DataW.trod enc Tryd.prog W 0 (fun _ => true) true m 4 ((([c0, c1, c2, c3, c4, c5, c6, c7, c8] : List Value).drop 6).take (Tryd.prog.cellsOf 4)) = some x6 := hf 6 _ rfl
  rw [e6] at f6
  have e7 : Tryd.prog.cellsOf 25 = 1 := by kernel_rfl
  have f7 : DataW.trod enc Tryd.prog W 0 (fun _ => true) true m 25 ((([c0, c1, c2, c3, c4, c5, c6, c7, c8] : List Value).drop 7).take (Tryd.prog.cellsOf 25)) = some x7 := hf 7 _ rfl
  rw [e7] at f7
  have e8 : Tryd.prog.cellsOf 26 = 1 := by kernel_rfl
  have f8 : DataW.trod enc Tryd.prog W 0 (fun _ => true) true m 26 ((([c0, c1, c2, c3, c4, c5, c6, c7, c8] : List Value).drop 8).take (Tryd.prog.cellsOf 26)) = some x8 := hf 8 _ rfl
  rw [e8] at f8
  obtain ⟨a1, n1, d1, ys, h0, hp⟩ := open_name f0
  obtain ⟨v1, h1, _, _⟩ := DataW.trod_int Tryd.underlying2 f1
  obtain ⟨v2, h2, _, _⟩ := DataW.trod_int Tryd.underlying2 f2
  obtain ⟨v3, h3, _, _⟩ := DataW.trod_int Tryd.underlying2 f3
  obtain ⟨v4, h4, _, _⟩ := DataW.trod_int Tryd.underlying2 f4
  obtain ⟨v5, h5, _, w5⟩ := DataW.trod_int Tryd.underlying2 f5
  obtain ⟨v6, h6, _⟩ := DataW.trod_bool Tryd.underlying4 f6
  obtain ⟨a2, n2, d2, es, h7, hg⟩ := open_gones f7
  obtain ⟨a3, n3, d3, bs, h8, hs, hm⟩ := open_sig f8
  simp at h0 h1 h2 h3 h4 h5 h6 h7 h8
  subst h0 h1 h2 h3 h4 h5 h6 h7 h8
  exact ⟨a1, n1, d1, a2, n2, d2, a3, n3, d3, ⟨ys, v1, v2, v3, v4, v5, v6, es, bs⟩, rfl, ⟨hp, hg, hs, hm⟩, bounds_i64 w5⟩

end Go.Proofs.YtbfjkmlmnhphoaaDoor

namespace Go.Proofs.YtbfjkmlmnhphoaaDoor

/-- The wrap of a row that lists variables, the world's shape kept. -/
theorem ret_shaped_and {H : Type} {enc : TypeId × Value → H} {a : Assume} {C : Checked} {os : Os} {f : FuncId} {fn : Func} {s : ChangeSpec} {conds : List PathCond} {apart fresh handsOn again : Bool} {X : World → Array Value → Prop}
    (hX : ∀ (w w' : World) (args : Array Value), w.heap = w'.heap → X w args → X w' args)
    (own : ownKnob C.prog.godebug = none) (started : os.Started) (noInit : C.prog.inits.idxOf? f = none) (hfn : C.prog.funcs[f]? = some fn)
    (witness : ∃ (w : World) (tape : Tape) (i : Input), w.os = os ∧ (w.forCall tape i).Shaped C.prog ∧ i.vars = [] ∧ Input.okWide C.prog (w.forCall tape i) .any w.heap.size f i ∧
      ((s.pre enc C.prog fn conds apart (w.forCall tape i).memory i.args ∧ X (w.forCall tape i).memory i.args) ∧ sizedMet enc C.prog fn (OpenSpec.ofChange s) apart (w.forCall tape i).memory i.args) ∧ a.holds C.prog (lone (Frame.enter C.prog f i.args .normal) [] (w.forCall tape i)))
    (contract : ∀ (W : World) (base : Nat) (args : Array Value) (ds gs : List (DataW H)) (before : List MemPlace),
      (∀ (j : Nat) t v, fn.params[j]? = some t → args[j]? = some v → Value.okWide C.prog W .any base t v) →
      DataW.Whole enc C.prog fn.params.toList s.vars apart W args.toList ds gs before →
      X W args → W.ShapedOpen C.prog →
      Calls C.prog f args W fun e W' => ∃ v, e = .returned v ∧ s.post enc C.prog fn apart fresh handsOn again W args v W') :
    ReturnsInHanded a C os f .any (fun w args => (s.pre enc C.prog fn conds apart w args ∧ X w args) ∧ sizedMet enc C.prog fn (OpenSpec.ofChange s) apart w args) (s.post enc C.prog fn apart fresh handsOn again) := by
  refine returnsInHanded_of_calls own started noInit witness ?_
  intro w tape i _ hsh _ hok hpre _
  obtain ⟨_, _, _, fn', hfn', _, _, _, _, hval⟩ := hok
  have e : fn' = fn := Option.some.inj (hfn'.symm.trans hfn)
  subst e
  obtain ⟨⟨⟨ds, gs, before, hw, _⟩, hx⟩, _⟩ := hpre
  have hw' := DataW.Whole.of_heap (w' := w.forCall tape i) (by rfl) hw
  refine (contract (w.forCall tape i) w.heap.size i.args ds gs before hval hw' (hX _ _ _ (by rfl) hx) hsh).mono fun e W' ⟨v, he, hp⟩ => ?_
  subst he
  exact ChangeSpec.post_blind hp

end Go.Proofs.YtbfjkmlmnhphoaaDoor

namespace Go.Proofs.YtbfjkmlmnhphoaaDoor.fnExactApplyDelta
open Go.ChangeShapes Go.WideShapes Go.ChangeAt Go.RowKit
set_option linter.unusedVariables false

theorem own : ownKnob Tryd.prog.godebug = none := by kernel_rfl
theorem laidOut : laidOutB Tryd.prog = true := by kernel_rfl
theorem pN : Tryd.prog.globalNamed "internal/strconv.uint64pow10" = some 0 := by kernel_rfl
theorem pT : (Tryd.prog.globals[0]?).map (·.type) = some 137 := by kernel_rfl
theorem cellsU : Tryd.prog.cellsOf 128 = 1 := by kernel_rfl
theorem cellsB : Tryd.prog.cellsOf 137 = 20 := by kernel_rfl
theorem laid_tail {P : Program} {x : String × DataW Unit} {rest : List (String × DataW Unit)} {W : World} (h : laidMet P (x :: rest) W) : laidMet P rest W := by
  obtain ⟨ps, ⟨g, t, cs, fuel, p, q, _, _, _, _, hq, hps⟩, hnd, hall⟩ := h
  subst hps
  exact ⟨q, hq, (List.nodup_append.1 hnd).2.1, fun b off hm => hall b off (List.mem_append.2 (.inr hm))⟩
theorem of_laid {W : World} (h : laidMetH Tryd.prog Rows.fnExactApplyDeltaRow.laid W) : Lib.TabIs Tryd.prog W "internal/strconv.uint64pow10" .u64 Lib.pow10Tab := by
  rw [MakeChecks.laidMetH_plain _ _ _ (by kernel_rfl)] at h
  have h3 : laidMet Tryd.prog [("internal/strconv.uint64pow10", Rows.laid_internal_strconv_uint64pow10)] W := laid_tail (laid_tail h)
  have h4 : laidMet Tryd.prog [("internal/strconv.uint64pow10", Lib.tabData .u64 Lib.pow10Tab)] W := h3
  exact Lib.tabIs_of_head pN pT Tryd.underlying137 Tryd.underlying128 cellsU cellsB h4

set_option maxRecDepth 100000 in
set_option maxRecDepth 10000 in
set_option maxHeartbeats 4000000 in
theorem lifted (os : Os) (started : os.Started) (H : Type) (enc : TypeId × Value → H) :
    ReturnsInHanded {} Tryd.checked os 5 .any (fun w args => (Rows.fnExactApplyDeltaSpec.pre enc Tryd.prog Tryd.f5 [] false w args ∧ laidMetH Tryd.prog Rows.fnExactApplyDeltaRow.laid w) ∧ sizedMet enc Tryd.prog Tryd.f5 (OpenSpec.ofChange Rows.fnExactApplyDeltaSpec) false w args)
      (Rows.fnExactApplyDeltaSpec.post enc Tryd.prog Tryd.f5 false true false false) := by
  refine ret_shaped_and (C := Tryd.checked) (X := fun w _ => laidMetH Tryd.prog Rows.fnExactApplyDeltaRow.laid w) (fun _ _ _ hh h => h.of_heap hh) own started (by kernel_rfl) Tryd.func5
    (ChangeSpec.witness_shaped (enc := enc) (C := Tryd.checked) (os := os) (X := fun w _ => laidMetH Tryd.prog Rows.fnExactApplyDeltaRow.laid w) false (World.laidAll Tryd.prog os Rows.fnExactApplyDeltaRow.laid) #[.agg #[.slice none 0 0, .int .i64 0, .int .i64 0, .int .i64 0, .int .i64 0, .int .i64 0, .bool false, .slice none 0 0, .slice none 0 0], .agg #[.slice none 0 0, .int .i64 0, .int .i64 0, .int .i64 0, .int .i64 0, .int .i64 0, .bool false, .slice none 0 0, .slice none 0 0]] 8 (World.laidAll_os _ _ _)
      (World.shaped_of_ZipB (by kernel_rfl) (by kernel_rfl)) (by kernel_rfl) (by kernel_rfl) (by kernel_rfl)
      (by rw [MakeChecks.laidMetH_plain _ _ _ (by kernel_rfl)]; exact laidMet_laidAll _ (by kernel_rfl) (by kernel_rfl))) ?_
  intro W base args ds gs before hval0 hW hL hsh
  have hval : ∀ (j : Nat) t v, Tryd.f5.params[j]? = some t → args[j]? = some v → Value.okWide Tryd.prog W .any base t v := hval0
  have hW' := hW
  obtain ⟨p, q, hA0, hV, rfl, hfz, hnd⟩ := hW
  have hA : DataW.TrodAll enc Tryd.prog W 0 (fun _ => true) true Tryd.f5.params.toList args.toList ds p := hA0
  rw [Tryd.params5] at hA hval
  obtain ⟨v0, vs0, d0, ds0, p0, q0, hargs, rfl, rfl, h0, r0⟩ := trodAll_cons hA
  obtain ⟨v1, vs1, d1, ds1, p1, q1, rfl, rfl, rfl, h1, r1⟩ := trodAll_cons r0
  obtain ⟨rfl, rfl, rfl⟩ := trodAll_nil r1
  obtain rfl : args = #[v0, v1] := by cases args; simp_all
  obtain ⟨rfl, rfl⟩ := trodVars_none hV
  obtain ⟨cs0, rfl, hcs0⟩ := okWide_struct Tryd.underlying28 (hval 0 28 v0 rfl rfl)
  have k0 := h0
  have lt0 : ∀ x ∈ p0, x.block < W.heap.size := by obtain ⟨m, hm⟩ := k0; exact DataW.trod_lt m _ _ _ hm
  obtain ⟨a0_1, n0_1, c0_1, a0_2, n0_2, c0_2, a0_3, n0_3, c0_3, x0, hcells0, w0⟩ : ∃ a0_1 n0_1 c0_1 a0_2 n0_2 c0_2 a0_3 n0_3 c0_3, ∃ x0 : CP, cs0.toList = [.slice a0_1 n0_1 c0_1, .int .i64 x0.num, .int .i64 x0.base, .int .i64 x0.tm, .int .i64 x0.next, .int .i64 x0.scope, .bool x0.ind, .slice a0_2 n0_2 c0_2, .slice a0_3 n0_3 c0_3] ∧ Crs W a0_1 n0_1 a0_2 n0_2 a0_3 n0_3 x0 ∧ -9223372036854775808 ≤ x0.scope ∧ x0.scope ≤ 9223372036854775807 := by
    obtain ⟨fuel, hf⟩ := h0
    exact open_crlW hf
  obtain rfl : cs0 = #[.slice a0_1 n0_1 c0_1, .int .i64 x0.num, .int .i64 x0.base, .int .i64 x0.tm, .int .i64 x0.next, .int .i64 x0.scope, .bool x0.ind, .slice a0_2 n0_2 c0_2, .slice a0_3 n0_3 c0_3] := by
    cases cs0; simp_all
  obtain ⟨cs1, rfl, hcs1⟩ := okWide_struct Tryd.underlying28 (hval 1 28 v1 rfl rfl)
  have k1 := h1
  have lt1 : ∀ x ∈ p1, x.block < W.heap.size := by obtain ⟨m, hm⟩ := k1; exact DataW.trod_lt m _ _ _ hm
  obtain ⟨a1_1, n1_1, c1_1, a1_2, n1_2, c1_2, a1_3, n1_3, c1_3, x1, hcells1, w1⟩ : ∃ a1_1 n1_1 c1_1 a1_2 n1_2 c1_2 a1_3 n1_3 c1_3, ∃ x1 : CP, cs1.toList = [.slice a1_1 n1_1 c1_1, .int .i64 x1.num, .int .i64 x1.base, .int .i64 x1.tm, .int .i64 x1.next, .int .i64 x1.scope, .bool x1.ind, .slice a1_2 n1_2 c1_2, .slice a1_3 n1_3 c1_3] ∧ Crs W a1_1 n1_1 a1_2 n1_2 a1_3 n1_3 x1 ∧ -9223372036854775808 ≤ x1.scope ∧ x1.scope ≤ 9223372036854775807 := by
    obtain ⟨fuel, hf⟩ := h1
    exact open_crlW hf
  obtain rfl : cs1 = #[.slice a1_1 n1_1 c1_1, .int .i64 x1.num, .int .i64 x1.base, .int .i64 x1.tm, .int .i64 x1.next, .int .i64 x1.scope, .bool x1.ind, .slice a1_2 n1_2 c1_2, .slice a1_3 n1_3 c1_3] := by
    cases cs1; simp_all
  clear hA0 hval0
  refine (lawApplyDelta_walk a0_1 n0_1 c0_1 a0_2 n0_2 c0_2 a0_3 n0_3 c0_3 x0 a1_1 n1_1 c1_1 a1_2 n1_2 c1_2 a1_3 n1_3 c1_3 x1 W (of_laid hL) w0.2 w1.2 w0.1 w1.1).mono fun e W' ⟨he, bel⟩ => ?_
  subst he
  exact ⟨_, rfl, _, _, _, [], _, [], hW', trodAll_mk1 (shut_bool Tryd.underlying4 _), (trodAll_cons_mk (Below.trod laidOut (by kernel_rfl) (of_decide_eq_true (by kernel_rfl)) k0 bel lt0) (trodAll_cons_mk (Below.trod laidOut (by kernel_rfl) (of_decide_eq_true (by kernel_rfl)) k1 bel lt1) trodAll_mk0)), rfl, bel.frame _, fun h => by cases h⟩

theorem over : Rows.FnExactApplyDeltaSaid :=
  OpenClaim.holds_of_wide 5 Tryd.f5 rfl rfl rfl rfl rfl rfl rfl ⟨rfl, rfl, rfl, rfl, rfl⟩ rfl rfl rfl rfl rfl (by kernel_rfl) Tryd.func5 (by kernel_rfl)
    (of_decide_eq_true (by kernel_rfl)) (by unfold Func.isWrapper; first | (rw [if_pos (by decide +kernel)]; kernel_rfl) | (rw [if_neg (by decide +kernel)]; exact ⟨rfl, rfl⟩))
    (fun os started H enc _ => lifted os started H enc)

theorem proved : Rows.FnExactApplyDeltaCardSaid :=
  Claim7.holds_tied_plain_at .later [] [.data, .data, .data] true (true, "cd5e8cb9de5b68c582ba1027bfa8e8b4548153fb0a48119b4190750f33a5f1c6") false
    over (fun _ h => by cases h) (by kernel_rfl) (fun _ h => by cases h) fnExactApplyDelta_row_tie rfl ⟨rfl, rfl⟩ (by kernel_rfl) rfl
    (fun f fn hf hfn => by
      obtain rfl : f = 5 := Option.some.inj ((show Tryd.prog.funcNamed Rows.fnExactApplyDeltaRow.func = some 5 by kernel_rfl).symm.trans hf) |>.symm
      obtain rfl : fn = Tryd.f5 := (Option.some.inj (Tryd.func5.symm.trans hfn)).symm
      exact ⟨by kernel_rfl, fun j t ht => by
        rw [Tryd.params5] at ht
        have hm : t ∈ [28] := by simpa using Array.mem_of_getElem? ht
        have hall : ([28].all fun u => !Tryd.prog.wantsStandIn u) = true := by kernel_rfl
        exact (show Tryd.prog.wantsStandIn t = false by simpa using List.all_eq_true.1 hall t hm)⟩)
    (by kernel_rfl)
end Go.Proofs.YtbfjkmlmnhphoaaDoor.fnExactApplyDelta
namespace Go.Proofs.YtbfjkmlmnhphoaaDoor
theorem fnExactApplyDeltaCard_holds : Rows.FnExactApplyDeltaCardSaid := fnExactApplyDelta.proved
#print axioms fnExactApplyDeltaCard_holds
end Go.Proofs.YtbfjkmlmnhphoaaDoor
