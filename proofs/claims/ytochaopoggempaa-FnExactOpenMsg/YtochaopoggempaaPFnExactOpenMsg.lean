import Derived.Test.YtochaopoggempaaRows
import Derived.Test.YtochaopoggempaaLOpenMsg
import Derived.Test.YtochaopoggempaaOpenWr
import Derived.WalkKit
import Derived.ProofKit
import Derived.OpenShut
import Derived.ShutString
import Derived.ChangeOld
import Derived.Below
import Derived.Deep.Slices
import Derived.ChangeArms
import Derived.ChangeSlices
namespace Go.Proofs.Ytochaopoggempaa.fnExactOpenMsg
open Go.ChangeShapes Go.WideShapes Go.ChangeAt Go.RowKit
set_option linter.unusedVariables false

theorem own : ownKnob Try.prog.godebug = none := by kernel_rfl
theorem laidOut : laidOutB Try.prog = true := by kernel_rfl

theorem walk (s0v0 : Int) (s0a1 : Option Addr) (s0n1 s0c1 : Nat) (s0z1 : List (Int × Int)) (s0a2 : Option Addr) (s0n2 s0c2 : Nat) (s0z2 : List Int) (s0v3 : Int) (a1 : Int) (w : World) (w0 : (Lit.int .i64 s0v0).wf = true ∧ (RowWr w s0a1 s0n1 s0z1 ∧ s0n1 ≤ 9223372036854775807) ∧ (Row w s0a2 s0n2 s0z2 ∧ s0n2 ≤ 9223372036854775807) ∧ (Lit.int .u64 s0v3).wf = true) (w1 : (Lit.int .i64 a1).wf = true) :
    Calls Try.prog 7 #[.agg #[.int .i64 s0v0, .slice s0a1 s0n1 s0c1, .slice s0a2 s0n2 s0c2, .int .u64 s0v3], .int .i64 a1] w fun e w' => e = .returned (.bool true) ∧ Below w.heap.size w w' :=
  lawOpenMsg_walk s0v0 s0a1 s0n1 s0c1 s0a2 s0n2 s0c2 s0v3 s0z1 s0z2 a1 w w0.2.1.1 w0.2.2.1.1 w0.2.1.2 w0.2.2.1.2

theorem open_rowB {H : Type} {enc : TypeId × Value → H} {W : World} {fuel : Nat} {cs : List Value} {x : DataW H × List MemPlace} (h : DataW.trod enc Try.prog W 0 (fun _ => true) true fuel 22 cs = some x) :
    ∃ a n cap zs, cs = [.slice a n cap] ∧ Row W a n zs ∧ n ≤ 9223372036854775807 := by
  rcases open_ints Try.underlying22 Try.underlying5 (by kernel_rfl) h with ⟨rfl, _⟩ | ⟨a, len, cap, zs, rfl, _, hl, hm, hz, _, hc, hwz⟩
  · exact ⟨none, 0, 0, [], rfl, ⟨rfl, fun k hk => absurd hk (Nat.not_lt_zero _), by simp⟩, by decide⟩
  · obtain ⟨h1, h2⟩ := IsRow.row (.inr ⟨_, rfl, hl, hm, by simpa using hz, hc, hwz⟩ : IsRow .u8 W (some a) len cap zs)
    exact ⟨some a, len, cap, zs.take len, rfl, h1, by unfold maxLen at h2; omega⟩

set_option maxRecDepth 20000 in
theorem open_laws_Envelope {H : Type} {enc : TypeId × Value → H} {W : World} {fuel : Nat} {cs : List Value} {x : DataW H × List MemPlace} (h : DataW.trod enc Try.prog W 0 (fun _ => true) true fuel 58 cs = some x) :
    ∃ (qv0 : Int) (qa1 : Option Addr) (qn1 qc1 : Nat) (qz1 : List (Int × Int)) (qa2 : Option Addr) (qn2 qc2 : Nat) (qz2 : List Int) (qv3 : Int), cs = [.int .i64 qv0, .slice qa1 qn1 qc1, .slice qa2 qn2 qc2, .int .u64 qv3] ∧ (Lit.int .i64 qv0).wf = true ∧ (RowWr W qa1 qn1 qz1 ∧ qn1 ≤ 9223372036854775807) ∧ (Row W qa2 qn2 qz2 ∧ qn2 ≤ 9223372036854775807) ∧ (Lit.int .u64 qv3).wf = true := by
  obtain ⟨xs, m, rfl, _, hl, hxl, hf⟩ := DataW.trod_struct Try.underlying58 h
  have hl2 : cs.length = 4 := hl.trans (by kernel_rfl)
  have hx2 : xs.length = 4 := hxl
  obtain ⟨c0, c1, c2, c3, rfl⟩ : ∃ c0 c1 c2 c3, cs = [c0, c1, c2, c3] := by
    match cs, hl2 with
    | [c0, c1, c2, c3], _ => exact ⟨c0, c1, c2, c3, rfl⟩
  obtain ⟨x0, x1, x2, x3, rfl⟩ : ∃ c0 c1 c2 c3, xs = [c0, c1, c2, c3] := by
    match xs, hx2 with
    | [c0, c1, c2, c3], _ => exact ⟨c0, c1, c2, c3, rfl⟩
  have e_bytes : Try.prog.cellsOf 22 = 1 := by kernel_rfl
  have e_i64 : Try.prog.cellsOf 2 = 1 := by kernel_rfl
  have e_u64 : Try.prog.cellsOf 23 = 1 := by kernel_rfl
  have e_wr : Try.prog.cellsOf 56 = 1 := by kernel_rfl
  have f0 : DataW.trod enc Try.prog W 0 (fun _ => true) true m 2 ((([c0, c1, c2, c3] : List Value).drop 0).take (Try.prog.cellsOf 2)) = some x0 := hf 0 _ rfl
  rw [e_i64] at f0
  obtain ⟨qv0, g0, _, u0⟩ := DataW.trod_int Try.underlying2 f0
  have f1 : DataW.trod enc Try.prog W 0 (fun _ => true) true m 56 ((([c0, c1, c2, c3] : List Value).drop 1).take (Try.prog.cellsOf 56)) = some x1 := hf 1 _ rfl
  rw [e_wr] at f1
  obtain ⟨qa1, qn1, qc1, qz1, g1, uu1⟩ := open_Wrs f1
  have u1 := And.intro uu1.1 uu1.2.1
  have f2 : DataW.trod enc Try.prog W 0 (fun _ => true) true m 22 ((([c0, c1, c2, c3] : List Value).drop 2).take (Try.prog.cellsOf 22)) = some x2 := hf 2 _ rfl
  rw [e_bytes] at f2
  obtain ⟨qa2, qn2, qc2, qz2, g2, u2⟩ := open_rowB f2
  have f3 : DataW.trod enc Try.prog W 0 (fun _ => true) true m 23 ((([c0, c1, c2, c3] : List Value).drop 3).take (Try.prog.cellsOf 23)) = some x3 := hf 3 _ rfl
  rw [e_u64] at f3
  obtain ⟨qv3, g3, _, u3⟩ := DataW.trod_int Try.underlying23 f3
  simp at g0 g1 g2 g3
  subst g0 g1 g2 g3
  exact ⟨qv0, qa1, qn1, qc1, qz1, qa2, qn2, qc2, qz2, qv3, rfl, u0, u1, u2, u3⟩

set_option maxRecDepth 100000 in
theorem lifted (os : Os) (started : os.Started) (H : Type) (enc : TypeId × Value → H) :
    ReturnsInHanded {} Try.checked os 7 .any (Rows.fnExactOpenMsgSpec.pre6 enc Try.prog Try.f7 Rows.fnExactOpenMsgRow.domain false) (Rows.fnExactOpenMsgSpec.post enc Try.prog Try.f7 false true false false) := by
  refine returnsInHanded_of_change (C := Try.checked) own started (by kernel_rfl) Try.func7
    (ChangeSpec.witness6 (enc := enc) (C := Try.checked) false ⟨#[], #[.agg #[.int .i64 0, .slice none 0 0, .slice none 0 0, .int .u64 0], .int .i64 0], []⟩ 8 (by kernel_rfl) (by kernel_rfl) (by kernel_rfl) (by kernel_rfl)) ?_
  intro W base args ds gs before hval0 hW hcnd _
  have hval : ∀ (j : Nat) t v, Try.f7.params[j]? = some t → args[j]? = some v → Value.okWide Try.prog W .any base t v := hval0
  have hW' := hW
  obtain ⟨p, q, hA0, hV, rfl, hfz, hnd⟩ := hW
  have hA : DataW.TrodAll enc Try.prog W 0 (fun _ => true) true Try.f7.params.toList args.toList ds p := hA0
  rw [Try.params7] at hA hval
  obtain ⟨v0, vs0, d0, ds0, p0, q0, hargs, rfl, rfl, h0, r0⟩ := trodAll_cons hA
  obtain ⟨v1, vs1, d1, ds1, p1, q1, rfl, rfl, rfl, h1, r1⟩ := trodAll_cons r0
  obtain ⟨rfl, rfl, rfl⟩ := trodAll_nil r1
  obtain rfl : args = #[v0, v1] := by cases args; simp_all
  obtain ⟨rfl, rfl⟩ := trodVars_none hV
  obtain ⟨cs0, rfl, hcs0⟩ := okWide_struct Try.underlying58 (hval 0 58 v0 rfl rfl)
  have k0 := h0
  have lt0 : ∀ x ∈ p0, x.block < W.heap.size := by obtain ⟨m, hm⟩ := k0; exact DataW.trod_lt m _ _ _ hm
  obtain ⟨s0v0, s0a1, s0n1, s0c1, s0z1, s0a2, s0n2, s0c2, s0z2, s0v3, hl0, w0⟩ : ∃ (s0v0 : Int) (s0a1 : Option Addr) (s0n1 s0c1 : Nat) (s0z1 : List (Int × Int)) (s0a2 : Option Addr) (s0n2 s0c2 : Nat) (s0z2 : List Int) (s0v3 : Int), cs0.toList = [.int .i64 s0v0, .slice s0a1 s0n1 s0c1, .slice s0a2 s0n2 s0c2, .int .u64 s0v3] ∧ (Lit.int .i64 s0v0).wf = true ∧ (RowWr W s0a1 s0n1 s0z1 ∧ s0n1 ≤ 9223372036854775807) ∧ (Row W s0a2 s0n2 s0z2 ∧ s0n2 ≤ 9223372036854775807) ∧ (Lit.int .u64 s0v3).wf = true := by
    obtain ⟨fuel, hf⟩ := h0
    exact open_laws_Envelope hf
  obtain rfl : cs0 = #[.int .i64 s0v0, .slice s0a1 s0n1 s0c1, .slice s0a2 s0n2 s0c2, .int .u64 s0v3] := by
    cases cs0; simp_all
  obtain ⟨a1, rfl, rfl, rfl, w1⟩ := open_int Try.underlying2 (hval 1 2 v1 rfl rfl) h1
  clear hA0 hval0
  refine (walk s0v0 s0a1 s0n1 s0c1 s0z1 s0a2 s0n2 s0c2 s0z2 s0v3 a1 W w0 w1).mono fun e W' ⟨he, bel⟩ => ?_
  subst he
  exact ⟨_, rfl, _, _, _, [], _, [], hW', trodAll_mk1 (shut_bool Try.underlying4 _), (trodAll_cons_mk (Below.trod laidOut (by kernel_rfl) (of_decide_eq_true (by kernel_rfl)) k0 bel lt0) (trodAll_cons_mk (shut_int Try.underlying2 w1) trodAll_mk0)), rfl, bel.frame _, fun h => by cases h⟩

theorem over : Rows.fnExactOpenMsgRow.holds Try.pinned (OpenSpec.ofChange Rows.fnExactOpenMsgSpec) :=
  OpenClaim.holds_of_wide 7 Try.f7 rfl rfl rfl rfl rfl rfl rfl ⟨rfl, rfl, rfl, rfl, rfl⟩ rfl rfl rfl rfl rfl (by kernel_rfl) Try.func7 (by kernel_rfl)
    (of_decide_eq_true (by kernel_rfl)) (by unfold Func.isWrapper; first | (rw [if_pos (by decide +kernel)]; kernel_rfl) | (rw [if_neg (by decide +kernel)]; exact ⟨rfl, rfl⟩))
    (fun os started H enc _ => lifted os started H enc)

theorem proved : Rows.FnExactOpenMsgSaid := over
end Go.Proofs.Ytochaopoggempaa.fnExactOpenMsg
namespace Go.Proofs.Ytochaopoggempaa
theorem fnExactOpenMsg_holds : Rows.FnExactOpenMsgSaid := fnExactOpenMsg.proved
#print axioms fnExactOpenMsg_holds
end Go.Proofs.Ytochaopoggempaa
