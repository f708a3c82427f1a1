import Derived.Test.YtddopoadpbbpoaaRows
import Derived.Test.YtddopoadpbbpoaaTV7
import Derived.WalkKit
import Derived.ProofKit
import Derived.OpenShut
import Derived.ShutString
import Derived.ChangeOld
import Derived.Below
import Derived.Deep.Slices
import Derived.ChangeArms
import Derived.ChangeSlices
namespace Go.Proofs.Ytddopoadpbbpoaa.fnExactTreeVerify
open Go.ChangeShapes Go.WideShapes Go.ChangeAt Go.RowKit
set_option linter.unusedVariables false

theorem own : ownKnob Try.prog.godebug = none := by kernel_rfl
theorem laidOut : laidOutB Try.prog = true := by kernel_rfl

theorem walk (a0 : Int) (a1 : Int) (a2 : Option Addr) (len2 cap2 : Nat) (z2 : List Int) (a3 : Int) (ae3 : Option Addr) (ne3 ce3 : Nat) (ez3 : List Int) (ap3 : Option Addr) (np3 cp3 : Nat) (pz3 : List Int) (w : World) (w0 : (Lit.int .u64 a0).wf = true) (w1 : (Lit.int .i64 a1).wf = true) (w2 : IsRow .u8 w a2 len2 cap2 z2) (w3 : (RowU w ae3 ne3 ez3 ∧ ne3 ≤ 9223372036854775807) ∧ RowU w ap3 np3 pz3 ∧ np3 ≤ 9223372036854775807) :
    Calls Try.prog 4 #[.int .u64 a0, .int .i64 a1, .slice a2 len2 cap2, .agg #[.int .i64 a3, .slice ae3 ne3 ce3, .slice ap3 np3 cp3]] w fun e w' => e = .returned (.bool true) ∧ Below w.heap.size w w' :=
  lawTreeVerify_walk a0 a1 a2 len2 cap2 (z2.take len2) a3 ae3 ne3 ce3 ez3 ap3 np3 cp3 pz3 w w2.row.1 (Nat.le_trans w2.row.2 (by decide)) w3.1.1 w3.2.1 w3.1.2 w3.2.2

theorem open_rowU {H : Type} {enc : TypeId × Value → H} {W : World} {fuel : Nat} {cs : List Value} {x : DataW H × List MemPlace} (h : DataW.trod enc Try.prog W 0 (fun _ => true) true fuel 26 cs = some x) :
    ∃ a n cap zs, cs = [.slice a n cap] ∧ RowU W a n zs ∧ n ≤ 9223372036854775807 := by
  rcases open_ints Try.underlying26 Try.underlying22 (by kernel_rfl) h with ⟨rfl, _⟩ | ⟨a, len, cap, zs, rfl, _, hl, hm, hz, _, hc, hwz⟩
  · exact ⟨none, 0, 0, [], rfl, ⟨rfl, fun k hk => absurd hk (Nat.not_lt_zero _), by simp [U64]⟩, by decide⟩
  · have hz' : zs.length = cap := by simpa using hz
    refine ⟨some a, len, cap, zs.take len, rfl, ⟨by rw [List.length_take]; omega, fun k hk => ?_, fun k => ?_⟩, by unfold maxLen at hm; omega⟩
    · have h0 := hc k (by omega)
      obtain ⟨b, off, spot⟩ := a
      have hs : spot = none := by simpa [Addr.add] using World.cell?_spot (hc 0 (by omega))
      subst hs
      rw [Addr.add_lit] at h0
      refine ⟨b, off, rfl, World.block_lt_of_cell? W _ h0, h0.trans ?_⟩
      simp [hk]
    · rw [List.getD_eq_getElem?_getD, List.getElem?_take]
      split
      · by_cases hk : k < zs.length
        · rw [List.getElem?_eq_getElem hk]
          exact bounds_u64 (hwz _ (List.getElem_mem hk))
        · rw [List.getElem?_eq_none (by omega)]; simp [U64]
      · simp [U64]

set_option maxRecDepth 20000 in
theorem open_tsig {H : Type} {enc : TypeId × Value → H} {W : World} {fuel : Nat} {cs : List Value} {x : DataW H × List MemPlace} (h : DataW.trod enc Try.prog W 0 (fun _ => true) true fuel 40 cs = some x) :
    ∃ (leaf : Int) (a1 : Option Addr) (n1 c1 : Nat) (z1 : List Int) (a2 : Option Addr) (n2 c2 : Nat) (z2 : List Int), cs = [.int .i64 leaf, .slice a1 n1 c1, .slice a2 n2 c2] ∧ (RowU W a1 n1 z1 ∧ n1 ≤ 9223372036854775807) ∧ RowU W a2 n2 z2 ∧ n2 ≤ 9223372036854775807 := by
  obtain ⟨xs, m, rfl, _, hl, hxl, hf⟩ := DataW.trod_struct Try.underlying40 h
  have hl2 : cs.length = 3 := hl.trans (by kernel_rfl)
  have hx2 : xs.length = 3 := hxl
  obtain ⟨c0, c1, c2, rfl⟩ : ∃ c0 c1 c2, cs = [c0, c1, c2] := by
    match cs, hl2 with
    | [c0, c1, c2], _ => exact ⟨c0, c1, c2, rfl⟩
  obtain ⟨x0, x1, x2, rfl⟩ : ∃ c0 c1 c2, xs = [c0, c1, c2] := by
    match xs, hx2 with
    | [c0, c1, c2], _ => exact ⟨c0, c1, c2, rfl⟩
  have e1 : Try.prog.cellsOf 2 = 1 := by kernel_rfl
  have e2 : Try.prog.cellsOf 26 = 1 := by kernel_rfl
  have f0 : DataW.trod enc Try.prog W 0 (fun _ => true) true m 2 ((([c0, c1, c2] : List Value).drop 0).take (Try.prog.cellsOf 2)) = some x0 := hf 0 _ rfl
  rw [e1] at f0
  have f1 : DataW.trod enc Try.prog W 0 (fun _ => true) true m 26 ((([c0, c1, c2] : List Value).drop 1).take (Try.prog.cellsOf 26)) = some x1 := hf 1 _ rfl
  rw [e2] at f1
  have f2 : DataW.trod enc Try.prog W 0 (fun _ => true) true m 26 ((([c0, c1, c2] : List Value).drop 2).take (Try.prog.cellsOf 26)) = some x2 := hf 2 _ rfl
  rw [e2] at f2
  obtain ⟨n0, h0, _, _⟩ := DataW.trod_int Try.underlying2 f0
  obtain ⟨a1, n1, p1, z1, h1, r1, q1⟩ := open_rowU f1
  obtain ⟨a2, n2, p2, z2, h2, r2, q2⟩ := open_rowU f2
  simp at h0 h1 h2
  subst h0 h1 h2
  exact ⟨n0, a1, n1, p1, z1, a2, n2, p2, z2, rfl, ⟨r1, q1⟩, r2, q2⟩

set_option maxRecDepth 100000 in
theorem lifted (os : Os) (started : os.Started) (H : Type) (enc : TypeId × Value → H) :
    ReturnsInHanded {} Try.checked os 4 .any (Rows.fnExactTreeVerifySpec.pre6 enc Try.prog Try.f4 Rows.fnExactTreeVerifyRow.domain false) (Rows.fnExactTreeVerifySpec.post enc Try.prog Try.f4 false true false false) := by
  refine returnsInHanded_of_change (C := Try.checked) own started (by kernel_rfl) Try.func4
    (ChangeSpec.witness6 (enc := enc) (C := Try.checked) false ⟨#[], #[.int .u64 0, .int .i64 0, .slice none 0 0, .agg #[.int .i64 0, .slice none 0 0, .slice none 0 0]], []⟩ 8 (by kernel_rfl) (by kernel_rfl) (by kernel_rfl) (by kernel_rfl)) ?_
  intro W base args ds gs before hval0 hW hcnd _
  have hval : ∀ (j : Nat) t v, Try.f4.params[j]? = some t → args[j]? = some v → Value.okWide Try.prog W .any base t v := hval0
  have hW' := hW
  obtain ⟨p, q, hA0, hV, rfl, hfz, hnd⟩ := hW
  have hA : DataW.TrodAll enc Try.prog W 0 (fun _ => true) true Try.f4.params.toList args.toList ds p := hA0
  rw [Try.params4] at hA hval
  obtain ⟨v0, vs0, d0, ds0, p0, q0, hargs, rfl, rfl, h0, r0⟩ := trodAll_cons hA
  obtain ⟨v1, vs1, d1, ds1, p1, q1, rfl, rfl, rfl, h1, r1⟩ := trodAll_cons r0
  obtain ⟨v2, vs2, d2, ds2, p2, q2, rfl, rfl, rfl, h2, r2⟩ := trodAll_cons r1
  obtain ⟨v3, vs3, d3, ds3, p3, q3, rfl, rfl, rfl, h3, r3⟩ := trodAll_cons r2
  obtain ⟨rfl, rfl, rfl⟩ := trodAll_nil r3
  obtain rfl : args = #[v0, v1, v2, v3] := by cases args; simp_all
  obtain ⟨rfl, rfl⟩ := trodVars_none hV
  obtain ⟨a0, rfl, rfl, rfl, w0⟩ := open_int Try.underlying22 (hval 0 22 v0 rfl rfl) h0
  obtain ⟨a1, rfl, rfl, rfl, w1⟩ := open_int Try.underlying2 (hval 1 2 v1 rfl rfl) h1
  obtain ⟨a2, len2, cap2, rfl⟩ := okWide_slice Try.underlying25 (hval 2 25 v2 rfl rfl)
  have k2 := h2
  have lt2 : ∀ x ∈ p2, x.block < W.heap.size := by obtain ⟨m, hm⟩ := k2; exact DataW.trod_lt m _ _ _ hm
  obtain ⟨z2, w2⟩ : ∃ zs, IsRow .u8 W a2 len2 cap2 zs := by
    obtain ⟨fuel, hf⟩ := h2
    rcases open_ints Try.underlying25 Try.underlying5 (by kernel_rfl) hf with ⟨hcs, _⟩ | ⟨x, l, c, zs, hcs, _, hl, hm, hz, _, hcell, hwz⟩
    · simp [Value.cells] at hcs
      obtain ⟨rfl, rfl, rfl⟩ := hcs
      exact ⟨[], .inl ⟨rfl, rfl, rfl, rfl⟩⟩
    · simp [Value.cells] at hcs
      obtain ⟨rfl, rfl, rfl⟩ := hcs
      exact ⟨zs, .inr ⟨_, rfl, hl, hm, by simpa using hz, hcell, hwz⟩⟩
  obtain ⟨cs3, rfl, hcs3⟩ := okWide_struct Try.underlying40 (hval 3 40 v3 rfl rfl)
  have k3 := h3
  have lt3 : ∀ x ∈ p3, x.block < W.heap.size := by obtain ⟨m, hm⟩ := k3; exact DataW.trod_lt m _ _ _ hm
  obtain ⟨a3, ae3, ne3, ce3, ez3, ap3, np3, cp3, pz3, hl3, w3⟩ : ∃ (leaf : Int) (a1 : Option Addr) (n1 c1 : Nat) (z1 : List Int) (a2 : Option Addr) (n2 c2 : Nat) (z2 : List Int), cs3.toList = [.int .i64 leaf, .slice a1 n1 c1, .slice a2 n2 c2] ∧ (RowU W a1 n1 z1 ∧ n1 ≤ 9223372036854775807) ∧ RowU W a2 n2 z2 ∧ n2 ≤ 9223372036854775807 := by
    obtain ⟨fuel, hf⟩ := h3
    exact open_tsig hf
  obtain rfl : cs3 = #[.int .i64 a3, .slice ae3 ne3 ce3, .slice ap3 np3 cp3] := by
    cases cs3; simp_all
  clear hA0 hval0
  refine (walk a0 a1 a2 len2 cap2 z2 a3 ae3 ne3 ce3 ez3 ap3 np3 cp3 pz3 W w0 w1 w2 w3).mono fun e W' ⟨he, bel⟩ => ?_
  subst he
  exact ⟨_, rfl, _, _, _, [], _, [], hW', trodAll_mk1 (shut_bool Try.underlying4 _), (trodAll_cons_mk (shut_int Try.underlying22 w0) (trodAll_cons_mk (shut_int Try.underlying2 w1) (trodAll_cons_mk (Below.trod laidOut (by kernel_rfl) (of_decide_eq_true (by kernel_rfl)) k2 bel lt2) (trodAll_cons_mk (Below.trod laidOut (by kernel_rfl) (of_decide_eq_true (by kernel_rfl)) k3 bel lt3) trodAll_mk0)))), rfl, bel.frame _, fun h => by cases h⟩

theorem over : Rows.fnExactTreeVerifyRow.holds Try.pinned (OpenSpec.ofChange Rows.fnExactTreeVerifySpec) :=
  OpenClaim.holds_of_wide 4 Try.f4 rfl rfl rfl rfl rfl rfl rfl ⟨rfl, rfl, rfl, rfl, rfl⟩ rfl rfl rfl rfl rfl (by kernel_rfl) Try.func4 (by kernel_rfl)
    (of_decide_eq_true (by kernel_rfl)) (by unfold Func.isWrapper; first | (rw [if_pos (by decide +kernel)]; kernel_rfl) | (rw [if_neg (by decide +kernel)]; exact ⟨rfl, rfl⟩))
    (fun os started H enc _ => lifted os started H enc)

theorem proved : Rows.FnExactTreeVerifySaid := over
end Go.Proofs.Ytddopoadpbbpoaa.fnExactTreeVerify
namespace Go.Proofs.Ytddopoadpbbpoaa
theorem fnExactTreeVerify_holds : Rows.FnExactTreeVerifySaid := fnExactTreeVerify.proved
#print axioms fnExactTreeVerify_holds
end Go.Proofs.Ytddopoadpbbpoaa
