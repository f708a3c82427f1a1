import Derived.Test.YtmoekmonkpihhaaGreatRows
import Derived.Test.YtmoekmonkpihhaaGreatMWb
import Derived.WalkKit
import Derived.ProofKit
import Derived.OpenShut
import Derived.ShutString
import Derived.ChangeOld
import Derived.Below
import Derived.Deep.Slices
import Derived.ChangeArms
import Derived.ChangeSlices
namespace Go.Proofs.YtmoekmonkpihhaaGreat.fnExactWatch
open Go.ChangeShapes Go.WideShapes Go.ChangeAt Go.RowKit
set_option linter.unusedVariables false

theorem own : ownKnob Tryz.prog.godebug = none := by kernel_rfl
theorem laidOut : laidOutB Tryz.prog = true := by kernel_rfl

theorem walk (a0_0 a0_1 a0_2 : Int) (s1v0 : Int) (s1v1 : Int) (s1v2 : Int) (s1v3 : Int) (s1a4 : Option Addr) (s1n4 s1c4 : Nat) (s1z4 : List Int) (a2 : Option Addr) (len2 cap2 : Nat) (z2 : List Int) (a3_0 a3_1 a3_2 : Int) (a4 : Int) (a5_0 a5_1 a5_2 a5_3 : Int) (w : World) (w0_0 : (Lit.int .i64 a0_0).wf = true) (w0_1 : (Lit.int .i64 a0_1).wf = true) (w0_2 : (Lit.int .u64 a0_2).wf = true) (w1 : (Lit.int .i64 s1v0).wf = true ∧ (Lit.int .i64 s1v1).wf = true ∧ (Lit.int .u64 s1v2).wf = true ∧ (Lit.int .i64 s1v3).wf = true ∧ (Row w s1a4 s1n4 s1z4 ∧ s1n4 ≤ 9223372036854775807)) (w2 : RowU w a2 len2 z2 ∧ len2 ≤ 9223372036854775807) (w3_0 : (Lit.int .i64 a3_0).wf = true) (w3_1 : (Lit.int .u64 a3_1).wf = true) (w3_2 : (Lit.int .i64 a3_2).wf = true) (w4 : (Lit.int .i64 a4).wf = true) (w5_0 : (Lit.int .i64 a5_0).wf = true) (w5_1 : (Lit.int .u64 a5_1).wf = true) (w5_2 : (Lit.int .i64 a5_2).wf = true) (w5_3 : (Lit.int .i64 a5_3).wf = true) :
    Calls Tryz.prog 3 #[.agg #[.int .i64 a0_0, .int .i64 a0_1, .int .u64 a0_2], .agg #[.int .i64 s1v0, .int .i64 s1v1, .int .u64 s1v2, .int .i64 s1v3, .slice s1a4 s1n4 s1c4], .slice a2 len2 cap2, .agg #[.int .i64 a3_0, .int .u64 a3_1, .int .i64 a3_2], .int .i64 a4, .agg #[.int .i64 a5_0, .int .u64 a5_1, .int .i64 a5_2, .int .i64 a5_3]] w fun e w' => e = .returned (.bool true) ∧ Below w.heap.size w w' :=
  lawWatch_all a0_0 a0_1 a0_2 s1v0 s1v1 s1v2 s1v3 s1a4 s1n4 s1c4 s1z4 a2 len2 cap2 z2 a3_0 a3_1 a3_2 a4 a5_0 a5_1 a5_2 a5_3 w (bounds_u64 w0_2) (bounds_u64 w1.2.2.1) (bounds_u64 w3_1) (bounds_u64 w5_1) (bounds_i64 w1.1) (bounds_i64 w1.2.1) (bounds_i64 w4) w1.2.2.2.2.1 w1.2.2.2.2.2 w2.1 w2.2

set_option maxRecDepth 20000 in
theorem open_laws_Watcher {H : Type} {enc : TypeId × Value → H} {W : World} {fuel : Nat} {cs : List Value} {x : DataW H × List MemPlace} (h : DataW.trod enc Tryz.prog W 0 (fun _ => true) true fuel 24 cs = some x) :
    ∃ n0 n1 n2 : Int, cs = [.int .i64 n0, .int .i64 n1, .int .u64 n2] ∧ (Lit.int .i64 n0).wf = true ∧ (Lit.int .i64 n1).wf = true ∧ (Lit.int .u64 n2).wf = true := by
  obtain ⟨xs, m, rfl, _, hl, hxl, hf⟩ := DataW.trod_struct Tryz.underlying24 h
  have hl2 : cs.length = 3 := hl.trans (by kernel_rfl)
  have hx2 : xs.length = 3 := hxl
  obtain ⟨c0, c1, c2, rfl⟩ : ∃ c0 c1 c2, cs = [c0, c1, c2] := by
    match cs, hl2 with
    | [c0, c1, c2], _ => exact ⟨c0, c1, c2, rfl⟩
  obtain ⟨x0, x1, x2, rfl⟩ : ∃ c0 c1 c2, xs = [c0, c1, c2] := by
    match xs, hx2 with
    | [c0, c1, c2], _ => exact ⟨c0, c1, c2, rfl⟩
  have e_i64 : Tryz.prog.cellsOf 2 = 1 := by kernel_rfl
  have e_u64 : Tryz.prog.cellsOf 22 = 1 := by kernel_rfl
  have f0 : DataW.trod enc Tryz.prog W 0 (fun _ => true) true m 2 ((([c0, c1, c2] : List Value).drop 0).take (Tryz.prog.cellsOf 2)) = some x0 := hf 0 _ rfl
  rw [e_i64] at f0
  obtain ⟨n0, g0, _, u0⟩ := DataW.trod_int Tryz.underlying2 f0
  have f1 : DataW.trod enc Tryz.prog W 0 (fun _ => true) true m 2 ((([c0, c1, c2] : List Value).drop 1).take (Tryz.prog.cellsOf 2)) = some x1 := hf 1 _ rfl
  rw [e_i64] at f1
  obtain ⟨n1, g1, _, u1⟩ := DataW.trod_int Tryz.underlying2 f1
  have f2 : DataW.trod enc Tryz.prog W 0 (fun _ => true) true m 22 ((([c0, c1, c2] : List Value).drop 2).take (Tryz.prog.cellsOf 22)) = some x2 := hf 2 _ rfl
  rw [e_u64] at f2
  obtain ⟨n2, g2, _, u2⟩ := DataW.trod_int Tryz.underlying22 f2
  simp at g0 g1 g2
  subst g0 g1 g2
  exact ⟨n0, n1, n2, rfl, u0, u1, u2⟩

theorem open_rowB {H : Type} {enc : TypeId × Value → H} {W : World} {fuel : Nat} {cs : List Value} {x : DataW H × List MemPlace} (h : DataW.trod enc Tryz.prog W 0 (fun _ => true) true fuel 25 cs = some x) :
    ∃ a n cap zs, cs = [.slice a n cap] ∧ Row W a n zs ∧ n ≤ 9223372036854775807 := by
  rcases open_ints Tryz.underlying25 Tryz.underlying5 (by kernel_rfl) h with ⟨rfl, _⟩ | ⟨a, len, cap, zs, rfl, _, hl, hm, hz, _, hc, hwz⟩
  · exact ⟨none, 0, 0, [], rfl, ⟨rfl, fun k hk => absurd hk (Nat.not_lt_zero _), by simp⟩, by decide⟩
  · obtain ⟨h1, h2⟩ := IsRow.row (.inr ⟨_, rfl, hl, hm, by simpa using hz, hc, hwz⟩ : IsRow .u8 W (some a) len cap zs)
    exact ⟨some a, len, cap, zs.take len, rfl, h1, by unfold maxLen at h2; omega⟩

set_option maxRecDepth 20000 in
theorem open_laws_Head {H : Type} {enc : TypeId × Value → H} {W : World} {fuel : Nat} {cs : List Value} {x : DataW H × List MemPlace} (h : DataW.trod enc Tryz.prog W 0 (fun _ => true) true fuel 27 cs = some x) :
    ∃ (qv0 : Int) (qv1 : Int) (qv2 : Int) (qv3 : Int) (qa4 : Option Addr) (qn4 qc4 : Nat) (qz4 : List Int), cs = [.int .i64 qv0, .int .i64 qv1, .int .u64 qv2, .int .i64 qv3, .slice qa4 qn4 qc4] ∧ (Lit.int .i64 qv0).wf = true ∧ (Lit.int .i64 qv1).wf = true ∧ (Lit.int .u64 qv2).wf = true ∧ (Lit.int .i64 qv3).wf = true ∧ (Row W qa4 qn4 qz4 ∧ qn4 ≤ 9223372036854775807) := by
  obtain ⟨xs, m, rfl, _, hl, hxl, hf⟩ := DataW.trod_struct Tryz.underlying27 h
  have hl2 : cs.length = 5 := hl.trans (by kernel_rfl)
  have hx2 : xs.length = 5 := hxl
  obtain ⟨c0, c1, c2, c3, c4, rfl⟩ : ∃ c0 c1 c2 c3 c4, cs = [c0, c1, c2, c3, c4] := by
    match cs, hl2 with
    | [c0, c1, c2, c3, c4], _ => exact ⟨c0, c1, c2, c3, c4, rfl⟩
  obtain ⟨x0, x1, x2, x3, x4, rfl⟩ : ∃ c0 c1 c2 c3 c4, xs = [c0, c1, c2, c3, c4] := by
    match xs, hx2 with
    | [c0, c1, c2, c3, c4], _ => exact ⟨c0, c1, c2, c3, c4, rfl⟩
  have e_bytes : Tryz.prog.cellsOf 25 = 1 := by kernel_rfl
  have e_i64 : Tryz.prog.cellsOf 2 = 1 := by kernel_rfl
  have e_u64 : Tryz.prog.cellsOf 22 = 1 := by kernel_rfl
  have f0 : DataW.trod enc Tryz.prog W 0 (fun _ => true) true m 2 ((([c0, c1, c2, c3, c4] : List Value).drop 0).take (Tryz.prog.cellsOf 2)) = some x0 := hf 0 _ rfl
  rw [e_i64] at f0
  obtain ⟨qv0, g0, _, u0⟩ := DataW.trod_int Tryz.underlying2 f0
  have f1 : DataW.trod enc Tryz.prog W 0 (fun _ => true) true m 2 ((([c0, c1, c2, c3, c4] : List Value).drop 1).take (Tryz.prog.cellsOf 2)) = some x1 := hf 1 _ rfl
  rw [e_i64] at f1
  obtain ⟨qv1, g1, _, u1⟩ := DataW.trod_int Tryz.underlying2 f1
  have f2 : DataW.trod enc Tryz.prog W 0 (fun _ => true) true m 22 ((([c0, c1, c2, c3, c4] : List Value).drop 2).take (Tryz.prog.cellsOf 22)) = some x2 := hf 2 _ rfl
  rw [e_u64] at f2
  obtain ⟨qv2, g2, _, u2⟩ := DataW.trod_int Tryz.underlying22 f2
  have f3 : DataW.trod enc Tryz.prog W 0 (fun _ => true) true m 2 ((([c0, c1, c2, c3, c4] : List Value).drop 3).take (Tryz.prog.cellsOf 2)) = some x3 := hf 3 _ rfl
  rw [e_i64] at f3
  obtain ⟨qv3, g3, _, u3⟩ := DataW.trod_int Tryz.underlying2 f3
  have f4 : DataW.trod enc Tryz.prog W 0 (fun _ => true) true m 25 ((([c0, c1, c2, c3, c4] : List Value).drop 4).take (Tryz.prog.cellsOf 25)) = some x4 := hf 4 _ rfl
  rw [e_bytes] at f4
  obtain ⟨qa4, qn4, qc4, qz4, g4, u4⟩ := open_rowB f4
  simp at g0 g1 g2 g3 g4
  subst g0 g1 g2 g3 g4
  exact ⟨qv0, qv1, qv2, qv3, qa4, qn4, qc4, qz4, rfl, u0, u1, u2, u3, u4⟩

theorem open_rowU {H : Type} {enc : TypeId × Value → H} {W : World} {fuel : Nat} {cs : List Value} {x : DataW H × List MemPlace} (h : DataW.trod enc Tryz.prog W 0 (fun _ => true) true fuel 28 cs = some x) :
    ∃ a n cap zs, cs = [.slice a n cap] ∧ RowU W a n zs ∧ n ≤ 9223372036854775807 := by
  rcases open_ints Tryz.underlying28 Tryz.underlying22 (by kernel_rfl) h with ⟨rfl, _⟩ | ⟨a, len, cap, zs, rfl, _, hl, hm, hz, _, hc, hwz⟩
  · exact ⟨none, 0, 0, [], rfl, ⟨rfl, fun k hk => absurd hk (Nat.not_lt_zero _), by simp [U64]⟩, by decide⟩
  · have hz' : zs.length = cap := by simpa using hz
    refine ⟨some a, len, cap, zs.take len, rfl, ⟨by rw [List.length_take]; omega, fun k hk => ?_, fun k => ?_⟩, by unfold maxLen at hm; omega⟩
    · have h0 := hc k (by omega)
      obtain ⟨b, off, spot⟩ := a
      have hs : spot = none := by simpa [Addr.add] using World.cell?_spot (hc 0 (by omega))
      subst hs
      rw [Addr.add_lit] at h0
      refine ⟨b, off, rfl, World.block_lt_of_cell? W _ h0, h0.trans ?_⟩
      simp [hk]
    · rw [List.getD_eq_getElem?_getD, List.getElem?_take]
      split
      · by_cases hk : k < zs.length
        · rw [List.getElem?_eq_getElem hk]
          exact bounds_u64 (hwz _ (List.getElem_mem hk))
        · rw [List.getElem?_eq_none (by omega)]; simp [U64]
      · simp [U64]

set_option maxRecDepth 20000 in
theorem open_laws_Pub {H : Type} {enc : TypeId × Value → H} {W : World} {fuel : Nat} {cs : List Value} {x : DataW H × List MemPlace} (h : DataW.trod enc Tryz.prog W 0 (fun _ => true) true fuel 30 cs = some x) :
    ∃ n0 n1 n2 : Int, cs = [.int .i64 n0, .int .u64 n1, .int .i64 n2] ∧ (Lit.int .i64 n0).wf = true ∧ (Lit.int .u64 n1).wf = true ∧ (Lit.int .i64 n2).wf = true := by
  obtain ⟨xs, m, rfl, _, hl, hxl, hf⟩ := DataW.trod_struct Tryz.underlying30 h
  have hl2 : cs.length = 3 := hl.trans (by kernel_rfl)
  have hx2 : xs.length = 3 := hxl
  obtain ⟨c0, c1, c2, rfl⟩ : ∃ c0 c1 c2, cs = [c0, c1, c2] := by
    match cs, hl2 with
    | [c0, c1, c2], _ => exact ⟨c0, c1, c2, rfl⟩
  obtain ⟨x0, x1, x2, rfl⟩ : ∃ c0 c1 c2, xs = [c0, c1, c2] := by
    match xs, hx2 with
    | [c0, c1, c2], _ => exact ⟨c0, c1, c2, rfl⟩
  have e_i64 : Tryz.prog.cellsOf 2 = 1 := by kernel_rfl
  have e_u64 : Tryz.prog.cellsOf 22 = 1 := by kernel_rfl
  have f0 : DataW.trod enc Tryz.prog W 0 (fun _ => true) true m 2 ((([c0, c1, c2] : List Value).drop 0).take (Tryz.prog.cellsOf 2)) = some x0 := hf 0 _ rfl
  rw [e_i64] at f0
  obtain ⟨n0, g0, _, u0⟩ := DataW.trod_int Tryz.underlying2 f0
  have f1 : DataW.trod enc Tryz.prog W 0 (fun _ => true) true m 22 ((([c0, c1, c2] : List Value).drop 1).take (Tryz.prog.cellsOf 22)) = some x1 := hf 1 _ rfl
  rw [e_u64] at f1
  obtain ⟨n1, g1, _, u1⟩ := DataW.trod_int Tryz.underlying22 f1
  have f2 : DataW.trod enc Tryz.prog W 0 (fun _ => true) true m 2 ((([c0, c1, c2] : List Value).drop 2).take (Tryz.prog.cellsOf 2)) = some x2 := hf 2 _ rfl
  rw [e_i64] at f2
  obtain ⟨n2, g2, _, u2⟩ := DataW.trod_int Tryz.underlying2 f2
  simp at g0 g1 g2
  subst g0 g1 g2
  exact ⟨n0, n1, n2, rfl, u0, u1, u2⟩

set_option maxRecDepth 20000 in
theorem open_laws_Secret {H : Type} {enc : TypeId × Value → H} {W : World} {fuel : Nat} {cs : List Value} {x : DataW H × List MemPlace} (h : DataW.trod enc Tryz.prog W 0 (fun _ => true) true fuel 32 cs = some x) :
    ∃ n0 n1 n2 n3 : Int, cs = [.int .i64 n0, .int .u64 n1, .int .i64 n2, .int .i64 n3] ∧ (Lit.int .i64 n0).wf = true ∧ (Lit.int .u64 n1).wf = true ∧ (Lit.int .i64 n2).wf = true ∧ (Lit.int .i64 n3).wf = true := by
  obtain ⟨xs, m, rfl, _, hl, hxl, hf⟩ := DataW.trod_struct Tryz.underlying32 h
  have hl2 : cs.length = 4 := hl.trans (by kernel_rfl)
  have hx2 : xs.length = 4 := hxl
  obtain ⟨c0, c1, c2, c3, rfl⟩ : ∃ c0 c1 c2 c3, cs = [c0, c1, c2, c3] := by
    match cs, hl2 with
    | [c0, c1, c2, c3], _ => exact ⟨c0, c1, c2, c3, rfl⟩
  obtain ⟨x0, x1, x2, x3, rfl⟩ : ∃ c0 c1 c2 c3, xs = [c0, c1, c2, c3] := by
    match xs, hx2 with
    | [c0, c1, c2, c3], _ => exact ⟨c0, c1, c2, c3, rfl⟩
  have e_i64 : Tryz.prog.cellsOf 2 = 1 := by kernel_rfl
  have e_u64 : Tryz.prog.cellsOf 22 = 1 := by kernel_rfl
  have f0 : DataW.trod enc Tryz.prog W 0 (fun _ => true) true m 2 ((([c0, c1, c2, c3] : List Value).drop 0).take (Tryz.prog.cellsOf 2)) = some x0 := hf 0 _ rfl
  rw [e_i64] at f0
  obtain ⟨n0, g0, _, u0⟩ := DataW.trod_int Tryz.underlying2 f0
  have f1 : DataW.trod enc Tryz.prog W 0 (fun _ => true) true m 22 ((([c0, c1, c2, c3] : List Value).drop 1).take (Tryz.prog.cellsOf 22)) = some x1 := hf 1 _ rfl
  rw [e_u64] at f1
  obtain ⟨n1, g1, _, u1⟩ := DataW.trod_int Tryz.underlying22 f1
  have f2 : DataW.trod enc Tryz.prog W 0 (fun _ => true) true m 2 ((([c0, c1, c2, c3] : List Value).drop 2).take (Tryz.prog.cellsOf 2)) = some x2 := hf 2 _ rfl
  rw [e_i64] at f2
  obtain ⟨n2, g2, _, u2⟩ := DataW.trod_int Tryz.underlying2 f2
  have f3 : DataW.trod enc Tryz.prog W 0 (fun _ => true) true m 2 ((([c0, c1, c2, c3] : List Value).drop 3).take (Tryz.prog.cellsOf 2)) = some x3 := hf 3 _ rfl
  rw [e_i64] at f3
  obtain ⟨n3, g3, _, u3⟩ := DataW.trod_int Tryz.underlying2 f3
  simp at g0 g1 g2 g3
  subst g0 g1 g2 g3
  exact ⟨n0, n1, n2, n3, rfl, u0, u1, u2, u3⟩

set_option maxRecDepth 100000 in
theorem lifted (os : Os) (started : os.Started) (H : Type) (enc : TypeId × Value → H) :
    ReturnsInHanded {} Tryz.checked os 3 .any (Rows.fnExactWatchSpec.pre6 enc Tryz.prog Tryz.f3 Rows.fnExactWatchRow.domain false) (Rows.fnExactWatchSpec.post enc Tryz.prog Tryz.f3 false true false false) := by
  refine returnsInHanded_of_change (C := Tryz.checked) own started (by kernel_rfl) Tryz.func3
    (ChangeSpec.witness6 (enc := enc) (C := Tryz.checked) false ⟨#[], #[.agg #[.int .i64 0, .int .i64 0, .int .u64 0], .agg #[.int .i64 0, .int .i64 0, .int .u64 0, .int .i64 0, .slice none 0 0], .slice none 0 0, .agg #[.int .i64 0, .int .u64 0, .int .i64 0], .int .i64 0, .agg #[.int .i64 0, .int .u64 0, .int .i64 0, .int .i64 0]], []⟩ 8 (by kernel_rfl) (by kernel_rfl) (by kernel_rfl) (by kernel_rfl)) ?_
  intro W base args ds gs before hval0 hW hcnd _
  have hval : ∀ (j : Nat) t v, Tryz.f3.params[j]? = some t → args[j]? = some v → Value.okWide Tryz.prog W .any base t v := hval0
  have hW' := hW
  obtain ⟨p, q, hA0, hV, rfl, hfz, hnd⟩ := hW
  have hA : DataW.TrodAll enc Tryz.prog W 0 (fun _ => true) true Tryz.f3.params.toList args.toList ds p := hA0
  rw [Tryz.params3] at hA hval
  obtain ⟨v0, vs0, d0, ds0, p0, q0, hargs, rfl, rfl, h0, r0⟩ := trodAll_cons hA
  obtain ⟨v1, vs1, d1, ds1, p1, q1, rfl, rfl, rfl, h1, r1⟩ := trodAll_cons r0
  obtain ⟨v2, vs2, d2, ds2, p2, q2, rfl, rfl, rfl, h2, r2⟩ := trodAll_cons r1
  obtain ⟨v3, vs3, d3, ds3, p3, q3, rfl, rfl, rfl, h3, r3⟩ := trodAll_cons r2
  obtain ⟨v4, vs4, d4, ds4, p4, q4, rfl, rfl, rfl, h4, r4⟩ := trodAll_cons r3
  obtain ⟨v5, vs5, d5, ds5, p5, q5, rfl, rfl, rfl, h5, r5⟩ := trodAll_cons r4
  obtain ⟨rfl, rfl, rfl⟩ := trodAll_nil r5
  obtain rfl : args = #[v0, v1, v2, v3, v4, v5] := by cases args; simp_all
  obtain ⟨rfl, rfl⟩ := trodVars_none hV
  obtain ⟨cs0, rfl, hcs0⟩ := okWide_struct Tryz.underlying24 (hval 0 24 v0 rfl rfl)
  have k0 := h0
  have lt0 : ∀ x ∈ p0, x.block < W.heap.size := by obtain ⟨m, hm⟩ := k0; exact DataW.trod_lt m _ _ _ hm
  obtain ⟨a0_0, a0_1, a0_2, hl0, w0_0, w0_1, w0_2⟩ : ∃ a0_0 a0_1 a0_2 : Int, cs0.toList = [.int .i64 a0_0, .int .i64 a0_1, .int .u64 a0_2] ∧ (Lit.int .i64 a0_0).wf = true ∧ (Lit.int .i64 a0_1).wf = true ∧ (Lit.int .u64 a0_2).wf = true := by
    obtain ⟨fuel, hf⟩ := h0
    exact open_laws_Watcher hf
  obtain rfl : cs0 = #[.int .i64 a0_0, .int .i64 a0_1, .int .u64 a0_2] := by
    cases cs0; simp_all
  obtain ⟨cs1, rfl, hcs1⟩ := okWide_struct Tryz.underlying27 (hval 1 27 v1 rfl rfl)
  have k1 := h1
  have lt1 : ∀ x ∈ p1, x.block < W.heap.size := by obtain ⟨m, hm⟩ := k1; exact DataW.trod_lt m _ _ _ hm
  obtain ⟨s1v0, s1v1, s1v2, s1v3, s1a4, s1n4, s1c4, s1z4, hl1, w1⟩ : ∃ (s1v0 : Int) (s1v1 : Int) (s1v2 : Int) (s1v3 : Int) (s1a4 : Option Addr) (s1n4 s1c4 : Nat) (s1z4 : List Int), cs1.toList = [.int .i64 s1v0, .int .i64 s1v1, .int .u64 s1v2, .int .i64 s1v3, .slice s1a4 s1n4 s1c4] ∧ (Lit.int .i64 s1v0).wf = true ∧ (Lit.int .i64 s1v1).wf = true ∧ (Lit.int .u64 s1v2).wf = true ∧ (Lit.int .i64 s1v3).wf = true ∧ (Row W s1a4 s1n4 s1z4 ∧ s1n4 ≤ 9223372036854775807) := by
    obtain ⟨fuel, hf⟩ := h1
    exact open_laws_Head hf
  obtain rfl : cs1 = #[.int .i64 s1v0, .int .i64 s1v1, .int .u64 s1v2, .int .i64 s1v3, .slice s1a4 s1n4 s1c4] := by
    cases cs1; simp_all
  obtain ⟨a2, len2, cap2, rfl⟩ := okWide_slice Tryz.underlying28 (hval 2 28 v2 rfl rfl)
  have k2 := h2
  have lt2 : ∀ x ∈ p2, x.block < W.heap.size := by obtain ⟨m, hm⟩ := k2; exact DataW.trod_lt m _ _ _ hm
  obtain ⟨z2, w2⟩ : ∃ ps, RowU W a2 len2 ps ∧ len2 ≤ 9223372036854775807 := by
    obtain ⟨fuel, hf⟩ := h2
    obtain ⟨a, n, cap, zs, hcs, hz, hn⟩ := open_rowU hf
    simp [Value.cells] at hcs
    obtain ⟨rfl, rfl, rfl⟩ := hcs
    exact ⟨zs, hz, hn⟩
  obtain ⟨cs3, rfl, hcs3⟩ := okWide_struct Tryz.underlying30 (hval 3 30 v3 rfl rfl)
  have k3 := h3
  have lt3 : ∀ x ∈ p3, x.block < W.heap.size := by obtain ⟨m, hm⟩ := k3; exact DataW.trod_lt m _ _ _ hm
  obtain ⟨a3_0, a3_1, a3_2, hl3, w3_0, w3_1, w3_2⟩ : ∃ a3_0 a3_1 a3_2 : Int, cs3.toList = [.int .i64 a3_0, .int .u64 a3_1, .int .i64 a3_2] ∧ (Lit.int .i64 a3_0).wf = true ∧ (Lit.int .u64 a3_1).wf = true ∧ (Lit.int .i64 a3_2).wf = true := by
    obtain ⟨fuel, hf⟩ := h3
    exact open_laws_Pub hf
  obtain rfl : cs3 = #[.int .i64 a3_0, .int .u64 a3_1, .int .i64 a3_2] := by
    cases cs3; simp_all
  obtain ⟨a4, rfl, rfl, rfl, w4⟩ := open_int Tryz.underlying2 (hval 4 2 v4 rfl rfl) h4
  obtain ⟨cs5, rfl, hcs5⟩ := okWide_struct Tryz.underlying32 (hval 5 32 v5 rfl rfl)
  have k5 := h5
  have lt5 : ∀ x ∈ p5, x.block < W.heap.size := by obtain ⟨m, hm⟩ := k5; exact DataW.trod_lt m _ _ _ hm
  obtain ⟨a5_0, a5_1, a5_2, a5_3, hl5, w5_0, w5_1, w5_2, w5_3⟩ : ∃ a5_0 a5_1 a5_2 a5_3 : Int, cs5.toList = [.int .i64 a5_0, .int .u64 a5_1, .int .i64 a5_2, .int .i64 a5_3] ∧ (Lit.int .i64 a5_0).wf = true ∧ (Lit.int .u64 a5_1).wf = true ∧ (Lit.int .i64 a5_2).wf = true ∧ (Lit.int .i64 a5_3).wf = true := by
    obtain ⟨fuel, hf⟩ := h5
    exact open_laws_Secret hf
  obtain rfl : cs5 = #[.int .i64 a5_0, .int .u64 a5_1, .int .i64 a5_2, .int .i64 a5_3] := by
    cases cs5; simp_all
  clear hA0 hval0
  refine (walk a0_0 a0_1 a0_2 s1v0 s1v1 s1v2 s1v3 s1a4 s1n4 s1c4 s1z4 a2 len2 cap2 z2 a3_0 a3_1 a3_2 a4 a5_0 a5_1 a5_2 a5_3 W w0_0 w0_1 w0_2 w1 w2 w3_0 w3_1 w3_2 w4 w5_0 w5_1 w5_2 w5_3).mono fun e W' ⟨he, bel⟩ => ?_
  subst he
  exact ⟨_, rfl, _, _, _, [], _, [], hW', trodAll_mk1 (shut_bool Tryz.underlying4 _), (trodAll_cons_mk (Below.trod laidOut (by kernel_rfl) (of_decide_eq_true (by kernel_rfl)) k0 bel lt0) (trodAll_cons_mk (Below.trod laidOut (by kernel_rfl) (of_decide_eq_true (by kernel_rfl)) k1 bel lt1) (trodAll_cons_mk (Below.trod laidOut (by kernel_rfl) (of_decide_eq_true (by kernel_rfl)) k2 bel lt2) (trodAll_cons_mk (Below.trod laidOut (by kernel_rfl) (of_decide_eq_true (by kernel_rfl)) k3 bel lt3) (trodAll_cons_mk (shut_int Tryz.underlying2 w4) (trodAll_cons_mk (Below.trod laidOut (by kernel_rfl) (of_decide_eq_true (by kernel_rfl)) k5 bel lt5) trodAll_mk0)))))), rfl, bel.frame _, fun h => by cases h⟩

theorem over : Rows.fnExactWatchRow.holds Tryz.pinned (OpenSpec.ofChange Rows.fnExactWatchSpec) :=
  OpenClaim.holds_of_wide 3 Tryz.f3 rfl rfl rfl rfl rfl rfl rfl ⟨rfl, rfl, rfl, rfl, rfl⟩ rfl rfl rfl rfl rfl (by kernel_rfl) Tryz.func3 (by kernel_rfl)
    (of_decide_eq_true (by kernel_rfl)) (by unfold Func.isWrapper; first | (rw [if_pos (by decide +kernel)]; kernel_rfl) | (rw [if_neg (by decide +kernel)]; exact ⟨rfl, rfl⟩))
    (fun os started H enc _ => lifted os started H enc)

theorem proved : Rows.FnExactWatchSaid := over
end Go.Proofs.YtmoekmonkpihhaaGreat.fnExactWatch
namespace Go.Proofs.YtmoekmonkpihhaaGreat
theorem fnExactWatch_holds : Rows.FnExactWatchSaid := fnExactWatch.proved
#print axioms fnExactWatch_holds
end Go.Proofs.YtmoekmonkpihhaaGreat
