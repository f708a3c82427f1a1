import Derived.Test.YtambgfmipfmkdaaGreatMHa
import Derived.Deep.Slices
import Derived.ChangeArms
import Derived.ChangeSlices
import Derived.WalkKit
import Derived.ProofKit
import Derived.OpenShut
import Derived.Test.YtambgfmipfmkdaaGreatRows
import Derived.Test.YtambgfmipfmkdaaGreatMHb
import Derived.ShutString
import Derived.ChangeOld
import Derived.Below
namespace Go.Proofs.YtambgfmipfmkdaaGreat
open Go.ChangeShapes Go.WideShapes Go.ChangeAt Go.RowKit

theorem open_rowCg {H : Type} {enc : TypeId × Value → H} {W : World} {fuel : Nat} {cs : List Value} {x : DataW H × List MemPlace} (h : DataW.trod enc Tryz.prog W 0 (fun _ => true) true fuel 23 cs = some x) :
    ∃ a n cap zs, cs = [.slice a n cap] ∧ Row W a n zs ∧ n ≤ 9223372036854775807 := by
  rcases open_ints Tryz.underlying23 Tryz.underlying5 (by kernel_rfl) h with ⟨rfl, _⟩ | ⟨a, len, cap, zs, rfl, _, hl, hm, hz, _, hc, hwz⟩
  · exact ⟨none, 0, 0, [], rfl, ⟨rfl, fun k hk => absurd hk (Nat.not_lt_zero _), by simp⟩, by decide⟩
  · have hr : IsRow .u8 W (some a) len cap zs := .inr ⟨_, rfl, hl, hm, by simpa using hz, hc, hwz⟩
    exact ⟨some a, len, cap, zs.take len, rfl, hr.row.1, by have := hr.row.2; unfold maxLen at this; omega⟩
def OpensCg (W : World) (y : CgP) (cs : List Value) : Prop := ∃ a n c, cs = [.int .u64 y.key, .int .i64 y.at2, .slice a n c] ∧ Row W a n y.sg ∧ n ≤ 9223372036854775807 ∧ U64 y.key
set_option maxRecDepth 20000 in
theorem open_cg {H : Type} {enc : TypeId × Value → H} {W : World} {fuel : Nat} {cs : List Value} {x : DataW H × List MemPlace} (h : DataW.trod enc Tryz.prog W 0 (fun _ => true) true fuel 49 cs = some x) : ∃ y, OpensCg W y cs := by
  obtain ⟨xs, m, rfl, _, hl, hxl, hf⟩ := DataW.trod_struct Tryz.underlying49 h
  have hl2 : cs.length = 3 := hl.trans (by kernel_rfl)
  have hx2 : xs.length = 3 := hxl
  obtain ⟨c0, c1, c2, rfl⟩ : ∃ c0 c1 c2, cs = [c0, c1, c2] := by
    match cs, hl2 with
    | [c0, c1, c2], _ => exact ⟨c0, c1, c2, rfl⟩
  obtain ⟨x0, x1, x2, rfl⟩ : ∃ c0 c1 c2, xs = [c0, c1, c2] := by
    match xs, hx2 with
    | [c0, c1, c2], _ => exact ⟨c0, c1, c2, rfl⟩
  have e_i64 : Tryz.prog.cellsOf 2 = 1 := by kernel_rfl
  have e_u64 : Tryz.prog.cellsOf 22 = 1 := by kernel_rfl
  have e_b : Tryz.prog.cellsOf 23 = 1 := by kernel_rfl
  have f0 : DataW.trod enc Tryz.prog W 0 (fun _ => true) true m 22 ((([c0, c1, c2] : List Value).drop 0).take (Tryz.prog.cellsOf 22)) = some x0 := hf 0 _ rfl
  rw [e_u64] at f0
  obtain ⟨n0, g0, _, v0⟩ := DataW.trod_int Tryz.underlying22 f0
  have f1 : DataW.trod enc Tryz.prog W 0 (fun _ => true) true m 2 ((([c0, c1, c2] : List Value).drop 1).take (Tryz.prog.cellsOf 2)) = some x1 := hf 1 _ rfl
  rw [e_i64] at f1
  obtain ⟨n1, g1, _, v1⟩ := DataW.trod_int Tryz.underlying2 f1
  have f2 : DataW.trod enc Tryz.prog W 0 (fun _ => true) true m 23 ((([c0, c1, c2] : List Value).drop 2).take (Tryz.prog.cellsOf 23)) = some x2 := hf 2 _ rfl
  rw [e_b] at f2
  obtain ⟨aa, nn, pp, zz, g2, rr, qq⟩ := open_rowCg f2
  simp at g0 g1 g2
  subst g0 g1 g2
  exact ⟨⟨n0, n1, zz⟩, aa, nn, pp, rfl, rr, qq, bounds_u64 v0⟩

set_option maxRecDepth 20000 in
theorem open_cgs {H : Type} {enc : TypeId × Value → H} {W : World} {fuel : Nat} {cs : List Value} {x : DataW H × List MemPlace} (h : DataW.trod enc Tryz.prog W 0 (fun _ => true) true fuel 28 cs = some x) : ∃ a n c xs, cs = [.slice a n c] ∧ Cgs (fun _ _ => True) W a n xs := by
  rcases DataW.trod_slice Tryz.underlying28 h with ⟨rfl, _⟩ | ⟨a, len, cap, elems, rest, n, rfl, rfl, _, _, hl, hm, hlen, hel, _, _⟩
  · exact ⟨none, 0, 0, [], rfl, ⟨rfl, by decide, fun k hk => absurd hk (by omega)⟩⟩
  · have ec : Tryz.prog.cellsOf 49 = 3 := by kernel_rfl
    rw [ec] at hel
    have each : ∀ i, i < len → ∃ y : CgP, ∃ cs', W.cells? 0 (a.add (i * 3)) 3 = some cs' ∧ OpensCg W y cs' := by
      intro i hi
      have he := hel i hi
      rw [List.getElem?_eq_getElem (by omega)] at he
      cases hc : W.cells? 0 (a.add (i * 3)) 3 with
      | none => rw [hc] at he; cases he
      | some cs' =>
        rw [hc] at he
        obtain ⟨y, hy⟩ := open_cg he
        exact ⟨y, cs', rfl, hy⟩
    obtain ⟨y, hy⟩ := Go.Deep.choose_lt each
    have hm' : len ≤ 9223372036854775807 := by unfold maxLen at hm; omega
    refine ⟨some a, len, cap, (List.range len).map y, rfl, ⟨by simp, hm', fun k hk => ?_⟩⟩
    obtain ⟨cs', hcs, a2, n2, p2, rfl, hr, hq, hu⟩ := hy k hk
    obtain ⟨_, _, hcell⟩ := World.cells?_some hcs
    obtain ⟨b, off, spot⟩ := a
    have hs : spot = none := by
      obtain ⟨cs0, hcs0, _⟩ := hy 0 (by omega)
      obtain ⟨_, hl0, hcell0⟩ := World.cells?_some hcs0
      have h00 := hcell0 0 (by omega)
      rw [List.getElem?_eq_getElem (by omega)] at h00
      simpa [Addr.add] using World.cell?_spot h00
    subst hs
    have ey : ((List.range len).map y).getD k default = y k := by simp [hk]
    rw [ey]
    have cc : ∀ j, j < 3 → W.cell? ⟨b, off + k * 3 + j, none⟩ = [Value.int .u64 (y k).key, .int .i64 (y k).at2, .slice a2 n2 p2][j]? := by
      intro j hj
      have := hcell j hj
      rw [Addr.add_lit, Addr.add_lit] at this
      exact this
    exact ⟨b, off, a2, n2, p2, rfl, World.block_lt_of_cell? W _ (cc 0 (by omega)), ⟨cc 0 (by omega), cc 1 (by omega), cc 2 (by omega)⟩, hr, hq, hu, trivial⟩

theorem pu_all {w : World} {a : Option Addr} {n : Nat} {ps : List (Int × Int × Int)} (h : RowPu w a n ps) (hb : ∀ j, j < n → (ps.getD j (0, 0, 0)).1 ≤ 9223372036854775807 ∧ (ps.getD j (0, 0, 0)).2.2 ≤ 9223372036854775807) : ∀ j, (ps.getD j (0, 0, 0)).1 ≤ 9223372036854775807 ∧ (ps.getD j (0, 0, 0)).2.2 ≤ 9223372036854775807 := by
  intro j
  by_cases hj : j < n
  · exact hb j hj
  · rw [List.getD_eq_getElem?_getD, List.getElem?_eq_none (by rw [h.len]; omega)]
    exact ⟨by decide, by decide⟩

end Go.Proofs.YtambgfmipfmkdaaGreat

namespace Go.Proofs.YtambgfmipfmkdaaGreat
open Go.ChangeShapes Go.WideShapes Go.ChangeAt Go.RowKit

set_option maxRecDepth 20000 in
theorem open_Pu {H : Type} {enc : TypeId × Value → H} {W : World} {fuel : Nat} {cs : List Value} {x : DataW H × List MemPlace} (h : DataW.trod enc Tryz.prog W 0 (fun _ => true) true fuel 27 cs = some x) : ∃ y : Int × Int × Int, cs = [.int .i64 y.1, .int .u64 y.2.1, .int .i64 y.2.2] ∧ (Lit.int .i64 y.1).wf = true ∧ (Lit.int .u64 y.2.1).wf = true ∧ (Lit.int .i64 y.2.2).wf = true := by
  obtain ⟨xs, m, rfl, _, hl, hxl, hf⟩ := DataW.trod_struct Tryz.underlying27 h
  have hl2 : cs.length = 3 := hl.trans (by kernel_rfl)
  have hx2 : xs.length = 3 := hxl
  obtain ⟨c0, c1, c2, rfl⟩ : ∃ c0 c1 c2, cs = [c0, c1, c2] := by
    match cs, hl2 with
    | [c0, c1, c2], _ => exact ⟨c0, c1, c2, rfl⟩
  obtain ⟨x0, x1, x2, rfl⟩ : ∃ c0 c1 c2, xs = [c0, c1, c2] := by
    match xs, hx2 with
    | [c0, c1, c2], _ => exact ⟨c0, c1, c2, rfl⟩
  have e_i64 : Tryz.prog.cellsOf 2 = 1 := by kernel_rfl
  have e_u64 : Tryz.prog.cellsOf 22 = 1 := by kernel_rfl
  have f0 : DataW.trod enc Tryz.prog W 0 (fun _ => true) true m 2 ((([c0, c1, c2] : List Value).drop 0).take (Tryz.prog.cellsOf 2)) = some x0 := hf 0 _ rfl
  rw [e_i64] at f0
  obtain ⟨n0, g0, _, u0⟩ := DataW.trod_int Tryz.underlying2 f0
  have f1 : DataW.trod enc Tryz.prog W 0 (fun _ => true) true m 22 ((([c0, c1, c2] : List Value).drop 1).take (Tryz.prog.cellsOf 22)) = some x1 := hf 1 _ rfl
  rw [e_u64] at f1
  obtain ⟨n1, g1, _, u1⟩ := DataW.trod_int Tryz.underlying22 f1
  have f2 : DataW.trod enc Tryz.prog W 0 (fun _ => true) true m 2 ((([c0, c1, c2] : List Value).drop 2).take (Tryz.prog.cellsOf 2)) = some x2 := hf 2 _ rfl
  rw [e_i64] at f2
  obtain ⟨n2, g2, _, u2⟩ := DataW.trod_int Tryz.underlying2 f2
  simp at g0 g1 g2
  subst g0 g1 g2
  exact ⟨(n0, n1, n2), rfl, u0, u1, u2⟩

set_option maxRecDepth 20000 in
theorem open_Pus {H : Type} {enc : TypeId × Value → H} {W : World} {fuel : Nat} {cs : List Value} {x : DataW H × List MemPlace} (h : DataW.trod enc Tryz.prog W 0 (fun _ => true) true fuel 29 cs = some x) : ∃ a n c xs, cs = [.slice a n c] ∧ RowPu W a n xs ∧ n ≤ 9223372036854775807 ∧ ∀ j, j < n → (xs.getD j (0, 0, 0)).1 ≤ 9223372036854775807 ∧ (xs.getD j (0, 0, 0)).2.2 ≤ 9223372036854775807 := by
  rcases DataW.trod_slice Tryz.underlying29 h with ⟨rfl, _⟩ | ⟨a, len, cap, elems, rest, n, rfl, rfl, _, _, hl, hm, hlen, hel, _, _⟩
  · exact ⟨none, 0, 0, [], rfl, ⟨rfl, fun k hk => absurd hk (by omega), UPu.nil⟩, by decide, fun j hj => absurd hj (Nat.not_lt_zero _)⟩
  · have ec : Tryz.prog.cellsOf 27 = 3 := by kernel_rfl
    rw [ec] at hel
    have each : ∀ i, i < len → ∃ y : Int × Int × Int, ∃ cs', W.cells? 0 (a.add (i * 3)) 3 = some cs' ∧ cs' = [.int .i64 y.1, .int .u64 y.2.1, .int .i64 y.2.2] ∧ (Lit.int .i64 y.1).wf = true ∧ (Lit.int .u64 y.2.1).wf = true ∧ (Lit.int .i64 y.2.2).wf = true := by
      intro i hi
      have he := hel i hi
      rw [List.getElem?_eq_getElem (by omega)] at he
      cases hc : W.cells? 0 (a.add (i * 3)) 3 with
      | none => rw [hc] at he; cases he
      | some cs' =>
        rw [hc] at he
        obtain ⟨y, hy⟩ := open_Pu he
        exact ⟨y, cs', rfl, hy⟩
    obtain ⟨y, hy⟩ := Go.Deep.choose_lt each
    have hm' : len ≤ 9223372036854775807 := by unfold maxLen at hm; omega
    have ey : ∀ k, k < len → ((List.range len).map y).getD k (0, 0, 0) = y k := fun k hk => by simp [hk]
    refine ⟨some a, len, cap, (List.range len).map y, rfl, ⟨by simp, fun k hk => ?_, fun k => ?_⟩, hm', fun k hk => ?_⟩
    · obtain ⟨cs', hcs, rfl, _⟩ := hy k hk
      obtain ⟨_, _, hcell⟩ := World.cells?_some hcs
      obtain ⟨b, off, spot⟩ := a
      have hs : spot = none := by
        obtain ⟨cs0, hcs0, _⟩ := hy 0 (by omega)
        obtain ⟨_, hl0, hcell0⟩ := World.cells?_some hcs0
        have h00 := hcell0 0 (by omega)
        rw [List.getElem?_eq_getElem (by omega)] at h00
        simpa [Addr.add] using World.cell?_spot h00
      subst hs
      rw [ey k hk]
      have cc : ∀ j, j < 3 → W.cell? ⟨b, off + k * 3 + j, none⟩ = [Value.int .i64 (y k).1, .int .u64 (y k).2.1, .int .i64 (y k).2.2][j]? := by
        intro j hj
        have := hcell j hj
        rw [Addr.add_lit, Addr.add_lit] at this
        exact this
      exact ⟨b, off, rfl, World.block_lt_of_cell? W _ (cc 0 (by omega)), cc 0 (by omega), cc 1 (by omega), cc 2 (by omega)⟩
    · by_cases hk : k < len
      · rw [ey k hk]
        obtain ⟨_, _, _, w0, w1, w2⟩ := hy k hk
        exact bounds_u64 w1
      · have e2 : ((List.range len).map y).getD k (0, 0, 0) = (0, 0, 0) := by simp [hk]
        rw [e2]; simp [U64]
    · rw [ey k hk]
      obtain ⟨_, _, _, w0, w1, w2⟩ := hy k hk
      exact ⟨(bounds_i64 w0).2, (bounds_i64 w2).2⟩

end Go.Proofs.YtambgfmipfmkdaaGreat

namespace Go.Proofs.YtambgfmipfmkdaaGreat.fnExactHeadCheck
open Go.ChangeShapes Go.WideShapes Go.ChangeAt Go.RowKit
set_option linter.unusedVariables false

theorem own : ownKnob Tryz.prog.godebug = none := by kernel_rfl
theorem laidOut : laidOutB Tryz.prog = true := by kernel_rfl

theorem walk (s0v0 : Int) (s0v1 : Int) (s0v2 : Int) (s0v3 : Int) (s0a4 : Option Addr) (s0n4 s0c4 : Nat) (s0z4 : List Int) (a1_0 a1_1 a1_2 : Int) (a2 : Option Addr) (len2 cap2 : Nat) (z2 : List CgP) (a3 : Option Addr) (len3 cap3 : Nat) (z3 : List (Int × Int × Int)) (a4 : Int) (a5 : Int) (a6 : Int) (w : World) (w0 : (Lit.int .i64 s0v0).wf = true ∧ (Lit.int .i64 s0v1).wf = true ∧ (Lit.int .u64 s0v2).wf = true ∧ (Lit.int .i64 s0v3).wf = true ∧ (Row w s0a4 s0n4 s0z4 ∧ s0n4 ≤ 9223372036854775807)) (w1_0 : (Lit.int .i64 a1_0).wf = true) (w1_1 : (Lit.int .u64 a1_1).wf = true) (w1_2 : (Lit.int .i64 a1_2).wf = true) (w2 : Cgs (fun _ _ => True) w a2 len2 z2) (w3 : RowPu w a3 len3 z3 ∧ len3 ≤ 9223372036854775807 ∧ ∀ j, j < len3 → (z3.getD j (0, 0, 0)).1 ≤ 9223372036854775807 ∧ (z3.getD j (0, 0, 0)).2.2 ≤ 9223372036854775807) (w4 : (Lit.int .i64 a4).wf = true) (w5 : (Lit.int .i64 a5).wf = true) (w6 : (Lit.int .i64 a6).wf = true) :
    Calls Tryz.prog 3 #[.agg #[.int .i64 s0v0, .int .i64 s0v1, .int .u64 s0v2, .int .i64 s0v3, .slice s0a4 s0n4 s0c4], .agg #[.int .i64 a1_0, .int .u64 a1_1, .int .i64 a1_2], .slice a2 len2 cap2, .slice a3 len3 cap3, .int .i64 a4, .int .i64 a5, .int .i64 a6] w fun e w' => e = .returned (.bool true) ∧ Below w.heap.size w w' :=
  lawHeadCheck_walk ⟨s0v0, s0v1, s0v2, s0v3, s0z4⟩ s0a4 s0n4 s0c4 a1_0 a1_1 a1_2 a2 len2 cap2 z2 a3 len3 cap3 z3 a4 a5 a6 w (bounds_u64 w0.2.2.1) w0.2.2.2.2.1 w0.2.2.2.2.2 (bounds_u64 w1_1) w2 w3.1 w3.2.1 (pu_all w3.1 w3.2.2)

theorem open_rowB {H : Type} {enc : TypeId × Value → H} {W : World} {fuel : Nat} {cs : List Value} {x : DataW H × List MemPlace} (h : DataW.trod enc Tryz.prog W 0 (fun _ => true) true fuel 23 cs = some x) :
    ∃ a n cap zs, cs = [.slice a n cap] ∧ Row W a n zs ∧ n ≤ 9223372036854775807 := by
  rcases open_ints Tryz.underlying23 Tryz.underlying5 (by kernel_rfl) h with ⟨rfl, _⟩ | ⟨a, len, cap, zs, rfl, _, hl, hm, hz, _, hc, hwz⟩
  · exact ⟨none, 0, 0, [], rfl, ⟨rfl, fun k hk => absurd hk (Nat.not_lt_zero _), by simp⟩, by decide⟩
  · obtain ⟨h1, h2⟩ := IsRow.row (.inr ⟨_, rfl, hl, hm, by simpa using hz, hc, hwz⟩ : IsRow .u8 W (some a) len cap zs)
    exact ⟨some a, len, cap, zs.take len, rfl, h1, by unfold maxLen at h2; omega⟩

set_option maxRecDepth 20000 in
theorem open_laws_Head {H : Type} {enc : TypeId × Value → H} {W : World} {fuel : Nat} {cs : List Value} {x : DataW H × List MemPlace} (h : DataW.trod enc Tryz.prog W 0 (fun _ => true) true fuel 25 cs = some x) :
    ∃ (qv0 : Int) (qv1 : Int) (qv2 : Int) (qv3 : Int) (qa4 : Option Addr) (qn4 qc4 : Nat) (qz4 : List Int), cs = [.int .i64 qv0, .int .i64 qv1, .int .u64 qv2, .int .i64 qv3, .slice qa4 qn4 qc4] ∧ (Lit.int .i64 qv0).wf = true ∧ (Lit.int .i64 qv1).wf = true ∧ (Lit.int .u64 qv2).wf = true ∧ (Lit.int .i64 qv3).wf = true ∧ (Row W qa4 qn4 qz4 ∧ qn4 ≤ 9223372036854775807) := by
  obtain ⟨xs, m, rfl, _, hl, hxl, hf⟩ := DataW.trod_struct Tryz.underlying25 h
  have hl2 : cs.length = 5 := hl.trans (by kernel_rfl)
  have hx2 : xs.length = 5 := hxl
  obtain ⟨c0, c1, c2, c3, c4, rfl⟩ : ∃ c0 c1 c2 c3 c4, cs = [c0, c1, c2, c3, c4] := by
    match cs, hl2 with
    | [c0, c1, c2, c3, c4], _ => exact ⟨c0, c1, c2, c3, c4, rfl⟩
  obtain ⟨x0, x1, x2, x3, x4, rfl⟩ : ∃ c0 c1 c2 c3 c4, xs = [c0, c1, c2, c3, c4] := by
    match xs, hx2 with
    | [c0, c1, c2, c3, c4], _ => exact ⟨c0, c1, c2, c3, c4, rfl⟩
  have e_bytes : Tryz.prog.cellsOf 23 = 1 := by kernel_rfl
  have e_i64 : Tryz.prog.cellsOf 2 = 1 := by kernel_rfl
  have e_u64 : Tryz.prog.cellsOf 22 = 1 := by kernel_rfl
  have f0 : DataW.trod enc Tryz.prog W 0 (fun _ => true) true m 2 ((([c0, c1, c2, c3, c4] : List Value).drop 0).take (Tryz.prog.cellsOf 2)) = some x0 := hf 0 _ rfl
  rw [e_i64] at f0
  obtain ⟨qv0, g0, _, u0⟩ := DataW.trod_int Tryz.underlying2 f0
  have f1 : DataW.trod enc Tryz.prog W 0 (fun _ => true) true m 2 ((([c0, c1, c2, c3, c4] : List Value).drop 1).take (Tryz.prog.cellsOf 2)) = some x1 := hf 1 _ rfl
  rw [e_i64] at f1
  obtain ⟨qv1, g1, _, u1⟩ := DataW.trod_int Tryz.underlying2 f1
  have f2 : DataW.trod enc Tryz.prog W 0 (fun _ => true) true m 22 ((([c0, c1, c2, c3, c4] : List Value).drop 2).take (Tryz.prog.cellsOf 22)) = some x2 := hf 2 _ rfl
  rw [e_u64] at f2
  obtain ⟨qv2, g2, _, u2⟩ := DataW.trod_int Tryz.underlying22 f2
  have f3 : DataW.trod enc Tryz.prog W 0 (fun _ => true) true m 2 ((([c0, c1, c2, c3, c4] : List Value).drop 3).take (Tryz.prog.cellsOf 2)) = some x3 := hf 3 _ rfl
  rw [e_i64] at f3
  obtain ⟨qv3, g3, _, u3⟩ := DataW.trod_int Tryz.underlying2 f3
  have f4 : DataW.trod enc Tryz.prog W 0 (fun _ => true) true m 23 ((([c0, c1, c2, c3, c4] : List Value).drop 4).take (Tryz.prog.cellsOf 23)) = some x4 := hf 4 _ rfl
  rw [e_bytes] at f4
  obtain ⟨qa4, qn4, qc4, qz4, g4, u4⟩ := open_rowB f4
  simp at g0 g1 g2 g3 g4
  subst g0 g1 g2 g3 g4
  exact ⟨qv0, qv1, qv2, qv3, qa4, qn4, qc4, qz4, rfl, u0, u1, u2, u3, u4⟩

set_option maxRecDepth 20000 in
theorem open_laws_Pub {H : Type} {enc : TypeId × Value → H} {W : World} {fuel : Nat} {cs : List Value} {x : DataW H × List MemPlace} (h : DataW.trod enc Tryz.prog W 0 (fun _ => true) true fuel 27 cs = some x) :
    ∃ n0 n1 n2 : Int, cs = [.int .i64 n0, .int .u64 n1, .int .i64 n2] ∧ (Lit.int .i64 n0).wf = true ∧ (Lit.int .u64 n1).wf = true ∧ (Lit.int .i64 n2).wf = true := by
  obtain ⟨xs, m, rfl, _, hl, hxl, hf⟩ := DataW.trod_struct Tryz.underlying27 h
  have hl2 : cs.length = 3 := hl.trans (by kernel_rfl)
  have hx2 : xs.length = 3 := hxl
  obtain ⟨c0, c1, c2, rfl⟩ : ∃ c0 c1 c2, cs = [c0, c1, c2] := by
    match cs, hl2 with
    | [c0, c1, c2], _ => exact ⟨c0, c1, c2, rfl⟩
  obtain ⟨x0, x1, x2, rfl⟩ : ∃ c0 c1 c2, xs = [c0, c1, c2] := by
    match xs, hx2 with
    | [c0, c1, c2], _ => exact ⟨c0, c1, c2, rfl⟩
  have e_i64 : Tryz.prog.cellsOf 2 = 1 := by kernel_rfl
  have e_u64 : Tryz.prog.cellsOf 22 = 1 := by kernel_rfl
  have f0 : DataW.trod enc Tryz.prog W 0 (fun _ => true) true m 2 ((([c0, c1, c2] : List Value).drop 0).take (Tryz.prog.cellsOf 2)) = some x0 := hf 0 _ rfl
  rw [e_i64] at f0
  obtain ⟨n0, g0, _, u0⟩ := DataW.trod_int Tryz.underlying2 f0
  have f1 : DataW.trod enc Tryz.prog W 0 (fun _ => true) true m 22 ((([c0, c1, c2] : List Value).drop 1).take (Tryz.prog.cellsOf 22)) = some x1 := hf 1 _ rfl
  rw [e_u64] at f1
  obtain ⟨n1, g1, _, u1⟩ := DataW.trod_int Tryz.underlying22 f1
  have f2 : DataW.trod enc Tryz.prog W 0 (fun _ => true) true m 2 ((([c0, c1, c2] : List Value).drop 2).take (Tryz.prog.cellsOf 2)) = some x2 := hf 2 _ rfl
  rw [e_i64] at f2
  obtain ⟨n2, g2, _, u2⟩ := DataW.trod_int Tryz.underlying2 f2
  simp at g0 g1 g2
  subst g0 g1 g2
  exact ⟨n0, n1, n2, rfl, u0, u1, u2⟩

set_option maxRecDepth 100000 in
theorem lifted (os : Os) (started : os.Started) (H : Type) (enc : TypeId × Value → H) :
    ReturnsInHanded {} Tryz.checked os 3 .any (Rows.fnExactHeadCheckSpec.pre6 enc Tryz.prog Tryz.f3 Rows.fnExactHeadCheckRow.domain false) (Rows.fnExactHeadCheckSpec.post enc Tryz.prog Tryz.f3 false true false false) := by
  refine returnsInHanded_of_change (C := Tryz.checked) own started (by kernel_rfl) Tryz.func3
    (ChangeSpec.witness6 (enc := enc) (C := Tryz.checked) false ⟨#[], #[.agg #[.int .i64 0, .int .i64 0, .int .u64 0, .int .i64 0, .slice none 0 0], .agg #[.int .i64 0, .int .u64 0, .int .i64 0], .slice none 0 0, .slice none 0 0, .int .i64 0, .int .i64 0, .int .i64 0], []⟩ 8 (by kernel_rfl) (by kernel_rfl) (by kernel_rfl) (by kernel_rfl)) ?_
  intro W base args ds gs before hval0 hW hcnd _
  have hval : ∀ (j : Nat) t v, Tryz.f3.params[j]? = some t → args[j]? = some v → Value.okWide Tryz.prog W .any base t v := hval0
  have hW' := hW
  obtain ⟨p, q, hA0, hV, rfl, hfz, hnd⟩ := hW
  have hA : DataW.TrodAll enc Tryz.prog W 0 (fun _ => true) true Tryz.f3.params.toList args.toList ds p := hA0
  rw [Tryz.params3] at hA hval
  obtain ⟨v0, vs0, d0, ds0, p0, q0, hargs, rfl, rfl, h0, r0⟩ := trodAll_cons hA
  obtain ⟨v1, vs1, d1, ds1, p1, q1, rfl, rfl, rfl, h1, r1⟩ := trodAll_cons r0
  obtain ⟨v2, vs2, d2, ds2, p2, q2, rfl, rfl, rfl, h2, r2⟩ := trodAll_cons r1
  obtain ⟨v3, vs3, d3, ds3, p3, q3, rfl, rfl, rfl, h3, r3⟩ := trodAll_cons r2
  obtain ⟨v4, vs4, d4, ds4, p4, q4, rfl, rfl, rfl, h4, r4⟩ := trodAll_cons r3
  obtain ⟨v5, vs5, d5, ds5, p5, q5, rfl, rfl, rfl, h5, r5⟩ := trodAll_cons r4
  obtain ⟨v6, vs6, d6, ds6, p6, q6, rfl, rfl, rfl, h6, r6⟩ := trodAll_cons r5
  obtain ⟨rfl, rfl, rfl⟩ := trodAll_nil r6
  obtain rfl : args = #[v0, v1, v2, v3, v4, v5, v6] := by cases args; simp_all
  obtain ⟨rfl, rfl⟩ := trodVars_none hV
  obtain ⟨cs0, rfl, hcs0⟩ := okWide_struct Tryz.underlying25 (hval 0 25 v0 rfl rfl)
  have k0 := h0
  have lt0 : ∀ x ∈ p0, x.block < W.heap.size := by obtain ⟨m, hm⟩ := k0; exact DataW.trod_lt m _ _ _ hm
  obtain ⟨s0v0, s0v1, s0v2, s0v3, s0a4, s0n4, s0c4, s0z4, hl0, w0⟩ : ∃ (s0v0 : Int) (s0v1 : Int) (s0v2 : Int) (s0v3 : Int) (s0a4 : Option Addr) (s0n4 s0c4 : Nat) (s0z4 : List Int), cs0.toList = [.int .i64 s0v0, .int .i64 s0v1, .int .u64 s0v2, .int .i64 s0v3, .slice s0a4 s0n4 s0c4] ∧ (Lit.int .i64 s0v0).wf = true ∧ (Lit.int .i64 s0v1).wf = true ∧ (Lit.int .u64 s0v2).wf = true ∧ (Lit.int .i64 s0v3).wf = true ∧ (Row W s0a4 s0n4 s0z4 ∧ s0n4 ≤ 9223372036854775807) := by
    obtain ⟨fuel, hf⟩ := h0
    exact open_laws_Head hf
  obtain rfl : cs0 = #[.int .i64 s0v0, .int .i64 s0v1, .int .u64 s0v2, .int .i64 s0v3, .slice s0a4 s0n4 s0c4] := by
    cases cs0; simp_all
  obtain ⟨cs1, rfl, hcs1⟩ := okWide_struct Tryz.underlying27 (hval 1 27 v1 rfl rfl)
  have k1 := h1
  have lt1 : ∀ x ∈ p1, x.block < W.heap.size := by obtain ⟨m, hm⟩ := k1; exact DataW.trod_lt m _ _ _ hm
  obtain ⟨a1_0, a1_1, a1_2, hl1, w1_0, w1_1, w1_2⟩ : ∃ a1_0 a1_1 a1_2 : Int, cs1.toList = [.int .i64 a1_0, .int .u64 a1_1, .int .i64 a1_2] ∧ (Lit.int .i64 a1_0).wf = true ∧ (Lit.int .u64 a1_1).wf = true ∧ (Lit.int .i64 a1_2).wf = true := by
    obtain ⟨fuel, hf⟩ := h1
    exact open_laws_Pub hf
  obtain rfl : cs1 = #[.int .i64 a1_0, .int .u64 a1_1, .int .i64 a1_2] := by
    cases cs1; simp_all
  obtain ⟨a2, len2, cap2, rfl⟩ := okWide_slice Tryz.underlying28 (hval 2 28 v2 rfl rfl)
  have k2 := h2
  have lt2 : ∀ x ∈ p2, x.block < W.heap.size := by obtain ⟨m, hm⟩ := k2; exact DataW.trod_lt m _ _ _ hm
  obtain ⟨z2, w2⟩ : ∃ ps, Cgs (fun _ _ => True) W a2 len2 ps := by
    obtain ⟨fuel, hf⟩ := h2
    obtain ⟨a, n, cap, zs, hcs, hz⟩ := open_cgs hf
    simp [Value.cells] at hcs
    obtain ⟨rfl, rfl, rfl⟩ := hcs
    exact ⟨zs, hz⟩
  obtain ⟨a3, len3, cap3, rfl⟩ := okWide_slice Tryz.underlying29 (hval 3 29 v3 rfl rfl)
  have k3 := h3
  have lt3 : ∀ x ∈ p3, x.block < W.heap.size := by obtain ⟨m, hm⟩ := k3; exact DataW.trod_lt m _ _ _ hm
  obtain ⟨z3, w3⟩ : ∃ ps, RowPu W a3 len3 ps ∧ len3 ≤ 9223372036854775807 ∧ ∀ j, j < len3 → (ps.getD j (0, 0, 0)).1 ≤ 9223372036854775807 ∧ (ps.getD j (0, 0, 0)).2.2 ≤ 9223372036854775807 := by
    obtain ⟨fuel, hf⟩ := h3
    obtain ⟨a, n, cap, zs, hcs, hz⟩ := open_Pus hf
    simp [Value.cells] at hcs
    obtain ⟨rfl, rfl, rfl⟩ := hcs
    exact ⟨zs, hz⟩
  obtain ⟨a4, rfl, rfl, rfl, w4⟩ := open_int Tryz.underlying2 (hval 4 2 v4 rfl rfl) h4
  obtain ⟨a5, rfl, rfl, rfl, w5⟩ := open_int Tryz.underlying2 (hval 5 2 v5 rfl rfl) h5
  obtain ⟨a6, rfl, rfl, rfl, w6⟩ := open_int Tryz.underlying2 (hval 6 2 v6 rfl rfl) h6
  clear hA0 hval0
  refine (walk s0v0 s0v1 s0v2 s0v3 s0a4 s0n4 s0c4 s0z4 a1_0 a1_1 a1_2 a2 len2 cap2 z2 a3 len3 cap3 z3 a4 a5 a6 W w0 w1_0 w1_1 w1_2 w2 w3 w4 w5 w6).mono fun e W' ⟨he, bel⟩ => ?_
  subst he
  exact ⟨_, rfl, _, _, _, [], _, [], hW', trodAll_mk1 (shut_bool Tryz.underlying4 _), (trodAll_cons_mk (Below.trod laidOut (by kernel_rfl) (of_decide_eq_true (by kernel_rfl)) k0 bel lt0) (trodAll_cons_mk (Below.trod laidOut (by kernel_rfl) (of_decide_eq_true (by kernel_rfl)) k1 bel lt1) (trodAll_cons_mk (Below.trod laidOut (by kernel_rfl) (of_decide_eq_true (by kernel_rfl)) k2 bel lt2) (trodAll_cons_mk (Below.trod laidOut (by kernel_rfl) (of_decide_eq_true (by kernel_rfl)) k3 bel lt3) (trodAll_cons_mk (shut_int Tryz.underlying2 w4) (trodAll_cons_mk (shut_int Tryz.underlying2 w5) (trodAll_cons_mk (shut_int Tryz.underlying2 w6) trodAll_mk0))))))), rfl, bel.frame _, fun h => by cases h⟩

theorem over : Rows.fnExactHeadCheckRow.holds Tryz.pinned (OpenSpec.ofChange Rows.fnExactHeadCheckSpec) :=
  OpenClaim.holds_of_wide 3 Tryz.f3 rfl rfl rfl rfl rfl rfl rfl ⟨rfl, rfl, rfl, rfl, rfl⟩ rfl rfl rfl rfl rfl (by kernel_rfl) Tryz.func3 (by kernel_rfl)
    (of_decide_eq_true (by kernel_rfl)) (by unfold Func.isWrapper; first | (rw [if_pos (by decide +kernel)]; kernel_rfl) | (rw [if_neg (by decide +kernel)]; exact ⟨rfl, rfl⟩))
    (fun os started H enc _ => lifted os started H enc)

theorem proved : Rows.FnExactHeadCheckSaid := over
end Go.Proofs.YtambgfmipfmkdaaGreat.fnExactHeadCheck
namespace Go.Proofs.YtambgfmipfmkdaaGreat
theorem fnExactHeadCheck_holds : Rows.FnExactHeadCheckSaid := fnExactHeadCheck.proved
#print axioms fnExactHeadCheck_holds
end Go.Proofs.YtambgfmipfmkdaaGreat

