import Derived.Test.YtglpbgebcpijaaaGreatFS1r
import Derived.Deep.Slices
import Derived.ChangeArms
import Derived.ChangeSlices
import Derived.WalkKit
import Derived.ProofKit
import Derived.OpenShut
import Derived.Test.YtglpbgebcpijaaaGreatERP
import Derived.Test.YtglpbgebcpijaaaGreatRO1r
import Derived.Test.YtglpbgebcpijaaaGreatETe
import Derived.Test.YtglpbgebcpijaaaGreatTF2
import Derived.Test.YtglpbgebcpijaaaGreatQTF3
namespace Go.Proofs.YtglpbgebcpijaaaGreat
open Go.ChangeShapes Go.WideShapes Go.ChangeAt Go.RowKit

theorem open_rowFs {H : Type} {enc : TypeId × Value → H} {W : World} {fuel : Nat} {cs : List Value} {x : DataW H × List MemPlace} (h : DataW.trod enc Tryz.prog W 0 (fun _ => true) true fuel 35 cs = some x) :
    ∃ a n cap zs, cs = [.slice a n cap] ∧ Row W a n zs ∧ n ≤ 9223372036854775807 := by
  rcases open_ints Tryz.underlying35 Tryz.underlying5 (by kernel_rfl) h with ⟨rfl, _⟩ | ⟨a, len, cap, zs, rfl, _, hl, hm, hz, _, hc, hwz⟩
  · exact ⟨none, 0, 0, [], rfl, ⟨rfl, fun k hk => absurd hk (Nat.not_lt_zero _), by simp⟩, by decide⟩
  · have hr : IsRow .u8 W (some a) len cap zs := .inr ⟨_, rfl, hl, hm, by simpa using hz, hc, hwz⟩
    exact ⟨some a, len, cap, zs.take len, rfl, hr.row.1, by have := hr.row.2; unfold maxLen at this; omega⟩
def OpensFs (W : World) (y : FsP) (cs : List Value) : Prop := ∃ a n c, cs = [.int .u64 y.key, .slice a n c] ∧ Row W a n y.sg ∧ n ≤ 9223372036854775807 ∧ U64 y.key
set_option maxRecDepth 20000 in
theorem open_fs {H : Type} {enc : TypeId × Value → H} {W : World} {fuel : Nat} {cs : List Value} {x : DataW H × List MemPlace} (h : DataW.trod enc Tryz.prog W 0 (fun _ => true) true fuel 149 cs = some x) : ∃ y, OpensFs W y cs := by
  obtain ⟨xs, m, rfl, _, hl, hxl, hf⟩ := DataW.trod_struct Tryz.underlying149 h
  have hl2 : cs.length = 2 := hl.trans (by kernel_rfl)
  have hx2 : xs.length = 2 := hxl
  obtain ⟨c0, c1, rfl⟩ : ∃ c0 c1, cs = [c0, c1] := by
    match cs, hl2 with
    | [c0, c1], _ => exact ⟨c0, c1, rfl⟩
  obtain ⟨x0, x1, rfl⟩ : ∃ c0 c1, xs = [c0, c1] := by
    match xs, hx2 with
    | [c0, c1], _ => exact ⟨c0, c1, rfl⟩
  have e_u64 : Tryz.prog.cellsOf 26 = 1 := by kernel_rfl
  have e_b : Tryz.prog.cellsOf 35 = 1 := by kernel_rfl
  have f0 : DataW.trod enc Tryz.prog W 0 (fun _ => true) true m 26 ((([c0, c1] : List Value).drop 0).take (Tryz.prog.cellsOf 26)) = some x0 := hf 0 _ rfl
  rw [e_u64] at f0
  obtain ⟨n0, g0, _, v0⟩ := DataW.trod_int Tryz.underlying26 f0
  have f1 : DataW.trod enc Tryz.prog W 0 (fun _ => true) true m 35 ((([c0, c1] : List Value).drop 1).take (Tryz.prog.cellsOf 35)) = some x1 := hf 1 _ rfl
  rw [e_b] at f1
  obtain ⟨aa, nn, pp, zz, g1, rr, qq⟩ := open_rowFs f1
  simp at g0 g1
  subst g0 g1
  exact ⟨⟨n0, zz⟩, aa, nn, pp, rfl, rr, qq, bounds_u64 v0⟩

set_option maxRecDepth 20000 in
theorem open_fss {H : Type} {enc : TypeId × Value → H} {W : World} {fuel : Nat} {cs : List Value} {x : DataW H × List MemPlace} (h : DataW.trod enc Tryz.prog W 0 (fun _ => true) true fuel 23 cs = some x) : ∃ a n c xs, cs = [.slice a n c] ∧ Fss (fun _ _ => True) W a n xs := by
  rcases DataW.trod_slice Tryz.underlying23 h with ⟨rfl, _⟩ | ⟨a, len, cap, elems, rest, n, rfl, rfl, _, _, hl, hm, hlen, hel, _, _⟩
  · exact ⟨none, 0, 0, [], rfl, ⟨rfl, by decide, fun k hk => absurd hk (by omega)⟩⟩
  · have ec : Tryz.prog.cellsOf 149 = 2 := by kernel_rfl
    rw [ec] at hel
    have each : ∀ i, i < len → ∃ y : FsP, ∃ cs', W.cells? 0 (a.add (i * 2)) 2 = some cs' ∧ OpensFs W y cs' := by
      intro i hi
      have he := hel i hi
      rw [List.getElem?_eq_getElem (by omega)] at he
      cases hc : W.cells? 0 (a.add (i * 2)) 2 with
      | none => rw [hc] at he; cases he
      | some cs' =>
        rw [hc] at he
        obtain ⟨y, hy⟩ := open_fs he
        exact ⟨y, cs', rfl, hy⟩
    obtain ⟨y, hy⟩ := Go.Deep.choose_lt each
    have hm' : len ≤ 9223372036854775807 := by unfold maxLen at hm; omega
    refine ⟨some a, len, cap, (List.range len).map y, rfl, ⟨by simp, hm', fun k hk => ?_⟩⟩
    obtain ⟨cs', hcs, a2, n2, p2, rfl, hr, hq, hu⟩ := hy k hk
    obtain ⟨_, _, hcell⟩ := World.cells?_some hcs
    obtain ⟨b, off, spot⟩ := a
    have hs : spot = none := by
      obtain ⟨cs0, hcs0, _⟩ := hy 0 (by omega)
      obtain ⟨_, hl0, hcell0⟩ := World.cells?_some hcs0
      have h00 := hcell0 0 (by omega)
      rw [List.getElem?_eq_getElem (by omega)] at h00
      simpa [Addr.add] using World.cell?_spot h00
    subst hs
    have ey : ((List.range len).map y).getD k default = y k := by simp [hk]
    rw [ey]
    have cc : ∀ j, j < 2 → W.cell? ⟨b, off + k * 2 + j, none⟩ = [Value.int .u64 (y k).key, .slice a2 n2 p2][j]? := by
      intro j hj
      have := hcell j hj
      rw [Addr.add_lit, Addr.add_lit] at this
      exact this
    exact ⟨b, off, a2, n2, p2, rfl, World.block_lt_of_cell? W _ (cc 0 (by omega)), ⟨cc 0 (by omega), cc 1 (by omega)⟩, hr, hq, hu, trivial⟩

end Go.Proofs.YtglpbgebcpijaaaGreat

namespace Go.Proofs.YtglpbgebcpijaaaGreat
open Go.ChangeShapes Go.WideShapes Go.ChangeAt Go.RowKit

set_option maxRecDepth 20000 in
theorem open_Pu {H : Type} {enc : TypeId × Value → H} {W : World} {fuel : Nat} {cs : List Value} {x : DataW H × List MemPlace} (h : DataW.trod enc Tryz.prog W 0 (fun _ => true) true fuel 195 cs = some x) : ∃ y : Int × Int × Int, cs = [.int .i64 y.1, .int .u64 y.2.1, .int .i64 y.2.2] ∧ (Lit.int .i64 y.1).wf = true ∧ (Lit.int .u64 y.2.1).wf = true ∧ (Lit.int .i64 y.2.2).wf = true := by
  obtain ⟨xs, m, rfl, _, hl, hxl, hf⟩ := DataW.trod_struct Tryz.underlying195 h
  have hl2 : cs.length = 3 := hl.trans (by kernel_rfl)
  have hx2 : xs.length = 3 := hxl
  obtain ⟨c0, c1, c2, rfl⟩ : ∃ c0 c1 c2, cs = [c0, c1, c2] := by
    match cs, hl2 with
    | [c0, c1, c2], _ => exact ⟨c0, c1, c2, rfl⟩
  obtain ⟨x0, x1, x2, rfl⟩ : ∃ c0 c1 c2, xs = [c0, c1, c2] := by
    match xs, hx2 with
    | [c0, c1, c2], _ => exact ⟨c0, c1, c2, rfl⟩
  have e_i64 : Tryz.prog.cellsOf 2 = 1 := by kernel_rfl
  have e_u64 : Tryz.prog.cellsOf 26 = 1 := by kernel_rfl
  have f0 : DataW.trod enc Tryz.prog W 0 (fun _ => true) true m 2 ((([c0, c1, c2] : List Value).drop 0).take (Tryz.prog.cellsOf 2)) = some x0 := hf 0 _ rfl
  rw [e_i64] at f0
  obtain ⟨n0, g0, _, u0⟩ := DataW.trod_int Tryz.underlying2 f0
  have f1 : DataW.trod enc Tryz.prog W 0 (fun _ => true) true m 26 ((([c0, c1, c2] : List Value).drop 1).take (Tryz.prog.cellsOf 26)) = some x1 := hf 1 _ rfl
  rw [e_u64] at f1
  obtain ⟨n1, g1, _, u1⟩ := DataW.trod_int Tryz.underlying26 f1
  have f2 : DataW.trod enc Tryz.prog W 0 (fun _ => true) true m 2 ((([c0, c1, c2] : List Value).drop 2).take (Tryz.prog.cellsOf 2)) = some x2 := hf 2 _ rfl
  rw [e_i64] at f2
  obtain ⟨n2, g2, _, u2⟩ := DataW.trod_int Tryz.underlying2 f2
  simp at g0 g1 g2
  subst g0 g1 g2
  exact ⟨(n0, n1, n2), rfl, u0, u1, u2⟩

set_option maxRecDepth 20000 in
theorem open_Pus {H : Type} {enc : TypeId × Value → H} {W : World} {fuel : Nat} {cs : List Value} {x : DataW H × List MemPlace} (h : DataW.trod enc Tryz.prog W 0 (fun _ => true) true fuel 144 cs = some x) : ∃ a n c xs, cs = [.slice a n c] ∧ RowPu W a n xs ∧ n ≤ 9223372036854775807 ∧ ∀ j, j < n → (xs.getD j (0, 0, 0)).1 ≤ 9223372036854775807 ∧ (xs.getD j (0, 0, 0)).2.2 ≤ 9223372036854775807 := by
  rcases DataW.trod_slice Tryz.underlying144 h with ⟨rfl, _⟩ | ⟨a, len, cap, elems, rest, n, rfl, rfl, _, _, hl, hm, hlen, hel, _, _⟩
  · exact ⟨none, 0, 0, [], rfl, ⟨rfl, fun k hk => absurd hk (by omega), UPu.nil⟩, by decide, fun j hj => absurd hj (Nat.not_lt_zero _)⟩
  · have ec : Tryz.prog.cellsOf 195 = 3 := by kernel_rfl
    rw [ec] at hel
    have each : ∀ i, i < len → ∃ y : Int × Int × Int, ∃ cs', W.cells? 0 (a.add (i * 3)) 3 = some cs' ∧ cs' = [.int .i64 y.1, .int .u64 y.2.1, .int .i64 y.2.2] ∧ (Lit.int .i64 y.1).wf = true ∧ (Lit.int .u64 y.2.1).wf = true ∧ (Lit.int .i64 y.2.2).wf = true := by
      intro i hi
      have he := hel i hi
      rw [List.getElem?_eq_getElem (by omega)] at he
      cases hc : W.cells? 0 (a.add (i * 3)) 3 with
      | none => rw [hc] at he; cases he
      | some cs' =>
        rw [hc] at he
        obtain ⟨y, hy⟩ := open_Pu he
        exact ⟨y, cs', rfl, hy⟩
    obtain ⟨y, hy⟩ := Go.Deep.choose_lt each
    have hm' : len ≤ 9223372036854775807 := by unfold maxLen at hm; omega
    have ey : ∀ k, k < len → ((List.range len).map y).getD k (0, 0, 0) = y k := fun k hk => by simp [hk]
    refine ⟨some a, len, cap, (List.range len).map y, rfl, ⟨by simp, fun k hk => ?_, fun k => ?_⟩, hm', fun k hk => ?_⟩
    · obtain ⟨cs', hcs, rfl, _⟩ := hy k hk
      obtain ⟨_, _, hcell⟩ := World.cells?_some hcs
      obtain ⟨b, off, spot⟩ := a
      have hs : spot = none := by
        obtain ⟨cs0, hcs0, _⟩ := hy 0 (by omega)
        obtain ⟨_, hl0, hcell0⟩ := World.cells?_some hcs0
        have h00 := hcell0 0 (by omega)
        rw [List.getElem?_eq_getElem (by omega)] at h00
        simpa [Addr.add] using World.cell?_spot h00
      subst hs
      rw [ey k hk]
      have cc : ∀ j, j < 3 → W.cell? ⟨b, off + k * 3 + j, none⟩ = [Value.int .i64 (y k).1, .int .u64 (y k).2.1, .int .i64 (y k).2.2][j]? := by
        intro j hj
        have := hcell j hj
        rw [Addr.add_lit, Addr.add_lit] at this
        exact this
      exact ⟨b, off, rfl, World.block_lt_of_cell? W _ (cc 0 (by omega)), cc 0 (by omega), cc 1 (by omega), cc 2 (by omega)⟩
    · by_cases hk : k < len
      · rw [ey k hk]
        obtain ⟨_, _, _, w0, w1, w2⟩ := hy k hk
        exact bounds_u64 w1
      · have e2 : ((List.range len).map y).getD k (0, 0, 0) = (0, 0, 0) := by simp [hk]
        rw [e2]; simp [U64]
    · rw [ey k hk]
      obtain ⟨_, _, _, w0, w1, w2⟩ := hy k hk
      exact ⟨(bounds_i64 w0).2, (bounds_i64 w2).2⟩

end Go.Proofs.YtglpbgebcpijaaaGreat

namespace Go.Proofs.YtglpbgebcpijaaaGreat
open Go.ChangeShapes Go.WideShapes Go.ChangeAt Go.RowKit

theorem pu_all {w : World} {a : Option Addr} {n : Nat} {ps : List (Int × Int × Int)} (h : RowPu w a n ps) (hb : ∀ j, j < n → (ps.getD j (0, 0, 0)).1 ≤ 9223372036854775807 ∧ (ps.getD j (0, 0, 0)).2.2 ≤ 9223372036854775807) : PuW ps := by
  intro j
  by_cases hj : j < n
  · exact hb j hj
  · rw [List.getD_eq_getElem?_getD, List.getElem?_eq_none (by rw [h.len]; omega)]
    exact ⟨by decide, by decide⟩
def OpensRo (W : World) (y : RoP) (cs : List Value) : Prop := ∃ a n c, cs = [.slice a n c, .int .i64 y.need] ∧ RowPu W a n y.ks ∧ n ≤ 9223372036854775807 ∧ PuW y.ks
set_option maxRecDepth 20000 in
theorem open_ro {H : Type} {enc : TypeId × Value → H} {W : World} {fuel : Nat} {cs : List Value} {x : DataW H × List MemPlace} (h : DataW.trod enc Tryz.prog W 0 (fun _ => true) true fuel 146 cs = some x) : ∃ y, OpensRo W y cs := by
  obtain ⟨xs, m, rfl, _, hl, hxl, hf⟩ := DataW.trod_struct Tryz.underlying146 h
  have hl2 : cs.length = 2 := hl.trans (by kernel_rfl)
  have hx2 : xs.length = 2 := hxl
  obtain ⟨c0, c1, rfl⟩ : ∃ c0 c1, cs = [c0, c1] := by
    match cs, hl2 with
    | [c0, c1], _ => exact ⟨c0, c1, rfl⟩
  obtain ⟨x0, x1, rfl⟩ : ∃ x0 x1, xs = [x0, x1] := by
    match xs, hx2 with
    | [x0, x1], _ => exact ⟨x0, x1, rfl⟩
  have e0 : Tryz.prog.cellsOf 144 = 1 := by kernel_rfl
  have f0 : DataW.trod enc Tryz.prog W 0 (fun _ => true) true m 144 ((([c0, c1] : List Value).drop 0).take (Tryz.prog.cellsOf 144)) = some x0 := hf 0 _ rfl
  rw [e0] at f0
  obtain ⟨aa, nn, pp, zz, g0, rr, qq, uu⟩ := open_Pus f0
  have e1 : Tryz.prog.cellsOf 2 = 1 := by kernel_rfl
  have f1 : DataW.trod enc Tryz.prog W 0 (fun _ => true) true m 2 ((([c0, c1] : List Value).drop 1).take (Tryz.prog.cellsOf 2)) = some x1 := hf 1 _ rfl
  rw [e1] at f1
  obtain ⟨i1, g1, _, v1⟩ := DataW.trod_int Tryz.underlying2 f1
  simp at g0 g1
  subst g0 g1
  exact ⟨⟨zz, i1⟩, aa, nn, pp, rfl, rr, qq, pu_all rr uu⟩

set_option maxRecDepth 20000 in
theorem open_ros {H : Type} {enc : TypeId × Value → H} {W : World} {fuel : Nat} {cs : List Value} {x : DataW H × List MemPlace} (h : DataW.trod enc Tryz.prog W 0 (fun _ => true) true fuel 22 cs = some x) : ∃ a n c xs, cs = [.slice a n c] ∧ Ros (fun _ _ => True) W a n xs := by
  rcases DataW.trod_slice Tryz.underlying22 h with ⟨rfl, _⟩ | ⟨a, len, cap, elems, rest, n, rfl, rfl, _, _, hl, hm, hlen, hel, _, _⟩
  · exact ⟨none, 0, 0, [], rfl, ⟨rfl, by decide, fun k hk => absurd hk (by omega)⟩⟩
  · have ec : Tryz.prog.cellsOf 146 = 2 := by kernel_rfl
    rw [ec] at hel
    have each : ∀ i, i < len → ∃ y : RoP, ∃ cs', W.cells? 0 (a.add (i * 2)) 2 = some cs' ∧ OpensRo W y cs' := by
      intro i hi
      have he := hel i hi
      rw [List.getElem?_eq_getElem (by omega)] at he
      cases hc : W.cells? 0 (a.add (i * 2)) 2 with
      | none => rw [hc] at he; cases he
      | some cs' =>
        rw [hc] at he
        obtain ⟨y, hy⟩ := open_ro he
        exact ⟨y, cs', rfl, hy⟩
    obtain ⟨y, hy⟩ := Go.Deep.choose_lt each
    have hm' : len ≤ 9223372036854775807 := by unfold maxLen at hm; omega
    refine ⟨some a, len, cap, (List.range len).map y, rfl, ⟨by simp, hm', fun k hk => ?_⟩⟩
    obtain ⟨cs', hcs, a2, n2, p2, rfl, hr, hq, hu⟩ := hy k hk
    obtain ⟨_, _, hcell⟩ := World.cells?_some hcs
    obtain ⟨b, off, spot⟩ := a
    have hs : spot = none := by
      obtain ⟨cs0, hcs0, _⟩ := hy 0 (by omega)
      obtain ⟨_, hl0, hcell0⟩ := World.cells?_some hcs0
      have h00 := hcell0 0 (by omega)
      rw [List.getElem?_eq_getElem (by omega)] at h00
      simpa [Addr.add] using World.cell?_spot h00
    subst hs
    have ey : ((List.range len).map y).getD k default = y k := by simp [hk]
    rw [ey]
    have cc : ∀ j, j < 2 → W.cell? ⟨b, off + k * 2 + j, none⟩ = [Value.slice a2 n2 p2, .int .i64 (y k).need][j]? := by
      intro j hj
      have := hcell j hj
      rw [Addr.add_lit, Addr.add_lit] at this
      exact this
    exact ⟨b, off, a2, n2, p2, rfl, World.block_lt_of_cell? W _ (cc 0 (by omega)), ⟨cc 0 (by omega), cc 1 (by omega)⟩, hr, hq, hu, trivial⟩

end Go.Proofs.YtglpbgebcpijaaaGreat

namespace Go.Proofs.YtglpbgebcpijaaaGreat
open Go.ChangeShapes Go.WideShapes Go.ChangeAt Go.RowKit

set_option maxRecDepth 20000 in
theorem open_Te {H : Type} {enc : TypeId × Value → H} {W : World} {fuel : Nat} {cs : List Value} {x : DataW H × List MemPlace} (h : DataW.trod enc Tryz.prog W 0 (fun _ => true) true fuel 162 cs = some x) : ∃ y : Int × Int, cs = [.int .u64 y.1, .int .i64 y.2] ∧ (Lit.int .u64 y.1).wf = true ∧ (Lit.int .i64 y.2).wf = true := by
  obtain ⟨xs, m, rfl, _, hl, hxl, hf⟩ := DataW.trod_struct Tryz.underlying162 h
  have hl2 : cs.length = 2 := hl.trans (by kernel_rfl)
  have hx2 : xs.length = 2 := hxl
  obtain ⟨c0, c1, rfl⟩ : ∃ c0 c1, cs = [c0, c1] := by
    match cs, hl2 with
    | [c0, c1], _ => exact ⟨c0, c1, rfl⟩
  obtain ⟨x0, x1, rfl⟩ : ∃ c0 c1, xs = [c0, c1] := by
    match xs, hx2 with
    | [c0, c1], _ => exact ⟨c0, c1, rfl⟩
  have e_i64 : Tryz.prog.cellsOf 2 = 1 := by kernel_rfl
  have e_u64 : Tryz.prog.cellsOf 26 = 1 := by kernel_rfl
  have f0 : DataW.trod enc Tryz.prog W 0 (fun _ => true) true m 26 ((([c0, c1] : List Value).drop 0).take (Tryz.prog.cellsOf 26)) = some x0 := hf 0 _ rfl
  rw [e_u64] at f0
  obtain ⟨n0, g0, _, u0⟩ := DataW.trod_int Tryz.underlying26 f0
  have f1 : DataW.trod enc Tryz.prog W 0 (fun _ => true) true m 2 ((([c0, c1] : List Value).drop 1).take (Tryz.prog.cellsOf 2)) = some x1 := hf 1 _ rfl
  rw [e_i64] at f1
  obtain ⟨n1, g1, _, u1⟩ := DataW.trod_int Tryz.underlying2 f1
  simp at g0 g1
  subst g0 g1
  exact ⟨(n0, n1), rfl, u0, u1⟩

set_option maxRecDepth 20000 in
theorem open_Tes {H : Type} {enc : TypeId × Value → H} {W : World} {fuel : Nat} {cs : List Value} {x : DataW H × List MemPlace} (h : DataW.trod enc Tryz.prog W 0 (fun _ => true) true fuel 29 cs = some x) : ∃ a n c xs, cs = [.slice a n c] ∧ RowTe W a n xs ∧ n ≤ 9223372036854775807 ∧ ∀ j, j < n → (xs.getD j (0, 0)).2 ≤ 9223372036854775807 := by
  rcases DataW.trod_slice Tryz.underlying29 h with ⟨rfl, _⟩ | ⟨a, len, cap, elems, rest, n, rfl, rfl, _, _, hl, hm, hlen, hel, _, _⟩
  · exact ⟨none, 0, 0, [], rfl, ⟨rfl, fun k hk => absurd hk (by omega), UTe.nil⟩, by decide, fun j hj => absurd hj (Nat.not_lt_zero _)⟩
  · have ec : Tryz.prog.cellsOf 162 = 2 := by kernel_rfl
    rw [ec] at hel
    have each : ∀ i, i < len → ∃ y : Int × Int, ∃ cs', W.cells? 0 (a.add (i * 2)) 2 = some cs' ∧ cs' = [.int .u64 y.1, .int .i64 y.2] ∧ (Lit.int .u64 y.1).wf = true ∧ (Lit.int .i64 y.2).wf = true := by
      intro i hi
      have he := hel i hi
      rw [List.getElem?_eq_getElem (by omega)] at he
      cases hc : W.cells? 0 (a.add (i * 2)) 2 with
      | none => rw [hc] at he; cases he
      | some cs' =>
        rw [hc] at he
        obtain ⟨y, hy⟩ := open_Te he
        exact ⟨y, cs', rfl, hy⟩
    obtain ⟨y, hy⟩ := Go.Deep.choose_lt each
    have hm' : len ≤ 9223372036854775807 := by unfold maxLen at hm; omega
    have ey : ∀ k, k < len → ((List.range len).map y).getD k (0, 0) = y k := fun k hk => by simp [hk]
    refine ⟨some a, len, cap, (List.range len).map y, rfl, ⟨by simp, fun k hk => ?_, fun k => ?_⟩, hm', fun k hk => ?_⟩
    · obtain ⟨cs', hcs, rfl, _⟩ := hy k hk
      obtain ⟨_, _, hcell⟩ := World.cells?_some hcs
      obtain ⟨b, off, spot⟩ := a
      have hs : spot = none := by
        obtain ⟨cs0, hcs0, _⟩ := hy 0 (by omega)
        obtain ⟨_, hl0, hcell0⟩ := World.cells?_some hcs0
        have h00 := hcell0 0 (by omega)
        rw [List.getElem?_eq_getElem (by omega)] at h00
        simpa [Addr.add] using World.cell?_spot h00
      subst hs
      rw [ey k hk]
      have cc : ∀ j, j < 2 → W.cell? ⟨b, off + k * 2 + j, none⟩ = [Value.int .u64 (y k).1, .int .i64 (y k).2][j]? := by
        intro j hj
        have := hcell j hj
        rw [Addr.add_lit, Addr.add_lit] at this
        exact this
      exact ⟨b, off, rfl, World.block_lt_of_cell? W _ (cc 0 (by omega)), cc 0 (by omega), cc 1 (by omega)⟩
    · by_cases hk : k < len
      · rw [ey k hk]
        obtain ⟨_, _, _, w0, w1⟩ := hy k hk
        exact bounds_u64 w0
      · have e2 : ((List.range len).map y).getD k (0, 0) = (0, 0) := by simp [hk]
        rw [e2]; simp [U64]
    · rw [ey k hk]
      obtain ⟨_, _, _, w0, w1⟩ := hy k hk
      exact (bounds_i64 w1).2

end Go.Proofs.YtglpbgebcpijaaaGreat

namespace Go.Proofs.YtglpbgebcpijaaaGreat
open Go.ChangeShapes Go.WideShapes Go.ChangeAt Go.RowKit

set_option maxRecDepth 20000 in
theorem open_root {H : Type} {enc : TypeId × Value → H} {W : World} {fuel : Nat} {cs : List Value} {x : DataW H × List MemPlace} (h : DataW.trod enc Tryz.prog W 0 (fun _ => true) true fuel 25 cs = some x) : ∃ (y : RfP) (a0 : Option Addr) (n0 c0 : Nat) (a1 : Option Addr) (n1 c1 : Nat), cs = [.int .i64 y.v, .int .i64 y.e, .slice a0 n0 c0, .slice a1 n1 c1] ∧ Ros KT W a0 n0 y.rs ∧ Fss KT W a1 n1 y.ss := by
  obtain ⟨xs, m, rfl, _, hl, hxl, hf⟩ := DataW.trod_struct Tryz.underlying25 h
  have hl2 : cs.length = 4 := hl.trans (by kernel_rfl)
  have hx2 : xs.length = 4 := hxl
  obtain ⟨c0, c1, c2, c3, rfl⟩ : ∃ c0 c1 c2 c3, cs = [c0, c1, c2, c3] := by
    match cs, hl2 with
    | [c0, c1, c2, c3], _ => exact ⟨c0, c1, c2, c3, rfl⟩
  obtain ⟨x0, x1, x2, x3, rfl⟩ : ∃ x0 x1 x2 x3, xs = [x0, x1, x2, x3] := by
    match xs, hx2 with
    | [x0, x1, x2, x3], _ => exact ⟨x0, x1, x2, x3, rfl⟩
  have e0 : Tryz.prog.cellsOf 2 = 1 := by kernel_rfl
  have f0 : DataW.trod enc Tryz.prog W 0 (fun _ => true) true m 2 ((([c0, c1, c2, c3] : List Value).drop 0).take (Tryz.prog.cellsOf 2)) = some x0 := hf 0 _ rfl
  rw [e0] at f0
  obtain ⟨i0, g0, _, v0⟩ := DataW.trod_int Tryz.underlying2 f0
  have e1 : Tryz.prog.cellsOf 2 = 1 := by kernel_rfl
  have f1 : DataW.trod enc Tryz.prog W 0 (fun _ => true) true m 2 ((([c0, c1, c2, c3] : List Value).drop 1).take (Tryz.prog.cellsOf 2)) = some x1 := hf 1 _ rfl
  rw [e1] at f1
  obtain ⟨i1, g1, _, v1⟩ := DataW.trod_int Tryz.underlying2 f1
  have e2 : Tryz.prog.cellsOf 22 = 1 := by kernel_rfl
  have f2 : DataW.trod enc Tryz.prog W 0 (fun _ => true) true m 22 ((([c0, c1, c2, c3] : List Value).drop 2).take (Tryz.prog.cellsOf 22)) = some x2 := hf 2 _ rfl
  rw [e2] at f2
  obtain ⟨aa0, nn0, cc0, zz0, g2, rr0⟩ := open_ros f2
  have e3 : Tryz.prog.cellsOf 23 = 1 := by kernel_rfl
  have f3 : DataW.trod enc Tryz.prog W 0 (fun _ => true) true m 23 ((([c0, c1, c2, c3] : List Value).drop 3).take (Tryz.prog.cellsOf 23)) = some x3 := hf 3 _ rfl
  rw [e3] at f3
  obtain ⟨aa1, nn1, cc1, zz1, g3, rr1⟩ := open_fss f3
  simp at g0 g1 g2 g3
  subst g0 g1 g2 g3
  exact ⟨⟨i0, i1, zz0, zz1⟩, aa0, nn0, cc0, aa1, nn1, cc1, rfl, rr0, rr1⟩

set_option maxRecDepth 20000 in
theorem open_stamp {H : Type} {enc : TypeId × Value → H} {W : World} {fuel : Nat} {cs : List Value} {x : DataW H × List MemPlace} (h : DataW.trod enc Tryz.prog W 0 (fun _ => true) true fuel 28 cs = some x) : ∃ (y : SfP) (a0 : Option Addr) (n0 c0 : Nat), cs = [.int .i64 y.v, .int .i64 y.e, .int .i64 y.lv, .int .u64 y.lh, .slice a0 n0 c0] ∧ Fss KT W a0 n0 y.ss := by
  obtain ⟨xs, m, rfl, _, hl, hxl, hf⟩ := DataW.trod_struct Tryz.underlying28 h
  have hl2 : cs.length = 5 := hl.trans (by kernel_rfl)
  have hx2 : xs.length = 5 := hxl
  obtain ⟨c0, c1, c2, c3, c4, rfl⟩ : ∃ c0 c1 c2 c3 c4, cs = [c0, c1, c2, c3, c4] := by
    match cs, hl2 with
    | [c0, c1, c2, c3, c4], _ => exact ⟨c0, c1, c2, c3, c4, rfl⟩
  obtain ⟨x0, x1, x2, x3, x4, rfl⟩ : ∃ x0 x1 x2 x3 x4, xs = [x0, x1, x2, x3, x4] := by
    match xs, hx2 with
    | [x0, x1, x2, x3, x4], _ => exact ⟨x0, x1, x2, x3, x4, rfl⟩
  have e0 : Tryz.prog.cellsOf 2 = 1 := by kernel_rfl
  have f0 : DataW.trod enc Tryz.prog W 0 (fun _ => true) true m 2 ((([c0, c1, c2, c3, c4] : List Value).drop 0).take (Tryz.prog.cellsOf 2)) = some x0 := hf 0 _ rfl
  rw [e0] at f0
  obtain ⟨i0, g0, _, v0⟩ := DataW.trod_int Tryz.underlying2 f0
  have e1 : Tryz.prog.cellsOf 2 = 1 := by kernel_rfl
  have f1 : DataW.trod enc Tryz.prog W 0 (fun _ => true) true m 2 ((([c0, c1, c2, c3, c4] : List Value).drop 1).take (Tryz.prog.cellsOf 2)) = some x1 := hf 1 _ rfl
  rw [e1] at f1
  obtain ⟨i1, g1, _, v1⟩ := DataW.trod_int Tryz.underlying2 f1
  have e2 : Tryz.prog.cellsOf 2 = 1 := by kernel_rfl
  have f2 : DataW.trod enc Tryz.prog W 0 (fun _ => true) true m 2 ((([c0, c1, c2, c3, c4] : List Value).drop 2).take (Tryz.prog.cellsOf 2)) = some x2 := hf 2 _ rfl
  rw [e2] at f2
  obtain ⟨i2, g2, _, v2⟩ := DataW.trod_int Tryz.underlying2 f2
  have e3 : Tryz.prog.cellsOf 26 = 1 := by kernel_rfl
  have f3 : DataW.trod enc Tryz.prog W 0 (fun _ => true) true m 26 ((([c0, c1, c2, c3, c4] : List Value).drop 3).take (Tryz.prog.cellsOf 26)) = some x3 := hf 3 _ rfl
  rw [e3] at f3
  obtain ⟨i3, g3, _, v3⟩ := DataW.trod_int Tryz.underlying26 f3
  have e4 : Tryz.prog.cellsOf 23 = 1 := by kernel_rfl
  have f4 : DataW.trod enc Tryz.prog W 0 (fun _ => true) true m 23 ((([c0, c1, c2, c3, c4] : List Value).drop 4).take (Tryz.prog.cellsOf 23)) = some x4 := hf 4 _ rfl
  rw [e4] at f4
  obtain ⟨aa2, nn2, cc2, zz2, g4, rr2⟩ := open_fss f4
  simp at g0 g1 g2 g3 g4
  subst g0 g1 g2 g3 g4
  exact ⟨⟨i0, i1, i2, i3, zz2⟩, aa2, nn2, cc2, rfl, rr2⟩

set_option maxRecDepth 20000 in
theorem open_list {H : Type} {enc : TypeId × Value → H} {W : World} {fuel : Nat} {cs : List Value} {x : DataW H × List MemPlace} (h : DataW.trod enc Tryz.prog W 0 (fun _ => true) true fuel 31 cs = some x) : ∃ (y : LfP) (a0 : Option Addr) (n0 c0 : Nat) (a1 : Option Addr) (n1 c1 : Nat), cs = [.int .i64 y.v, .int .i64 y.e, .slice a0 n0 c0, .slice a1 n1 c1] ∧ RowTe W a0 n0 y.es ∧ n0 ≤ 9223372036854775807 ∧ Fss KT W a1 n1 y.ss := by
  obtain ⟨xs, m, rfl, _, hl, hxl, hf⟩ := DataW.trod_struct Tryz.underlying31 h
  have hl2 : cs.length = 4 := hl.trans (by kernel_rfl)
  have hx2 : xs.length = 4 := hxl
  obtain ⟨c0, c1, c2, c3, rfl⟩ : ∃ c0 c1 c2 c3, cs = [c0, c1, c2, c3] := by
    match cs, hl2 with
    | [c0, c1, c2, c3], _ => exact ⟨c0, c1, c2, c3, rfl⟩
  obtain ⟨x0, x1, x2, x3, rfl⟩ : ∃ x0 x1 x2 x3, xs = [x0, x1, x2, x3] := by
    match xs, hx2 with
    | [x0, x1, x2, x3], _ => exact ⟨x0, x1, x2, x3, rfl⟩
  have e0 : Tryz.prog.cellsOf 2 = 1 := by kernel_rfl
  have f0 : DataW.trod enc Tryz.prog W 0 (fun _ => true) true m 2 ((([c0, c1, c2, c3] : List Value).drop 0).take (Tryz.prog.cellsOf 2)) = some x0 := hf 0 _ rfl
  rw [e0] at f0
  obtain ⟨i0, g0, _, v0⟩ := DataW.trod_int Tryz.underlying2 f0
  have e1 : Tryz.prog.cellsOf 2 = 1 := by kernel_rfl
  have f1 : DataW.trod enc Tryz.prog W 0 (fun _ => true) true m 2 ((([c0, c1, c2, c3] : List Value).drop 1).take (Tryz.prog.cellsOf 2)) = some x1 := hf 1 _ rfl
  rw [e1] at f1
  obtain ⟨i1, g1, _, v1⟩ := DataW.trod_int Tryz.underlying2 f1
  have e2 : Tryz.prog.cellsOf 29 = 1 := by kernel_rfl
  have f2 : DataW.trod enc Tryz.prog W 0 (fun _ => true) true m 29 ((([c0, c1, c2, c3] : List Value).drop 2).take (Tryz.prog.cellsOf 29)) = some x2 := hf 2 _ rfl
  rw [e2] at f2
  obtain ⟨aa3, nn3, cc3, zz3, g2, rr3, qq3, _⟩ := open_Tes f2
  have e3 : Tryz.prog.cellsOf 23 = 1 := by kernel_rfl
  have f3 : DataW.trod enc Tryz.prog W 0 (fun _ => true) true m 23 ((([c0, c1, c2, c3] : List Value).drop 3).take (Tryz.prog.cellsOf 23)) = some x3 := hf 3 _ rfl
  rw [e3] at f3
  obtain ⟨aa4, nn4, cc4, zz4, g3, rr4⟩ := open_fss f3
  simp at g0 g1 g2 g3
  subst g0 g1 g2 g3
  exact ⟨⟨i0, i1, zz3, zz4⟩, aa3, nn3, cc3, aa4, nn4, cc4, rfl, rr3, qq3, rr4⟩

set_option maxRecDepth 20000 in
theorem open_ts {H : Type} {enc : TypeId × Value → H} {W : World} {fuel : Nat} {cs : List Value} {x : DataW H × List MemPlace} (h : DataW.trod enc Tryz.prog W 0 (fun _ => true) true fuel 56 cs = some x) : ∃ (x : TsP) (a0 : Option Addr) (n0 c0 : Nat) (a1 : Option Addr) (n1 c1 : Nat) (a2 : Option Addr) (n2 c2 : Nat) (a3 : Option Addr) (n3 c3 : Nat) (a4 : Option Addr) (n4 c4 : Nat), cs = [.int .i64 x.r.v, .int .i64 x.r.e, .slice a0 n0 c0, .slice a1 n1 c1, .int .i64 x.s.v, .int .i64 x.s.e, .int .i64 x.s.lv, .int .u64 x.s.lh, .slice a2 n2 c2, .int .i64 x.l.v, .int .i64 x.l.e, .slice a3 n3 c3, .slice a4 n4 c4] ∧ TsR x a0 n0 a1 n1 a2 n2 a3 n3 a4 n4 W := by
  obtain ⟨xs, m, rfl, _, hl, hxl, hf⟩ := DataW.trod_struct Tryz.underlying56 h
  have hl2 : cs.length = 13 := hl.trans (by kernel_rfl)
  have hx2 : xs.length = 3 := hxl
  obtain ⟨c0, c1, c2, c3, c4, c5, c6, c7, c8, c9, c10, c11, c12, rfl⟩ : ∃ c0 c1 c2 c3 c4 c5 c6 c7 c8 c9 c10 c11 c12, cs = [c0, c1, c2, c3, c4, c5, c6, c7, c8, c9, c10, c11, c12] := by
    match cs, hl2 with
    | [c0, c1, c2, c3, c4, c5, c6, c7, c8, c9, c10, c11, c12], _ => exact ⟨c0, c1, c2, c3, c4, c5, c6, c7, c8, c9, c10, c11, c12, rfl⟩
  obtain ⟨x0, x1, x2, rfl⟩ : ∃ x0 x1 x2, xs = [x0, x1, x2] := by
    match xs, hx2 with
    | [x0, x1, x2], _ => exact ⟨x0, x1, x2, rfl⟩
  have e0 : Tryz.prog.cellsOf 25 = 4 := by kernel_rfl
  have f0 : DataW.trod enc Tryz.prog W 0 (fun _ => true) true m 25 ((([c0, c1, c2, c3, c4, c5, c6, c7, c8, c9, c10, c11, c12] : List Value).drop 0).take (Tryz.prog.cellsOf 25)) = some x0 := hf 0 _ rfl
  rw [e0] at f0
  obtain ⟨y0, aa0, nn0, cc0, aa1, nn1, cc1, g0, r0, r1⟩ := open_root f0
  have e1 : Tryz.prog.cellsOf 28 = 5 := by kernel_rfl
  have f1 : DataW.trod enc Tryz.prog W 0 (fun _ => true) true m 28 ((([c0, c1, c2, c3, c4, c5, c6, c7, c8, c9, c10, c11, c12] : List Value).drop 4).take (Tryz.prog.cellsOf 28)) = some x1 := hf 1 _ rfl
  rw [e1] at f1
  obtain ⟨y1, aa2, nn2, cc2, g1, r2⟩ := open_stamp f1
  have e2 : Tryz.prog.cellsOf 31 = 4 := by kernel_rfl
  have f2 : DataW.trod enc Tryz.prog W 0 (fun _ => true) true m 31 ((([c0, c1, c2, c3, c4, c5, c6, c7, c8, c9, c10, c11, c12] : List Value).drop 9).take (Tryz.prog.cellsOf 31)) = some x2 := hf 2 _ rfl
  rw [e2] at f2
  obtain ⟨y2, aa3, nn3, cc3, aa4, nn4, cc4, g2, r3, m3, r4⟩ := open_list f2
  simp at g0 g1 g2
  obtain ⟨rfl, rfl, rfl, rfl⟩ := g0
  obtain ⟨rfl, rfl, rfl, rfl, rfl⟩ := g1
  obtain ⟨rfl, rfl, rfl, rfl⟩ := g2
  exact ⟨⟨y0, y1, y2⟩, aa0, nn0, cc0, aa1, nn1, cc1, aa2, nn2, cc2, aa3, nn3, cc3, aa4, nn4, cc4, rfl, ⟨r0, r1, r2, r3, r4, r0.max, r1.max, r2.max, m3, r4.max⟩⟩

end Go.Proofs.YtglpbgebcpijaaaGreat

namespace Go.Proofs.YtglpbgebcpijaaaGreat
open Go.ChangeShapes Go.WideShapes Go.ChangeAt Go.RowKit

set_option maxRecDepth 20000 in
theorem open_stampU {H : Type} {enc : TypeId × Value → H} {W : World} {fuel : Nat} {cs : List Value} {x : DataW H × List MemPlace} (h : DataW.trod enc Tryz.prog W 0 (fun _ => true) true fuel 28 cs = some x) : ∃ (y : SfP) (a0 : Option Addr) (n0 c0 : Nat), cs = [.int .i64 y.v, .int .i64 y.e, .int .i64 y.lv, .int .u64 y.lh, .slice a0 n0 c0] ∧ Fss KT W a0 n0 y.ss ∧ U64 y.lh := by
  obtain ⟨xs, m, rfl, _, hl, hxl, hf⟩ := DataW.trod_struct Tryz.underlying28 h
  have hl2 : cs.length = 5 := hl.trans (by kernel_rfl)
  have hx2 : xs.length = 5 := hxl
  obtain ⟨c0, c1, c2, c3, c4, rfl⟩ : ∃ c0 c1 c2 c3 c4, cs = [c0, c1, c2, c3, c4] := by
    match cs, hl2 with
    | [c0, c1, c2, c3, c4], _ => exact ⟨c0, c1, c2, c3, c4, rfl⟩
  obtain ⟨x0, x1, x2, x3, x4, rfl⟩ : ∃ x0 x1 x2 x3 x4, xs = [x0, x1, x2, x3, x4] := by
    match xs, hx2 with
    | [x0, x1, x2, x3, x4], _ => exact ⟨x0, x1, x2, x3, x4, rfl⟩
  have e0 : Tryz.prog.cellsOf 2 = 1 := by kernel_rfl
  have f0 : DataW.trod enc Tryz.prog W 0 (fun _ => true) true m 2 ((([c0, c1, c2, c3, c4] : List Value).drop 0).take (Tryz.prog.cellsOf 2)) = some x0 := hf 0 _ rfl
  rw [e0] at f0
  obtain ⟨i0, g0, _, v0⟩ := DataW.trod_int Tryz.underlying2 f0
  have e1 : Tryz.prog.cellsOf 2 = 1 := by kernel_rfl
  have f1 : DataW.trod enc Tryz.prog W 0 (fun _ => true) true m 2 ((([c0, c1, c2, c3, c4] : List Value).drop 1).take (Tryz.prog.cellsOf 2)) = some x1 := hf 1 _ rfl
  rw [e1] at f1
  obtain ⟨i1, g1, _, v1⟩ := DataW.trod_int Tryz.underlying2 f1
  have e2 : Tryz.prog.cellsOf 2 = 1 := by kernel_rfl
  have f2 : DataW.trod enc Tryz.prog W 0 (fun _ => true) true m 2 ((([c0, c1, c2, c3, c4] : List Value).drop 2).take (Tryz.prog.cellsOf 2)) = some x2 := hf 2 _ rfl
  rw [e2] at f2
  obtain ⟨i2, g2, _, v2⟩ := DataW.trod_int Tryz.underlying2 f2
  have e3 : Tryz.prog.cellsOf 26 = 1 := by kernel_rfl
  have f3 : DataW.trod enc Tryz.prog W 0 (fun _ => true) true m 26 ((([c0, c1, c2, c3, c4] : List Value).drop 3).take (Tryz.prog.cellsOf 26)) = some x3 := hf 3 _ rfl
  rw [e3] at f3
  obtain ⟨i3, g3, _, v3⟩ := DataW.trod_int Tryz.underlying26 f3
  have e4 : Tryz.prog.cellsOf 23 = 1 := by kernel_rfl
  have f4 : DataW.trod enc Tryz.prog W 0 (fun _ => true) true m 23 ((([c0, c1, c2, c3, c4] : List Value).drop 4).take (Tryz.prog.cellsOf 23)) = some x4 := hf 4 _ rfl
  rw [e4] at f4
  obtain ⟨aa2, nn2, cc2, zz2, g4, rr2⟩ := open_fss f4
  simp at g0 g1 g2 g3 g4
  subst g0 g1 g2 g3 g4
  exact ⟨⟨i0, i1, i2, i3, zz2⟩, aa2, nn2, cc2, rfl, rr2, bounds_u64 v3⟩

set_option maxRecDepth 20000 in
theorem open_tf {H : Type} {enc : TypeId × Value → H} {W : World} {fuel : Nat} {cs : List Value} {x : DataW H × List MemPlace} (h : DataW.trod enc Tryz.prog W 0 (fun _ => true) true fuel 33 cs = some x) : ∃ (x : TfP) (a0 : Option Addr) (n0 c0 : Nat) (a1 : Option Addr) (n1 c1 : Nat) (a2 : Option Addr) (n2 c2 : Nat) (a3 : Option Addr) (n3 c3 : Nat) (a4 : Option Addr) (n4 c4 : Nat), cs = [.int .i64 x.k, .int .i64 x.r.v, .int .i64 x.r.e, .slice a0 n0 c0, .slice a1 n1 c1, .int .i64 x.s.v, .int .i64 x.s.e, .int .i64 x.s.lv, .int .u64 x.s.lh, .slice a2 n2 c2, .int .i64 x.l.v, .int .i64 x.l.e, .slice a3 n3 c3, .slice a4 n4 c4] ∧ TfR x a0 n0 a1 n1 a2 n2 a3 n3 a4 n4 W := by
  obtain ⟨xs, m, rfl, _, hl, hxl, hf⟩ := DataW.trod_struct Tryz.underlying33 h
  have hl2 : cs.length = 14 := hl.trans (by kernel_rfl)
  have hx2 : xs.length = 4 := hxl
  obtain ⟨c0, c1, c2, c3, c4, c5, c6, c7, c8, c9, c10, c11, c12, c13, rfl⟩ : ∃ c0 c1 c2 c3 c4 c5 c6 c7 c8 c9 c10 c11 c12 c13, cs = [c0, c1, c2, c3, c4, c5, c6, c7, c8, c9, c10, c11, c12, c13] := by
    match cs, hl2 with
    | [c0, c1, c2, c3, c4, c5, c6, c7, c8, c9, c10, c11, c12, c13], _ => exact ⟨c0, c1, c2, c3, c4, c5, c6, c7, c8, c9, c10, c11, c12, c13, rfl⟩
  obtain ⟨x0, x1, x2, x3, rfl⟩ : ∃ x0 x1 x2 x3, xs = [x0, x1, x2, x3] := by
    match xs, hx2 with
    | [x0, x1, x2, x3], _ => exact ⟨x0, x1, x2, x3, rfl⟩
  have e0 : Tryz.prog.cellsOf 2 = 1 := by kernel_rfl
  have f0 : DataW.trod enc Tryz.prog W 0 (fun _ => true) true m 2 ((([c0, c1, c2, c3, c4, c5, c6, c7, c8, c9, c10, c11, c12, c13] : List Value).drop 0).take (Tryz.prog.cellsOf 2)) = some x0 := hf 0 _ rfl
  rw [e0] at f0
  obtain ⟨i0, g0, _, v0⟩ := DataW.trod_int Tryz.underlying2 f0
  have e1 : Tryz.prog.cellsOf 25 = 4 := by kernel_rfl
  have f1 : DataW.trod enc Tryz.prog W 0 (fun _ => true) true m 25 ((([c0, c1, c2, c3, c4, c5, c6, c7, c8, c9, c10, c11, c12, c13] : List Value).drop 1).take (Tryz.prog.cellsOf 25)) = some x1 := hf 1 _ rfl
  rw [e1] at f1
  obtain ⟨y0, aa0, nn0, cc0, aa1, nn1, cc1, g1, r0, r1⟩ := open_root f1
  have e2 : Tryz.prog.cellsOf 28 = 5 := by kernel_rfl
  have f2 : DataW.trod enc Tryz.prog W 0 (fun _ => true) true m 28 ((([c0, c1, c2, c3, c4, c5, c6, c7, c8, c9, c10, c11, c12, c13] : List Value).drop 5).take (Tryz.prog.cellsOf 28)) = some x2 := hf 2 _ rfl
  rw [e2] at f2
  obtain ⟨y1, aa2, nn2, cc2, g2, r2, ru⟩ := open_stampU f2
  have e3 : Tryz.prog.cellsOf 31 = 4 := by kernel_rfl
  have f3 : DataW.trod enc Tryz.prog W 0 (fun _ => true) true m 31 ((([c0, c1, c2, c3, c4, c5, c6, c7, c8, c9, c10, c11, c12, c13] : List Value).drop 10).take (Tryz.prog.cellsOf 31)) = some x3 := hf 3 _ rfl
  rw [e3] at f3
  obtain ⟨y2, aa3, nn3, cc3, aa4, nn4, cc4, g3, r3, m3, r4⟩ := open_list f3
  simp at g0 g1 g2 g3
  subst g0
  obtain ⟨rfl, rfl, rfl, rfl⟩ := g1
  obtain ⟨rfl, rfl, rfl, rfl, rfl⟩ := g2
  obtain ⟨rfl, rfl, rfl, rfl⟩ := g3
  exact ⟨⟨i0, y0, y1, y2⟩, aa0, nn0, cc0, aa1, nn1, cc1, aa2, nn2, cc2, aa3, nn3, cc3, aa4, nn4, cc4, rfl, ⟨r0, r1, r2, r3, r4, r0.max, r1.max, r2.max, m3, r4.max, ru⟩⟩

end Go.Proofs.YtglpbgebcpijaaaGreat

