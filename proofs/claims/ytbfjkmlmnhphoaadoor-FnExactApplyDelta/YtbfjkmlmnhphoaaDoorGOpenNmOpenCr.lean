import Derived.Test.YtbfjkmlmnhphoaaDoorGTouchN1
import Derived.Deep.Slices
import Derived.ChangeArms
import Derived.ChangeSlices
import Derived.WalkKit
import Derived.ProofKit
import Derived.Test.YtbfjkmlmnhphoaaDoorGK3K4
namespace Go.Proofs.YtbfjkmlmnhphoaaDoor
open Go.ChangeShapes Go.WideShapes Go.ChangeAt Go.RowKit

def OpensP (y : PT) (cs : List Value) : Prop := cs = [.int .i64 y.attr, .string y.val] ∧ y.val.size ≤ 9223372036854775807

set_option maxRecDepth 20000 in
theorem open_part {H : Type} {enc : TypeId × Value → H} {W : World} {fuel : Nat} {cs : List Value} {x : DataW H × List MemPlace} (h : DataW.trod enc Tryd.prog W 0 (fun _ => true) true fuel 106 cs = some x) : ∃ y, OpensP y cs := by
  obtain ⟨xs, m, rfl, _, hl, hxl, hf⟩ := DataW.trod_struct Tryd.underlying106 h
  have hl2 : cs.length = 2 := hl.trans (by kernel_rfl)
  have hx2 : xs.length = 2 := hxl
  obtain ⟨c0, c1, rfl⟩ : ∃ c0 c1, cs = [c0, c1] := by
    match cs, hl2 with
    | [c0, c1], _ => exact ⟨c0, c1, rfl⟩
  obtain ⟨x0, x1, rfl⟩ : ∃ c0 c1, xs = [c0, c1] := by
    match xs, hx2 with
    | [c0, c1], _ => exact ⟨c0, c1, rfl⟩
  have e1 : Tryd.prog.cellsOf 2 = 1 := by kernel_rfl
  have e2 : Tryd.prog.cellsOf 9 = 1 := by kernel_rfl
  have f0 : DataW.trod enc Tryd.prog W 0 (fun _ => true) true m 2 ((([c0, c1] : List Value).drop 0).take (Tryd.prog.cellsOf 2)) = some x0 := hf 0 _ rfl
  rw [e1] at f0
  have f1 : DataW.trod enc Tryd.prog W 0 (fun _ => true) true m 9 ((([c0, c1] : List Value).drop 1).take (Tryd.prog.cellsOf 9)) = some x1 := hf 1 _ rfl
  rw [e2] at f1
  obtain ⟨n0, h0, _, _⟩ := DataW.trod_int Tryd.underlying2 f0
  obtain ⟨s1, h1, _, hs⟩ := DataW.trod_string Tryd.underlying9 f1
  simp at h0 h1
  subst h0 h1
  exact ⟨⟨n0, s1⟩, rfl, by unfold maxLen at hs; show s1.size ≤ _; omega⟩

set_option maxRecDepth 20000 in
theorem open_parts {H : Type} {enc : TypeId × Value → H} {W : World} {fuel : Nat} {cs : List Value} {x : DataW H × List MemPlace} (h : DataW.trod enc Tryd.prog W 0 (fun _ => true) true fuel 22 cs = some x) : ∃ a n c xs, cs = [.slice a n c] ∧ Pts W a n xs := by
  rcases DataW.trod_slice Tryd.underlying22 h with ⟨rfl, _⟩ | ⟨a, len, cap, elems, rest, n, rfl, rfl, _, _, hl, hm, hlen, hel, _, _⟩
  · exact ⟨none, 0, 0, [], rfl, ⟨rfl, by decide, fun k hk => absurd hk (by omega)⟩⟩
  · have ec : Tryd.prog.cellsOf 106 = 2 := by kernel_rfl
    rw [ec] at hel
    have each : ∀ i, i < len → ∃ y : PT, ∃ cs', W.cells? 0 (a.add (i * 2)) 2 = some cs' ∧ OpensP y cs' := by
      intro i hi
      have he := hel i hi
      rw [List.getElem?_eq_getElem (by omega)] at he
      cases hc : W.cells? 0 (a.add (i * 2)) 2 with
      | none => rw [hc] at he; cases he
      | some cs' =>
        rw [hc] at he
        obtain ⟨y, hy⟩ := open_part he
        exact ⟨y, cs', rfl, hy⟩
    obtain ⟨y, hy⟩ := Go.Deep.choose_lt each
    have hm' : len ≤ 9223372036854775807 := by unfold maxLen at hm; omega
    refine ⟨some a, len, cap, (List.range len).map y, rfl, ⟨by simp, hm', fun k hk => ?_⟩⟩
    obtain ⟨cs', hcs, rfl, hnk⟩ := hy k hk
    obtain ⟨_, _, hcell⟩ := World.cells?_some hcs
    obtain ⟨b, off, spot⟩ := a
    have hs : spot = none := by
      obtain ⟨cs0, hcs0, _⟩ := hy 0 (by omega)
      obtain ⟨_, hl0, hcell0⟩ := World.cells?_some hcs0
      have h00 := hcell0 0 (by omega)
      rw [List.getElem?_eq_getElem (by omega)] at h00
      simpa [Addr.add] using World.cell?_spot h00
    subst hs
    have ey : ((List.range len).map y).getD k default = y k := by simp [hk]
    rw [ey]
    have cc : ∀ j, j < 2 → W.cell? ⟨b, off + k * 2 + j, none⟩ = [Value.int .i64 (y k).attr, .string (y k).val][j]? := by
      intro j hj
      have := hcell j hj
      rw [Addr.add_lit, Addr.add_lit] at this
      exact this
    exact ⟨b, off, rfl, World.block_lt_of_cell? W _ (cc 0 (by omega)), ⟨cc 0 (by omega), cc 1 (by omega)⟩, hnk⟩

set_option maxRecDepth 20000 in
theorem open_name {H : Type} {enc : TypeId × Value → H} {W : World} {fuel : Nat} {cs : List Value} {x : DataW H × List MemPlace} (h : DataW.trod enc Tryd.prog W 0 (fun _ => true) true fuel 24 cs = some x) : ∃ a n c xs, cs = [.slice a n c] ∧ Pts W a n xs := by
  obtain ⟨xs, m, rfl, _, hl, hxl, hf⟩ := DataW.trod_struct Tryd.underlying24 h
  have hl2 : cs.length = 1 := hl.trans (by kernel_rfl)
  have hx2 : xs.length = 1 := hxl
  obtain ⟨c0, rfl⟩ : ∃ c0, cs = [c0] := by
    match cs, hl2 with
    | [c0], _ => exact ⟨c0, rfl⟩
  obtain ⟨x0, rfl⟩ : ∃ c0, xs = [c0] := by
    match xs, hx2 with
    | [c0], _ => exact ⟨c0, rfl⟩
  have e1 : Tryd.prog.cellsOf 22 = 1 := by kernel_rfl
  have f0 : DataW.trod enc Tryd.prog W 0 (fun _ => true) true m 22 ((([c0] : List Value).drop 0).take (Tryd.prog.cellsOf 22)) = some x0 := hf 0 _ rfl
  rw [e1] at f0
  exact open_parts f0

end Go.Proofs.YtbfjkmlmnhphoaaDoor

namespace Go.Proofs.YtbfjkmlmnhphoaaDoor
open Go.ChangeShapes Go.WideShapes Go.ChangeAt Go.RowKit

/-- An entry that came in: its name's slice and what it holds. -/
def OpensG (W : World) (y : Option Addr × Nat × Nat × GP) (cs : List Value) : Prop := cs = [.slice y.1 y.2.1 y.2.2.1, .int .i64 y.2.2.2.ser, .int .i64 y.2.2.2.tm, .int .i64 y.2.2.2.rs] ∧ Pts W y.1 y.2.1 y.2.2.2.parts

set_option maxRecDepth 20000 in
theorem open_gone {H : Type} {enc : TypeId × Value → H} {W : World} {fuel : Nat} {cs : List Value} {x : DataW H × List MemPlace} (h : DataW.trod enc Tryd.prog W 0 (fun _ => true) true fuel 91 cs = some x) : ∃ y, OpensG W y cs := by
  obtain ⟨xs, m, rfl, _, hl, hxl, hf⟩ := DataW.trod_struct Tryd.underlying91 h
  have hl2 : cs.length = 4 := hl.trans (by kernel_rfl)
  have hx2 : xs.length = 4 := hxl
  obtain ⟨c0, c1, c2, c3, rfl⟩ : ∃ c0 c1 c2 c3, cs = [c0, c1, c2, c3] := by
    match cs, hl2 with
    | [c0, c1, c2, c3], _ => exact ⟨c0, c1, c2, c3, rfl⟩
  obtain ⟨x0, x1, x2, x3, rfl⟩ : ∃ c0 c1 c2 c3, xs = [c0, c1, c2, c3] := by
    match xs, hx2 with
    | [c0, c1, c2, c3], _ => exact ⟨c0, c1, c2, c3, rfl⟩
  have e0 : Tryd.prog.cellsOf 24 = 1 := by kernel_rfl
  have f0 : DataW.trod enc Tryd.prog W 0 (fun _ => true) true m 24 ((([c0, c1, c2, c3] : List Value).drop 0).take (Tryd.prog.cellsOf 24)) = some x0 := hf 0 _ rfl
  rw [e0] at f0
  have e1 : Tryd.prog.cellsOf 2 = 1 := by kernel_rfl
  have f1 : DataW.trod enc Tryd.prog W 0 (fun _ => true) true m 2 ((([c0, c1, c2, c3] : List Value).drop 1).take (Tryd.prog.cellsOf 2)) = some x1 := hf 1 _ rfl
  rw [e1] at f1
  have e2 : Tryd.prog.cellsOf 2 = 1 := by kernel_rfl
  have f2 : DataW.trod enc Tryd.prog W 0 (fun _ => true) true m 2 ((([c0, c1, c2, c3] : List Value).drop 2).take (Tryd.prog.cellsOf 2)) = some x2 := hf 2 _ rfl
  rw [e2] at f2
  have e3 : Tryd.prog.cellsOf 2 = 1 := by kernel_rfl
  have f3 : DataW.trod enc Tryd.prog W 0 (fun _ => true) true m 2 ((([c0, c1, c2, c3] : List Value).drop 3).take (Tryd.prog.cellsOf 2)) = some x3 := hf 3 _ rfl
  rw [e3] at f3
  obtain ⟨a, n, c, ys, h0, hp⟩ := open_name f0
  obtain ⟨n1, h1, _, _⟩ := DataW.trod_int Tryd.underlying2 f1
  obtain ⟨n2, h2, _, _⟩ := DataW.trod_int Tryd.underlying2 f2
  obtain ⟨n3, h3, _, _⟩ := DataW.trod_int Tryd.underlying2 f3
  simp at h0 h1 h2 h3
  subst h0 h1 h2 h3
  exact ⟨(a, n, c, ⟨ys, n1, n2, n3⟩), rfl, hp⟩

set_option maxRecDepth 20000 in
theorem open_gones {H : Type} {enc : TypeId × Value → H} {W : World} {fuel : Nat} {cs : List Value} {x : DataW H × List MemPlace} (h : DataW.trod enc Tryd.prog W 0 (fun _ => true) true fuel 25 cs = some x) : ∃ a n c xs, cs = [.slice a n c] ∧ Gns W a n xs := by
  rcases DataW.trod_slice Tryd.underlying25 h with ⟨rfl, _⟩ | ⟨a, len, cap, elems, rest, n, rfl, rfl, _, _, hl, hm, hlen, hel, _, _⟩
  · exact ⟨none, 0, 0, [], rfl, ⟨rfl, by decide, fun k hk => absurd hk (by omega)⟩⟩
  · have ec : Tryd.prog.cellsOf 91 = 4 := by kernel_rfl
    rw [ec] at hel
    have each : ∀ i, i < len → ∃ y : Option Addr × Nat × Nat × GP, ∃ cs', W.cells? 0 (a.add (i * 4)) 4 = some cs' ∧ OpensG W y cs' := by
      intro i hi
      have he := hel i hi
      rw [List.getElem?_eq_getElem (by omega)] at he
      cases hc : W.cells? 0 (a.add (i * 4)) 4 with
      | none => rw [hc] at he; cases he
      | some cs' =>
        rw [hc] at he
        obtain ⟨y, hy⟩ := open_gone he
        exact ⟨y, cs', rfl, hy⟩
    obtain ⟨y, hy⟩ := Go.Deep.choose_lt each
    have hm' : len ≤ 9223372036854775807 := by unfold maxLen at hm; omega
    refine ⟨some a, len, cap, (List.range len).map (fun i => (y i).2.2.2), rfl, ⟨by simp, hm', fun k hk => ?_⟩⟩
    obtain ⟨cs', hcs, rfl, hnk⟩ := hy k hk
    obtain ⟨_, _, hcell⟩ := World.cells?_some hcs
    obtain ⟨b, off, spot⟩ := a
    have hs : spot = none := by
      obtain ⟨cs0, hcs0, _⟩ := hy 0 (by omega)
      obtain ⟨_, hl0, hcell0⟩ := World.cells?_some hcs0
      have h00 := hcell0 0 (by omega)
      rw [List.getElem?_eq_getElem (by omega)] at h00
      simpa [Addr.add] using World.cell?_spot h00
    subst hs
    have ey : ((List.range len).map (fun i => (y i).2.2.2)).getD k default = (y k).2.2.2 := by simp [hk]
    rw [ey]
    have cc : ∀ j, j < 4 → W.cell? ⟨b, off + k * 4 + j, none⟩ = [Value.slice (y k).1 (y k).2.1 (y k).2.2.1, .int .i64 (y k).2.2.2.ser, .int .i64 (y k).2.2.2.tm, .int .i64 (y k).2.2.2.rs][j]? := by
      intro j hj
      have := hcell j hj
      rw [Addr.add_lit, Addr.add_lit] at this
      exact this
    exact ⟨b, off, _, _, _, rfl, World.block_lt_of_cell? W _ (cc 0 (by omega)), ⟨cc 0 (by omega), cc 1 (by omega), cc 2 (by omega), cc 3 (by omega)⟩, hnk⟩

set_option maxRecDepth 20000 in
theorem open_sig {H : Type} {enc : TypeId × Value → H} {W : World} {fuel : Nat} {cs : List Value} {x : DataW H × List MemPlace} (h : DataW.trod enc Tryd.prog W 0 (fun _ => true) true fuel 26 cs = some x) : ∃ a n c bs, cs = [.slice a n c] ∧ Row W a n bs ∧ n ≤ 9223372036854775807 := by
  rcases open_ints Tryd.underlying26 Tryd.underlying5 (by kernel_rfl) h with ⟨rfl, _⟩ | ⟨a, len, cap, zs, rfl, _, hl, hm, hz, _, hc, hw⟩
  · exact ⟨none, 0, 0, [], rfl, ⟨rfl, fun k hk => absurd hk (Nat.not_lt_zero _), by simp⟩, by decide⟩
  · have hr : IsRow .u8 W (some a) len cap zs := .inr ⟨a, rfl, hl, hm, by simpa using hz, hc, hw⟩
    exact ⟨some a, len, cap, zs.take len, rfl, hr.row.1, by unfold maxLen at hm; omega⟩

set_option maxRecDepth 20000 in
theorem open_crl {H : Type} {enc : TypeId × Value → H} {W : World} {fuel : Nat} {cs : List Value} {x : DataW H × List MemPlace} (h : DataW.trod enc Tryd.prog W 0 (fun _ => true) true fuel 28 cs = some x) : ∃ a1 n1 c1 a2 n2 c2 a3 n3 c3, ∃ x : CP, cs = [.slice a1 n1 c1, .int .i64 x.num, .int .i64 x.base, .int .i64 x.tm, .int .i64 x.next, .int .i64 x.scope, .bool x.ind, .slice a2 n2 c2, .slice a3 n3 c3] ∧ Crs W a1 n1 a2 n2 a3 n3 x := by
  obtain ⟨xs, m, rfl, _, hl, hxl, hf⟩ := DataW.trod_struct Tryd.underlying28 h
  have hl2 : cs.length = 9 := hl.trans (by kernel_rfl)
  have hx2 : xs.length = 9 := hxl
  obtain ⟨c0, c1, c2, c3, c4, c5, c6, c7, c8, rfl⟩ : ∃ c0 c1 c2 c3 c4 c5 c6 c7 c8, cs = [c0, c1, c2, c3, c4, c5, c6, c7, c8] := by
    match cs, hl2 with
    | [c0, c1, c2, c3, c4, c5, c6, c7, c8], _ => exact ⟨c0, c1, c2, c3, c4, c5, c6, c7, c8, rfl⟩
  obtain ⟨x0, x1, x2, x3, x4, x5, x6, x7, x8, rfl⟩ : ∃ c0 c1 c2 c3 c4 c5 c6 c7 c8, xs = [c0, c1, c2, c3, c4, c5, c6, c7, c8] := by
    match xs, hx2 with
    | [c0, c1, c2, c3, c4, c5, c6, c7, c8], _ => exact ⟨c0, c1, c2, c3, c4, c5, c6, c7, c8, rfl⟩
  have e0 : Tryd.prog.cellsOf 24 = 1 := by kernel_rfl
  have f0 : DataW.trod enc Tryd.prog W 0 (fun _ => true) true m 24 ((([c0, c1, c2, c3, c4, c5, c6, c7, c8] : List Value).drop 0).take (Tryd.prog.cellsOf 24)) = some x0 := hf 0 _ rfl
  rw [e0] at f0
  have e1 : Tryd.prog.cellsOf 2 = 1 := by kernel_rfl
  have f1 : DataW.trod enc Tryd.prog W 0 (fun _ => true) true m 2 ((([c0, c1, c2, c3, c4, c5, c6, c7, c8] : List Value).drop 1).take (Tryd.prog.cellsOf 2)) = some x1 := hf 1 _ rfl
  rw [e1] at f1
  have e2 : Tryd.prog.cellsOf 2 = 1 := by kernel_rfl
  have f2 : DataW.trod enc Tryd.prog W 0 (fun _ => true) true m 2 ((([c0, c1, c2, c3, c4, c5, c6, c7, c8] : List Value).drop 2).take (Tryd.prog.cellsOf 2)) = some x2 := hf 2 _ rfl
  rw [e2] at f2
  have e3 : Tryd.prog.cellsOf 2 = 1 := by kernel_rfl
  have f3 : DataW.trod enc Tryd.prog W 0 (fun _ => true) true m 2 ((([c0, c1, c2, c3, c4, c5, c6, c7, c8] : List Value).drop 3).take (Tryd.prog.cellsOf 2)) = some x3 := hf 3 _ rfl
  rw [e3] at f3
  have e4 : Tryd.prog.cellsOf 2 = 1 := by kernel_rfl
  have f4 : DataW.trod enc Tryd.prog W 0 (fun _ => true) true m 2 ((([c0, c1, c2, c3, c4, c5, c6, c7, c8] : List Value).drop 4).take (Tryd.prog.cellsOf 2)) = some x4 := hf 4 _ rfl
  rw [e4] at f4
  have e5 : Tryd.prog.cellsOf 2 = 1 := by kernel_rfl
  have f5 : DataW.trod enc Tryd.prog W 0 (fun _ => true) true m 2 ((([c0, c1, c2, c3, c4, c5, c6, c7, c8] : List Value).drop 5).take (Tryd.prog.cellsOf 2)) = some x5 := hf 5 _ rfl
  rw [e5] at f5
  have e6 : Tryd.prog.cellsOf 4 = 1 := by kernel_rfl
  have f6 : DataW.trod enc Tryd.prog W 0 (fun _ => true) true m 4 ((([c0, c1, c2, c3, c4, c5, c6, c7, c8] : List Value).drop 6).take (Tryd.prog.cellsOf 4)) = some x6 := hf 6 _ rfl
  rw [e6] at f6
  have e7 : Tryd.prog.cellsOf 25 = 1 := by kernel_rfl
  have f7 : DataW.trod enc Tryd.prog W 0 (fun _ => true) true m 25 ((([c0, c1, c2, c3, c4, c5, c6, c7, c8] : List Value).drop 7).take (Tryd.prog.cellsOf 25)) = some x7 := hf 7 _ rfl
  rw [e7] at f7
  have e8 : Tryd.prog.cellsOf 26 = 1 := by kernel_rfl
  have f8 : DataW.trod enc Tryd.prog W 0 (fun _ => true) true m 26 ((([c0, c1, c2, c3, c4, c5, c6, c7, c8] : List Value).drop 8).take (Tryd.prog.cellsOf 26)) = some x8 := hf 8 _ rfl
  rw [e8] at f8
  obtain ⟨a1, n1, d1, ys, h0, hp⟩ := open_name f0
  obtain ⟨v1, h1, _, _⟩ := DataW.trod_int Tryd.underlying2 f1
  obtain ⟨v2, h2, _, _⟩ := DataW.trod_int Tryd.underlying2 f2
  obtain ⟨v3, h3, _, _⟩ := DataW.trod_int Tryd.underlying2 f3
  obtain ⟨v4, h4, _, _⟩ := DataW.trod_int Tryd.underlying2 f4
  obtain ⟨v5, h5, _, _⟩ := DataW.trod_int Tryd.underlying2 f5
  obtain ⟨v6, h6, _⟩ := DataW.trod_bool Tryd.underlying4 f6
  obtain ⟨a2, n2, d2, es, h7, hg⟩ := open_gones f7
  obtain ⟨a3, n3, d3, bs, h8, hs, hm⟩ := open_sig f8
  simp at h0 h1 h2 h3 h4 h5 h6 h7 h8
  subst h0 h1 h2 h3 h4 h5 h6 h7 h8
  exact ⟨a1, n1, d1, a2, n2, d2, a3, n3, d3, ⟨ys, v1, v2, v3, v4, v5, v6, es, bs⟩, rfl, hp, hg, hs, hm⟩

end Go.Proofs.YtbfjkmlmnhphoaaDoor
