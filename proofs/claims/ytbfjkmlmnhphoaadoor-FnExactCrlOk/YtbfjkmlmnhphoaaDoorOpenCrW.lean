import Derived.Test.YtbfjkmlmnhphoaaDoorOpenCr
set_option linter.unusedVariables false
namespace Go.Proofs.YtbfjkmlmnhphoaaDoor
open Go.ChangeShapes Go.WideShapes Go.ChangeAt Go.RowKit

set_option maxRecDepth 20000 in
theorem open_crlW {H : Type} {enc : TypeId × Value → H} {W : World} {fuel : Nat} {cs : List Value} {x : DataW H × List MemPlace} (h : DataW.trod enc Tryd.prog W 0 (fun _ => true) true fuel 28 cs = some x) : ∃ a1 n1 c1 a2 n2 c2 a3 n3 c3, ∃ x : CP, cs = [.slice a1 n1 c1, .int .i64 x.num, .int .i64 x.base, .int .i64 x.tm, .int .i64 x.next, .int .i64 x.scope, .bool x.ind, .slice a2 n2 c2, .slice a3 n3 c3] ∧ Crs W a1 n1 a2 n2 a3 n3 x ∧ (-9223372036854775808 ≤ x.scope ∧ x.scope ≤ 9223372036854775807) := by
  obtain ⟨xs, m, rfl, _, hl, hxl, hf⟩ := DataW.trod_struct Tryd.underlying28 h
  have hl2 : cs.length = 9 := hl.trans (by kernel_rfl)
  have hx2 : xs.length = 9 := hxl
  obtain ⟨c0, c1, c2, c3, c4, c5, c6, c7, c8, rfl⟩ : ∃ c0 c1 c2 c3 c4 c5 c6 c7 c8, cs = [c0, c1, c2, c3, c4, c5, c6, c7, c8] := by
    match cs, hl2 with
    | [c0, c1, c2, c3, c4, c5, c6, c7, c8], _ => exact ⟨c0, c1, c2, c3, c4, c5, c6, c7, c8, rfl⟩
  obtain ⟨x0, x1, x2, x3, x4, x5, x6, x7, x8, rfl⟩ : ∃ c0 c1 c2 c3 c4 c5 c6 c7 c8, xs = [c0, c1, c2, c3, c4, c5, c6, c7, c8] := by
    match xs, hx2 with
    | [c0, c1, c2, c3, c4, c5, c6, c7, c8], _ => exact ⟨c0, c1, c2, c3, c4, c5, c6, c7, c8, rfl⟩
  have e0 : Tryd.prog.cellsOf 24 = 1 := by kernel_rfl
  have f0 : DataW.trod enc Tryd.prog W 0 (fun _ => true) true m 24 ((([c0, c1, c2, c3, c4, c5, c6, c7, c8] : List Value).drop 0).take (Tryd.prog.cellsOf 24)) = some x0 := hf 0 _ rfl
  rw [e0] at f0
  have e1 : Tryd.prog.cellsOf 2 = 1 := by kernel_rfl
  have f1 : DataW.trod enc Tryd.prog W 0 (fun _ => true) true m 2 ((([c0, c1, c2, c3, c4, c5, c6, c7, c8] : List Value).drop 1).take (Tryd.prog.cellsOf 2)) = some x1 := hf 1 _ rfl
  rw [e1] at f1
  have e2 : Tryd.prog.cellsOf 2 = 1 := by kernel_rfl
  have f2 : DataW.trod enc Tryd.prog W 0 (fun _ => true) true m 2 ((([c0, c1, c2, c3, c4, c5, c6, c7, c8] : List Value).drop 2).take (Tryd.prog.cellsOf 2)) = some x2 := hf 2 _ rfl
  rw [e2] at f2
  have e3 : Tryd.prog.cellsOf 2 = 1 := by kernel_rfl
  have f3 : DataW.trod enc Tryd.prog W 0 (fun _ => true) true m 2 ((([c0, c1, c2, c3, c4, c5, c6, c7, c8] : List Value).drop 3).take (Tryd.prog.cellsOf 2)) = some x3 := hf 3 _ rfl
  rw [e3] at f3
  have e4 : Tryd.prog.cellsOf 2 = 1 := by kernel_rfl
  have f4 : DataW.trod enc Tryd.prog W 0 (fun _ => true) true m 2 ((([c0, c1, c2, c3, c4, c5, c6, c7, c8] : List Value).drop 4).take (Tryd.prog.cellsOf 2)) = some x4 := hf 4 _ rfl
  rw [e4] at f4
  have e5 : Tryd.prog.cellsOf 2 = 1 := by kernel_rfl
  have f5 : DataW.trod enc Tryd.prog W 0 (fun _ => true) true m 2 ((([c0, c1, c2, c3, c4, c5, c6, c7, c8] : List Value).drop 5).take (Tryd.prog.cellsOf 2)) = some x5 := hf 5 _ rfl
  rw [e5] at f5
  have e6 : Tryd.prog.cellsOf 4 = 1 := by kernel_rfl
  have f6 : DataW.trod enc Tryd.prog W 0 (fun _ => true) true m 4 ((([c0, c1, c2, c3, c4, c5, c6, c7, c8] : List Value).drop 6).take (Tryd.prog.cellsOf 4)) = some x6 := hf 6 _ rfl
  rw [e6] at f6
  have e7 : Tryd.prog.cellsOf 25 = 1 := by kernel_rfl
  have f7 : DataW.trod enc Tryd.prog W 0 (fun _ => true) true m 25 ((([c0, c1, c2, c3, c4, c5, c6, c7, c8] : List Value).drop 7).take (Tryd.prog.cellsOf 25)) = some x7 := hf 7 _ rfl
  rw [e7] at f7
  have e8 : Tryd.prog.cellsOf 26 = 1 := by kernel_rfl
  have f8 : DataW.trod enc Tryd.prog W 0 (fun _ => true) true m 26 ((([c0, c1, c2, c3, c4, c5, c6, c7, c8] : List Value).drop 8).take (Tryd.prog.cellsOf 26)) = some x8 := hf 8 _ rfl
  rw [e8] at f8
  obtain ⟨a1, n1, d1, ys, h0, hp⟩ := open_name f0
  obtain ⟨v1, h1, _, _⟩ := DataW.trod_int Tryd.underlying2 f1
  obtain ⟨v2, h2, _, _⟩ := DataW.trod_int Tryd.underlying2 f2
  obtain ⟨v3, h3, _, _⟩ := DataW.trod_int Tryd.underlying2 f3
  obtain ⟨v4, h4, _, _⟩ := DataW.trod_int Tryd.underlying2 f4
  obtain ⟨v5, h5, _, w5⟩ := DataW.trod_int Tryd.underlying2 f5
  obtain ⟨v6, h6, _⟩ := DataW.trod_bool Tryd.underlying4 f6
  obtain ⟨a2, n2, d2, es, h7, hg⟩ := open_gones f7
  obtain ⟨a3, n3, d3, bs, h8, hs, hm⟩ := open_sig f8
  simp at h0 h1 h2 h3 h4 h5 h6 h7 h8
  subst h0 h1 h2 h3 h4 h5 h6 h7 h8
  exact ⟨a1, n1, d1, a2, n2, d2, a3, n3, d3, ⟨ys, v1, v2, v3, v4, v5, v6, es, bs⟩, rfl, ⟨hp, hg, hs, hm⟩, bounds_i64 w5⟩

end Go.Proofs.YtbfjkmlmnhphoaaDoor
