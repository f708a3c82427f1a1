import Derived.Test.YtbfjkmlmnhphoaaDoorN1
import Derived.Deep.Slices
import Derived.ChangeArms
import Derived.ChangeSlices
import Derived.WalkKit
import Derived.ProofKit
namespace Go.Proofs.YtbfjkmlmnhphoaaDoor
open Go.ChangeShapes Go.WideShapes Go.ChangeAt Go.RowKit

def OpensP (y : PT) (cs : List Value) : Prop := cs = [.int .i64 y.attr, .string y.val] ∧ y.val.size ≤ 9223372036854775807

set_option maxRecDepth 20000 in
theorem open_part {H : Type} {enc : TypeId × Value → H} {W : World} {fuel : Nat} {cs : List Value} {x : DataW H × List MemPlace} (h : DataW.trod enc Tryd.prog W 0 (fun _ => true) true fuel 106 cs = some x) : ∃ y, OpensP y cs := by
  obtain ⟨xs, m, rfl, _, hl, hxl, hf⟩ := DataW.trod_struct Tryd.underlying106 h
  have hl2 : cs.length = 2 := hl.trans (by kernel_rfl)
  have hx2 : xs.length = 2 := hxl
  obtain ⟨c0, c1, rfl⟩ : ∃ c0 c1, cs = [c0, c1] := by
    match cs, hl2 with
    | [c0, c1], _ => exact ⟨c0, c1, rfl⟩
  obtain ⟨x0, x1, rfl⟩ : ∃ c0 c1, xs = [c0, c1] := by
    match xs, hx2 with
    | [c0, c1], _ => exact ⟨c0, c1, rfl⟩
  have e1 : Tryd.prog.cellsOf 2 = 1 := by kernel_rfl
  have e2 : Tryd.prog.cellsOf 9 = 1 := by kernel_rfl
  have f0 : DataW.trod enc Tryd.prog W 0 (fun _ => true) true m 2 ((([c0, c1] : List Value).drop 0).take (Tryd.prog.cellsOf 2)) = some x0 := hf 0 _ rfl
  rw [e1] at f0
  have f1 : DataW.trod enc Tryd.prog W 0 (fun _ => true) true m 9 ((([c0, c1] : List Value).drop 1).take (Tryd.prog.cellsOf 9)) = some x1 := hf 1 _ rfl
  rw [e2] at f1
  obtain ⟨n0, h0, _, _⟩ := DataW.trod_int Tryd.underlying2 f0
  obtain ⟨s1, h1, _, hs⟩ := DataW.trod_string Tryd.underlying9 f1
  simp at h0 h1
  subst h0 h1
  exact ⟨⟨n0, s1⟩, rfl, by unfold maxLen at hs; show s1.size ≤ _; omega⟩

set_option maxRecDepth 20000 in
theorem open_parts {H : Type} {enc : TypeId × Value → H} {W : World} {fuel : Nat} {cs : List Value} {x : DataW H × List MemPlace} (h : DataW.trod enc Tryd.prog W 0 (fun _ => true) true fuel 22 cs = some x) : ∃ a n c xs, cs = [.slice a n c] ∧ Pts W a n xs := by
  rcases DataW.trod_slice Tryd.underlying22 h with ⟨rfl, _⟩ | ⟨a, len, cap, elems, rest, n, rfl, rfl, _, _, hl, hm, hlen, hel, _, _⟩
  · exact ⟨none, 0, 0, [], rfl, ⟨rfl, by decide, fun k hk => absurd hk (by omega)⟩⟩
  · have ec : Tryd.prog.cellsOf 106 = 2 := by kernel_rfl
    rw [ec] at hel
    have each : ∀ i, i < len → ∃ y : PT, ∃ cs', W.cells? 0 (a.add (i * 2)) 2 = some cs' ∧ OpensP y cs' := by
      intro i hi
      have he := hel i hi
      rw [List.getElem?_eq_getElem (by omega)] at he
      cases hc : W.cells? 0 (a.add (i * 2)) 2 with
      | none => rw [hc] at he; cases he
      | some cs' =>
        rw [hc] at he
        obtain ⟨y, hy⟩ := open_part he
        exact ⟨y, cs', rfl, hy⟩
    obtain ⟨y, hy⟩ := Go.Deep.choose_lt each
    have hm' : len ≤ 9223372036854775807 := by unfold maxLen at hm; omega
    refine ⟨some a, len, cap, (List.range len).map y, rfl, ⟨by simp, hm', fun k hk => ?_⟩⟩
    obtain ⟨cs', hcs, rfl, hnk⟩ := hy k hk
    obtain ⟨_, _, hcell⟩ := World.cells?_some hcs
    obtain ⟨b, off, spot⟩ := a
    have hs : spot = none := by
      obtain ⟨cs0, hcs0, _⟩ := hy 0 (by omega)
      obtain ⟨_, hl0, hcell0⟩ := World.cells?_some hcs0
      have h00 := hcell0 0 (by omega)
      rw [List.getElem?_eq_getElem (by omega)] at h00
      simpa [Addr.add] using World.cell?_spot h00
    subst hs
    have ey : ((List.range len).map y).getD k default = y k := by simp [hk]
    rw [ey]
    have cc : ∀ j, j < 2 → W.cell? ⟨b, off + k * 2 + j, none⟩ = [Value.int .i64 (y k).attr, .string (y k).val][j]? := by
      intro j hj
      have := hcell j hj
      rw [Addr.add_lit, Addr.add_lit] at this
      exact this
    exact ⟨b, off, rfl, World.block_lt_of_cell? W _ (cc 0 (by omega)), ⟨cc 0 (by omega), cc 1 (by omega)⟩, hnk⟩

set_option maxRecDepth 20000 in
theorem open_name {H : Type} {enc : TypeId × Value → H} {W : World} {fuel : Nat} {cs : List Value} {x : DataW H × List MemPlace} (h : DataW.trod enc Tryd.prog W 0 (fun _ => true) true fuel 24 cs = some x) : ∃ a n c xs, cs = [.slice a n c] ∧ Pts W a n xs := by
  obtain ⟨xs, m, rfl, _, hl, hxl, hf⟩ := DataW.trod_struct Tryd.underlying24 h
  have hl2 : cs.length = 1 := hl.trans (by kernel_rfl)
  have hx2 : xs.length = 1 := hxl
  obtain ⟨c0, rfl⟩ : ∃ c0, cs = [c0] := by
    match cs, hl2 with
    | [c0], _ => exact ⟨c0, rfl⟩
  obtain ⟨x0, rfl⟩ : ∃ c0, xs = [c0] := by
    match xs, hx2 with
    | [c0], _ => exact ⟨c0, rfl⟩
  have e1 : Tryd.prog.cellsOf 22 = 1 := by kernel_rfl
  have f0 : DataW.trod enc Tryd.prog W 0 (fun _ => true) true m 22 ((([c0] : List Value).drop 0).take (Tryd.prog.cellsOf 22)) = some x0 := hf 0 _ rfl
  rw [e1] at f0
  exact open_parts f0

end Go.Proofs.YtbfjkmlmnhphoaaDoor
