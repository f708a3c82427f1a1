import Derived.Test.YtkpabanjlhlmfaaGreatDoorN1
import Derived.Deep.Slices
import Derived.ChangeArms
import Derived.ChangeSlices
import Derived.WalkKit
import Derived.ProofKit
import Derived.Test.YtkpabanjlhlmfaaGreatDoorGN3
import Derived.Test.YtkpabanjlhlmfaaGreatDoorMCa
import Derived.OpenShut
import Derived.Test.YtkpabanjlhlmfaaGreatDoorMCc
import Derived.Test.YtkpabanjlhlmfaaGreatDoorMHb
import Derived.Handed
import Derived.HandedShaped
import Derived.Test.YtkpabanjlhlmfaaGreatDoorCards
import Derived.Test.YtkpabanjlhlmfaaGreatDoorTie
import Derived.LaidMore
import Derived.ShutString
import Derived.ChangeOld
import Derived.ChangeVars
import Derived.WalkSmall
import Derived.Below
import Derived.Stop.Joined
import Derived.Lay
import Derived.SevenTiedAt
namespace Go.Proofs.YtkpabanjlhlmfaaGreatDoor
open Go.ChangeShapes Go.WideShapes Go.ChangeAt Go.RowKit

def OpensP (y : PT) (cs : List Value) : Prop := cs = [.int .i64 y.attr, .string y.val] ∧ y.val.size ≤ 9223372036854775807

set_option maxRecDepth 20000 in
theorem open_part {H : Type} {enc : TypeId × Value → H} {W : World} {fuel : Nat} {cs : List Value} {x : DataW H × List MemPlace} (h : DataW.trod enc Tryz.prog W 0 (fun _ => true) true fuel 147 cs = some x) : ∃ y, OpensP y cs := by
  obtain ⟨xs, m, rfl, _, hl, hxl, hf⟩ := DataW.trod_struct Tryz.underlying147 h
  have hl2 : cs.length = 2 := hl.trans (by kernel_rfl)
  have hx2 : xs.length = 2 := hxl
  obtain ⟨c0, c1, rfl⟩ : ∃ c0 c1, cs = [c0, c1] := by
    match cs, hl2 with
    | [c0, c1], _ => exact ⟨c0, c1, rfl⟩
  obtain ⟨x0, x1, rfl⟩ : ∃ c0 c1, xs = [c0, c1] := by
    match xs, hx2 with
    | [c0, c1], _ => exact ⟨c0, c1, rfl⟩
  have e1 : Tryz.prog.cellsOf 2 = 1 := by kernel_rfl
  have e2 : Tryz.prog.cellsOf 9 = 1 := by kernel_rfl
  have f0 : DataW.trod enc Tryz.prog W 0 (fun _ => true) true m 2 ((([c0, c1] : List Value).drop 0).take (Tryz.prog.cellsOf 2)) = some x0 := hf 0 _ rfl
  rw [e1] at f0
  have f1 : DataW.trod enc Tryz.prog W 0 (fun _ => true) true m 9 ((([c0, c1] : List Value).drop 1).take (Tryz.prog.cellsOf 9)) = some x1 := hf 1 _ rfl
  rw [e2] at f1
  obtain ⟨n0, h0, _, _⟩ := DataW.trod_int Tryz.underlying2 f0
  obtain ⟨s1, h1, _, hs⟩ := DataW.trod_string Tryz.underlying9 f1
  simp at h0 h1
  subst h0 h1
  exact ⟨⟨n0, s1⟩, rfl, by unfold maxLen at hs; show s1.size ≤ _; omega⟩

set_option maxRecDepth 20000 in
theorem open_parts {H : Type} {enc : TypeId × Value → H} {W : World} {fuel : Nat} {cs : List Value} {x : DataW H × List MemPlace} (h : DataW.trod enc Tryz.prog W 0 (fun _ => true) true fuel 22 cs = some x) : ∃ a n c xs, cs = [.slice a n c] ∧ Pts W a n xs := by
  rcases DataW.trod_slice Tryz.underlying22 h with ⟨rfl, _⟩ | ⟨a, len, cap, elems, rest, n, rfl, rfl, _, _, hl, hm, hlen, hel, _, _⟩
  · exact ⟨none, 0, 0, [], rfl, ⟨rfl, by decide, fun k hk => absurd hk (by omega)⟩⟩
  · have ec : Tryz.prog.cellsOf 147 = 2 := by kernel_rfl
    rw [ec] at hel
    have each : ∀ i, i < len → ∃ y : PT, ∃ cs', W.cells? 0 (a.add (i * 2)) 2 = some cs' ∧ OpensP y cs' := by
      intro i hi
      have he := hel i hi
      rw [List.getElem?_eq_getElem (by omega)] at he
      cases hc : W.cells? 0 (a.add (i * 2)) 2 with
      | none => rw [hc] at he; cases he
      | some cs' =>
        rw [hc] at he
        obtain ⟨y, hy⟩ := open_part he
        exact ⟨y, cs', rfl, hy⟩
    obtain ⟨y, hy⟩ := Go.Deep.choose_lt each
    have hm' : len ≤ 9223372036854775807 := by unfold maxLen at hm; omega
    refine ⟨some a, len, cap, (List.range len).map y, rfl, ⟨by simp, hm', fun k hk => ?_⟩⟩
    obtain ⟨cs', hcs, rfl, hnk⟩ := hy k hk
    obtain ⟨_, _, hcell⟩ := World.cells?_some hcs
    obtain ⟨b, off, spot⟩ := a
    have hs : spot = none := by
      obtain ⟨cs0, hcs0, _⟩ := hy 0 (by omega)
      obtain ⟨_, hl0, hcell0⟩ := World.cells?_some hcs0
      have h00 := hcell0 0 (by omega)
      rw [List.getElem?_eq_getElem (by omega)] at h00
      simpa [Addr.add] using World.cell?_spot h00
    subst hs
    have ey : ((List.range len).map y).getD k default = y k := by simp [hk]
    rw [ey]
    have cc : ∀ j, j < 2 → W.cell? ⟨b, off + k * 2 + j, none⟩ = [Value.int .i64 (y k).attr, .string (y k).val][j]? := by
      intro j hj
      have := hcell j hj
      rw [Addr.add_lit, Addr.add_lit] at this
      exact this
    exact ⟨b, off, rfl, World.block_lt_of_cell? W _ (cc 0 (by omega)), ⟨cc 0 (by omega), cc 1 (by omega)⟩, hnk⟩

set_option maxRecDepth 20000 in
theorem open_name {H : Type} {enc : TypeId × Value → H} {W : World} {fuel : Nat} {cs : List Value} {x : DataW H × List MemPlace} (h : DataW.trod enc Tryz.prog W 0 (fun _ => true) true fuel 24 cs = some x) : ∃ a n c xs, cs = [.slice a n c] ∧ Pts W a n xs := by
  obtain ⟨xs, m, rfl, _, hl, hxl, hf⟩ := DataW.trod_struct Tryz.underlying24 h
  have hl2 : cs.length = 1 := hl.trans (by kernel_rfl)
  have hx2 : xs.length = 1 := hxl
  obtain ⟨c0, rfl⟩ : ∃ c0, cs = [c0] := by
    match cs, hl2 with
    | [c0], _ => exact ⟨c0, rfl⟩
  obtain ⟨x0, rfl⟩ : ∃ c0, xs = [c0] := by
    match xs, hx2 with
    | [c0], _ => exact ⟨c0, rfl⟩
  have e1 : Tryz.prog.cellsOf 22 = 1 := by kernel_rfl
  have f0 : DataW.trod enc Tryz.prog W 0 (fun _ => true) true m 22 ((([c0] : List Value).drop 0).take (Tryz.prog.cellsOf 22)) = some x0 := hf 0 _ rfl
  rw [e1] at f0
  exact open_parts f0

end Go.Proofs.YtkpabanjlhlmfaaGreatDoor

namespace Go.Proofs.YtkpabanjlhlmfaaGreatDoor
open Go.ChangeShapes Go.WideShapes Go.ChangeAt Go.RowKit

set_option maxRecDepth 20000 in
theorem open_gen {H : Type} {enc : TypeId × Value → H} {W : World} {fuel : Nat} {cs : List Value} {x : DataW H × List MemPlace} (h : DataW.trod enc Tryz.prog W 0 (fun _ => true) true fuel 93 cs = some x) :
    ∃ g : GT, ∃ a n c xs, cs = [.int .i64 g.kind, .string g.text, .int .i64 g.addr, .int .i64 g.bits, .slice a n c] ∧ Pts W a n xs ∧ g.text.size ≤ 9223372036854775807 := by
  obtain ⟨xs, m, rfl, _, hl, hxl, hf⟩ := DataW.trod_struct Tryz.underlying93 h
  have hl2 : cs.length = 5 := hl.trans (by kernel_rfl)
  have hx2 : xs.length = 5 := hxl
  obtain ⟨c0, c1, c2, c3, c4, rfl⟩ : ∃ c0 c1 c2 c3 c4, cs = [c0, c1, c2, c3, c4] := by
    match cs, hl2 with
    | [c0, c1, c2, c3, c4], _ => exact ⟨c0, c1, c2, c3, c4, rfl⟩
  obtain ⟨x0, x1, x2, x3, x4, rfl⟩ : ∃ c0 c1 c2 c3 c4, xs = [c0, c1, c2, c3, c4] := by
    match xs, hx2 with
    | [c0, c1, c2, c3, c4], _ => exact ⟨c0, c1, c2, c3, c4, rfl⟩
  have e1 : Tryz.prog.cellsOf 2 = 1 := by kernel_rfl
  have e2 : Tryz.prog.cellsOf 9 = 1 := by kernel_rfl
  have e3 : Tryz.prog.cellsOf 24 = 1 := by kernel_rfl
  have f0 : DataW.trod enc Tryz.prog W 0 (fun _ => true) true m 2 ((([c0, c1, c2, c3, c4] : List Value).drop 0).take (Tryz.prog.cellsOf 2)) = some x0 := hf 0 _ rfl
  have f1 : DataW.trod enc Tryz.prog W 0 (fun _ => true) true m 9 ((([c0, c1, c2, c3, c4] : List Value).drop 1).take (Tryz.prog.cellsOf 9)) = some x1 := hf 1 _ rfl
  have f2 : DataW.trod enc Tryz.prog W 0 (fun _ => true) true m 2 ((([c0, c1, c2, c3, c4] : List Value).drop 2).take (Tryz.prog.cellsOf 2)) = some x2 := hf 2 _ rfl
  have f3 : DataW.trod enc Tryz.prog W 0 (fun _ => true) true m 2 ((([c0, c1, c2, c3, c4] : List Value).drop 3).take (Tryz.prog.cellsOf 2)) = some x3 := hf 3 _ rfl
  have f4 : DataW.trod enc Tryz.prog W 0 (fun _ => true) true m 24 ((([c0, c1, c2, c3, c4] : List Value).drop 4).take (Tryz.prog.cellsOf 24)) = some x4 := hf 4 _ rfl
  rw [e1] at f0 f2 f3
  rw [e2] at f1
  rw [e3] at f4
  obtain ⟨n0, h0, _, _⟩ := DataW.trod_int Tryz.underlying2 f0
  obtain ⟨s1, h1, _, hs⟩ := DataW.trod_string Tryz.underlying9 f1
  obtain ⟨n2, h2, _, _⟩ := DataW.trod_int Tryz.underlying2 f2
  obtain ⟨n3, h3, _, _⟩ := DataW.trod_int Tryz.underlying2 f3
  obtain ⟨a, n, c, ys, h4, hp⟩ := open_name f4
  simp at h0 h1 h2 h3 h4
  subst h0 h1 h2 h3 h4
  exact ⟨⟨n0, s1, n2, n3⟩, a, n, c, ys, rfl, hp, by unfold maxLen at hs; show s1.size ≤ _; omega⟩

end Go.Proofs.YtkpabanjlhlmfaaGreatDoor

namespace Go.Proofs.YtkpabanjlhlmfaaGreatDoor
open Go.ChangeShapes Go.WideShapes Go.ChangeAt Go.RowKit

def OpensE (W : World) (y : Option Addr × Nat × Nat × GE) (cs : List Value) : Prop := cs = [.int .i64 y.2.2.2.g.kind, .string y.2.2.2.g.text, .int .i64 y.2.2.2.g.addr, .int .i64 y.2.2.2.g.bits, .slice y.1 y.2.1 y.2.2.1] ∧ Pts W y.1 y.2.1 y.2.2.2.parts ∧ y.2.2.2.g.text.size ≤ 9223372036854775807

set_option maxRecDepth 20000 in
theorem open_gens {H : Type} {enc : TypeId × Value → H} {W : World} {fuel : Nat} {cs : List Value} {x : DataW H × List MemPlace} (h : DataW.trod enc Tryz.prog W 0 (fun _ => true) true fuel 28 cs = some x) : ∃ a n c xs, cs = [.slice a n c] ∧ Ges W a n xs := by
  rcases DataW.trod_slice Tryz.underlying28 h with ⟨rfl, _⟩ | ⟨a, len, cap, elems, rest, n, rfl, rfl, _, _, hl, hm, hlen, hel, _, _⟩
  · exact ⟨none, 0, 0, [], rfl, ⟨rfl, by decide, fun k hk => absurd hk (by omega)⟩⟩
  · have ec : Tryz.prog.cellsOf 93 = 5 := by kernel_rfl
    rw [ec] at hel
    have each : ∀ i, i < len → ∃ y : Option Addr × Nat × Nat × GE, ∃ cs', W.cells? 0 (a.add (i * 5)) 5 = some cs' ∧ OpensE W y cs' := by
      intro i hi
      have he := hel i hi
      rw [List.getElem?_eq_getElem (by omega)] at he
      cases hc : W.cells? 0 (a.add (i * 5)) 5 with
      | none => rw [hc] at he; cases he
      | some cs' =>
        rw [hc] at he
        obtain ⟨g, a1, n1, c1, ps, hcs, hp, hs⟩ := open_gen he
        exact ⟨(a1, n1, c1, ⟨g, ps⟩), cs', rfl, hcs, hp, hs⟩
    obtain ⟨y, hy⟩ := Go.Deep.choose_lt each
    have hm' : len ≤ 9223372036854775807 := by unfold maxLen at hm; omega
    refine ⟨some a, len, cap, (List.range len).map (fun i => (y i).2.2.2), rfl, ⟨by simp, hm', fun k hk => ?_⟩⟩
    obtain ⟨cs', hcs, rfl, hnk, hsk⟩ := hy k hk
    obtain ⟨_, _, hcell⟩ := World.cells?_some hcs
    obtain ⟨b, off, spot⟩ := a
    have hs : spot = none := by
      obtain ⟨cs0, hcs0, _⟩ := hy 0 (by omega)
      obtain ⟨_, hl0, hcell0⟩ := World.cells?_some hcs0
      have h00 := hcell0 0 (by omega)
      rw [List.getElem?_eq_getElem (by omega)] at h00
      simpa [Addr.add] using World.cell?_spot h00
    subst hs
    have ey : ((List.range len).map (fun i => (y i).2.2.2)).getD k default = (y k).2.2.2 := by simp [hk]
    rw [ey]
    have cc : ∀ j, j < 5 → W.cell? ⟨b, off + k * 5 + j, none⟩ = [Value.int .i64 (y k).2.2.2.g.kind, .string (y k).2.2.2.g.text, .int .i64 (y k).2.2.2.g.addr, .int .i64 (y k).2.2.2.g.bits, .slice (y k).1 (y k).2.1 (y k).2.2.1][j]? := by
      intro j hj
      have := hcell j hj
      rw [Addr.add_lit, Addr.add_lit] at this
      exact this
    exact ⟨b, off, _, _, _, rfl, World.block_lt_of_cell? W _ (cc 0 (by omega)), ⟨cc 0 (by omega), cc 1 (by omega), cc 2 (by omega), cc 3 (by omega), cc 4 (by omega)⟩, hnk, hsk⟩

set_option maxRecDepth 20000 in
theorem open_pub {H : Type} {enc : TypeId × Value → H} {W : World} {fuel : Nat} {cs : List Value} {x : DataW H × List MemPlace} (h : DataW.trod enc Tryz.prog W 0 (fun _ => true) true fuel 27 cs = some x) : ∃ s y k : Int, cs = [.int .i64 s, .int .u64 y, .int .i64 k] ∧ U64 y := by
  obtain ⟨xs, m, rfl, _, hl, hxl, hf⟩ := DataW.trod_struct Tryz.underlying27 h
  have hl2 : cs.length = 3 := hl.trans (by kernel_rfl)
  have hx2 : xs.length = 3 := hxl
  obtain ⟨c0, c1, c2, rfl⟩ : ∃ c0 c1 c2, cs = [c0, c1, c2] := by
    match cs, hl2 with
    | [c0, c1, c2], _ => exact ⟨c0, c1, c2, rfl⟩
  obtain ⟨x0, x1, x2, rfl⟩ : ∃ y0 y1 y2, xs = [y0, y1, y2] := by
    match xs, hx2 with
    | [y0, y1, y2], _ => exact ⟨y0, y1, y2, rfl⟩
  have e0 : Tryz.prog.cellsOf 2 = 1 := by kernel_rfl
  have f0 : DataW.trod enc Tryz.prog W 0 (fun _ => true) true m 2 ((([c0, c1, c2] : List Value).drop 0).take (Tryz.prog.cellsOf 2)) = some x0 := hf 0 _ rfl
  rw [e0] at f0
  have e1 : Tryz.prog.cellsOf 25 = 1 := by kernel_rfl
  have f1 : DataW.trod enc Tryz.prog W 0 (fun _ => true) true m 25 ((([c0, c1, c2] : List Value).drop 1).take (Tryz.prog.cellsOf 25)) = some x1 := hf 1 _ rfl
  rw [e1] at f1
  have e2 : Tryz.prog.cellsOf 2 = 1 := by kernel_rfl
  have f2 : DataW.trod enc Tryz.prog W 0 (fun _ => true) true m 2 ((([c0, c1, c2] : List Value).drop 2).take (Tryz.prog.cellsOf 2)) = some x2 := hf 2 _ rfl
  rw [e2] at f2
  obtain ⟨n0, h0, _, _⟩ := DataW.trod_int Tryz.underlying2 f0
  obtain ⟨n1, h1, _, hw⟩ := DataW.trod_int Tryz.underlying25 f1
  obtain ⟨n2, h2, _, _⟩ := DataW.trod_int Tryz.underlying2 f2
  simp at h0 h1 h2
  subst h0 h1 h2
  exact ⟨n0, n1, n2, rfl, bounds_u64 hw⟩

end Go.Proofs.YtkpabanjlhlmfaaGreatDoor

namespace Go.Proofs.YtkpabanjlhlmfaaGreatDoor
open Go.ChangeShapes Go.WideShapes Go.ChangeAt Go.RowKit

/-- An entry that came in: its name's slice and what it holds. -/
def OpensG (W : World) (y : Option Addr × Nat × Nat × GP) (cs : List Value) : Prop := cs = [.slice y.1 y.2.1 y.2.2.1, .int .i64 y.2.2.2.ser, .int .i64 y.2.2.2.tm, .int .i64 y.2.2.2.rs] ∧ Pts W y.1 y.2.1 y.2.2.2.parts

set_option maxRecDepth 20000 in
theorem open_sig {H : Type} {enc : TypeId × Value → H} {W : World} {fuel : Nat} {cs : List Value} {x : DataW H × List MemPlace} (h : DataW.trod enc Tryz.prog W 0 (fun _ => true) true fuel 32 cs = some x) : ∃ a n c bs, cs = [.slice a n c] ∧ Row W a n bs ∧ n ≤ 9223372036854775807 := by
  rcases open_ints Tryz.underlying32 Tryz.underlying5 (by kernel_rfl) h with ⟨rfl, _⟩ | ⟨a, len, cap, zs, rfl, _, hl, hm, hz, _, hc, hw⟩
  · exact ⟨none, 0, 0, [], rfl, ⟨rfl, fun k hk => absurd hk (Nat.not_lt_zero _), by simp⟩, by decide⟩
  · have hr : IsRow .u8 W (some a) len cap zs := .inr ⟨a, rfl, hl, hm, by simpa using hz, hc, hw⟩
    exact ⟨some a, len, cap, zs.take len, rfl, hr.row.1, by unfold maxLen at hm; omega⟩

end Go.Proofs.YtkpabanjlhlmfaaGreatDoor

set_option linter.unusedVariables false
namespace Go.Proofs.YtkpabanjlhlmfaaGreatDoor
open Go.ChangeShapes Go.WideShapes Go.ChangeAt Go.RowKit

set_option maxRecDepth 20000 in
theorem open_pm {H : Type} {enc : TypeId × Value → H} {W : World} {fuel : Nat} {cs : List Value} {x : DataW H × List MemPlace} (h : DataW.trod enc Tryz.prog W 0 (fun _ => true) true fuel 127 cs = some x) : ∃ y : Int × Int, cs = [.int .i64 y.1, .int .i64 y.2] := by
  obtain ⟨xs, m, rfl, _, hl, hxl, hf⟩ := DataW.trod_struct Tryz.underlying127 h
  have hl2 : cs.length = 2 := hl.trans (by kernel_rfl)
  have hx2 : xs.length = 2 := hxl
  obtain ⟨c0, c1, rfl⟩ : ∃ c0 c1, cs = [c0, c1] := by
    match cs, hl2 with
    | [c0, c1], _ => exact ⟨c0, c1, rfl⟩
  obtain ⟨x0, x1, rfl⟩ : ∃ c0 c1, xs = [c0, c1] := by
    match xs, hx2 with
    | [c0, c1], _ => exact ⟨c0, c1, rfl⟩
  have e1 : Tryz.prog.cellsOf 2 = 1 := by kernel_rfl
  have f0 : DataW.trod enc Tryz.prog W 0 (fun _ => true) true m 2 ((([c0, c1] : List Value).drop 0).take (Tryz.prog.cellsOf 2)) = some x0 := hf 0 _ rfl
  rw [e1] at f0
  have f1 : DataW.trod enc Tryz.prog W 0 (fun _ => true) true m 2 ((([c0, c1] : List Value).drop 1).take (Tryz.prog.cellsOf 2)) = some x1 := hf 1 _ rfl
  rw [e1] at f1
  obtain ⟨n0, h0, _, _⟩ := DataW.trod_int Tryz.underlying2 f0
  obtain ⟨n1, h1, _, _⟩ := DataW.trod_int Tryz.underlying2 f1
  simp at h0 h1
  subst h0 h1
  exact ⟨(n0, n1), rfl⟩

set_option maxRecDepth 20000 in
theorem open_pms {H : Type} {enc : TypeId × Value → H} {W : World} {fuel : Nat} {cs : List Value} {x : DataW H × List MemPlace} (h : DataW.trod enc Tryz.prog W 0 (fun _ => true) true fuel 30 cs = some x) : ∃ a n c xs, cs = [.slice a n c] ∧ Pms W a n xs := by
  rcases DataW.trod_slice Tryz.underlying30 h with ⟨rfl, _⟩ | ⟨a, len, cap, elems, rest, n, rfl, rfl, _, _, hl, hm, hlen, hel, _, _⟩
  · exact ⟨none, 0, 0, [], rfl, ⟨rfl, by decide, fun k hk => absurd hk (by omega)⟩⟩
  · have ec : Tryz.prog.cellsOf 127 = 2 := by kernel_rfl
    rw [ec] at hel
    have each : ∀ i, i < len → ∃ y : Int × Int, ∃ cs', W.cells? 0 (a.add (i * 2)) 2 = some cs' ∧ cs' = [.int .i64 y.1, .int .i64 y.2] := by
      intro i hi
      have he := hel i hi
      rw [List.getElem?_eq_getElem (by omega)] at he
      cases hc : W.cells? 0 (a.add (i * 2)) 2 with
      | none => rw [hc] at he; cases he
      | some cs' =>
        rw [hc] at he
        obtain ⟨y, hy⟩ := open_pm he
        exact ⟨y, cs', rfl, hy⟩
    obtain ⟨y, hy⟩ := Go.Deep.choose_lt each
    have hm' : len ≤ 9223372036854775807 := by unfold maxLen at hm; omega
    refine ⟨some a, len, cap, (List.range len).map y, rfl, ⟨by simp, hm', fun k hk => ?_⟩⟩
    obtain ⟨cs', hcs, rfl⟩ := hy k hk
    obtain ⟨_, _, hcell⟩ := World.cells?_some hcs
    obtain ⟨b, off, spot⟩ := a
    have hs : spot = none := by
      obtain ⟨cs0, hcs0, _⟩ := hy 0 (by omega)
      obtain ⟨_, hl0, hcell0⟩ := World.cells?_some hcs0
      have h00 := hcell0 0 (by omega)
      rw [List.getElem?_eq_getElem (by omega)] at h00
      simpa [Addr.add] using World.cell?_spot h00
    subst hs
    have ey : ((List.range len).map y).getD k (0, 0) = y k := by simp [hk]
    rw [ey]
    have cc : ∀ j, j < 2 → W.cell? ⟨b, off + k * 2 + j, none⟩ = [Value.int .i64 (y k).1, .int .i64 (y k).2][j]? := by
      intro j hj
      have := hcell j hj
      rw [Addr.add_lit, Addr.add_lit] at this
      exact this
    exact ⟨b, off, rfl, World.block_lt_of_cell? W _ (cc 0 (by omega)), cc 0 (by omega), cc 1 (by omega)⟩

theorem open_row64C {H : Type} {enc : TypeId × Value → H} {W : World} {fuel : Nat} {cs : List Value} {x : DataW H × List MemPlace} (h : DataW.trod enc Tryz.prog W 0 (fun _ => true) true fuel 29 cs = some x) :
    ∃ a n cap zs, cs = [.slice a n cap] ∧ Row64 W a n zs ∧ n ≤ 9223372036854775807 := by
  rcases open_ints Tryz.underlying29 Tryz.underlying2 (by kernel_rfl) h with ⟨rfl, _⟩ | ⟨a, len, cap, zs, rfl, _, hl, hm, hz, _, hc, hwz⟩
  · exact ⟨none, 0, 0, [], rfl, ⟨rfl, fun k hk => absurd hk (Nat.not_lt_zero _)⟩, by decide⟩
  · have hz' : zs.length = cap := by simpa using hz
    refine ⟨some a, len, cap, zs.take len, rfl, ⟨by rw [List.length_take]; omega, fun k hk => ?_⟩, by unfold maxLen at hm; omega⟩
    have h0 := hc k (by omega)
    obtain ⟨b, off, spot⟩ := a
    have hs : spot = none := by simpa [Addr.add] using World.cell?_spot (hc 0 (by omega))
    subst hs
    rw [Addr.add_lit] at h0
    refine ⟨b, off, rfl, World.block_lt_of_cell? W _ h0, h0.trans ?_⟩
    simp [hk]

set_option maxRecDepth 20000 in
theorem open_Ext {H : Type} {enc : TypeId × Value → H} {W : World} {fuel : Nat} {cs : List Value} {x : DataW H × List MemPlace} (h : DataW.trod enc Tryz.prog W 0 (fun _ => true) true fuel 120 cs = some x) : ∃ (s : XPS) (y : XP), cs = [.int .i64 y.id, .bool y.crit, .slice s.a1 s.n1 s.c1] ∧ XPR W s y := by
  obtain ⟨xs, m, rfl, _, hl, hxl, hf⟩ := DataW.trod_struct Tryz.underlying120 h
  have hl2 : cs.length = 3 := hl.trans (by kernel_rfl)
  have hx2 : xs.length = 3 := hxl
  obtain ⟨c0, c1, c2, rfl⟩ : ∃ c0 c1 c2, cs = [c0, c1, c2] := by
    match cs, hl2 with
    | [c0, c1, c2], _ => exact ⟨c0, c1, c2, rfl⟩
  obtain ⟨x0, x1, x2, rfl⟩ : ∃ y0 y1 y2, xs = [y0, y1, y2] := by
    match xs, hx2 with
    | [y0, y1, y2], _ => exact ⟨y0, y1, y2, rfl⟩
  have e0 : Tryz.prog.cellsOf 2 = 1 := by kernel_rfl
  have f0 : DataW.trod enc Tryz.prog W 0 (fun _ => true) true m 2 ((([c0, c1, c2] : List Value).drop 0).take (Tryz.prog.cellsOf 2)) = some x0 := hf 0 _ rfl
  rw [e0] at f0
  have e1 : Tryz.prog.cellsOf 4 = 1 := by kernel_rfl
  have f1 : DataW.trod enc Tryz.prog W 0 (fun _ => true) true m 4 ((([c0, c1, c2] : List Value).drop 1).take (Tryz.prog.cellsOf 4)) = some x1 := hf 1 _ rfl
  rw [e1] at f1
  have e2 : Tryz.prog.cellsOf 32 = 1 := by kernel_rfl
  have f2 : DataW.trod enc Tryz.prog W 0 (fun _ => true) true m 32 ((([c0, c1, c2] : List Value).drop 2).take (Tryz.prog.cellsOf 32)) = some x2 := hf 2 _ rfl
  rw [e2] at f2
  obtain ⟨v0, h0, _, _⟩ := DataW.trod_int Tryz.underlying2 f0
  obtain ⟨v1, h1, _⟩ := DataW.trod_bool Tryz.underlying4 f1
  obtain ⟨b1, m1, d1, v2, h2, r1, z1⟩ := open_sig f2
  simp at h0 h1 h2
  subst h0
  subst h1
  subst h2
  exact ⟨⟨b1, m1, d1⟩, ⟨v0, v1, v2⟩, rfl, ⟨r1, z1⟩⟩

set_option maxRecDepth 20000 in
theorem open_Exts {H : Type} {enc : TypeId × Value → H} {W : World} {fuel : Nat} {cs : List Value} {x : DataW H × List MemPlace} (h : DataW.trod enc Tryz.prog W 0 (fun _ => true) true fuel 31 cs = some x) : ∃ a n c xs, cs = [.slice a n c] ∧ XPs W a n xs := by
  rcases DataW.trod_slice Tryz.underlying31 h with ⟨rfl, _⟩ | ⟨a, len, cap, elems, rest, n, rfl, rfl, _, _, hl, hm, hlen, hel, _, _⟩
  · exact ⟨none, 0, 0, [], rfl, ⟨rfl, by decide, fun k hk => absurd hk (by omega)⟩⟩
  · have ec : Tryz.prog.cellsOf 120 = 3 := by kernel_rfl
    rw [ec] at hel
    have each : ∀ i, i < len → ∃ y : XPS × XP, ∃ cs', W.cells? 0 (a.add (i * 3)) 3 = some cs' ∧ cs' = [.int .i64 y.2.id, .bool y.2.crit, .slice y.1.a1 y.1.n1 y.1.c1] ∧ XPR W y.1 y.2 := by
      intro i hi
      have he := hel i hi
      rw [List.getElem?_eq_getElem (by omega)] at he
      cases hc : W.cells? 0 (a.add (i * 3)) 3 with
      | none => rw [hc] at he; cases he
      | some cs' =>
        rw [hc] at he
        obtain ⟨s, y, hcs, hp⟩ := open_Ext he
        exact ⟨(s, y), cs', rfl, hcs, hp⟩
    obtain ⟨y, hy⟩ := Go.Deep.choose_lt each
    have hm' : len ≤ 9223372036854775807 := by unfold maxLen at hm; omega
    refine ⟨some a, len, cap, (List.range len).map (fun i => (y i).2), rfl, ⟨by simp, hm', fun k hk => ?_⟩⟩
    obtain ⟨cs', hcs, rfl, hck⟩ := hy k hk
    obtain ⟨_, _, hcell⟩ := World.cells?_some hcs
    obtain ⟨b, off, spot⟩ := a
    have hs : spot = none := by
      obtain ⟨cs0, hcs0, _⟩ := hy 0 (by omega)
      obtain ⟨_, hl0, hcell0⟩ := World.cells?_some hcs0
      have h00 := hcell0 0 (by omega)
      rw [List.getElem?_eq_getElem (by omega)] at h00
      simpa [Addr.add] using World.cell?_spot h00
    subst hs
    have ey : ((List.range len).map (fun i => (y i).2)).getD k default = (y k).2 := by simp [hk]
    rw [ey]
    have cc : ∀ j, j < 3 → W.cell? ⟨b, off + k * 3 + j, none⟩ = [(.int .i64 (y k).2.id : Value), .bool (y k).2.crit, .slice (y k).1.a1 (y k).1.n1 (y k).1.c1][j]? := by
      intro j hj
      have := hcell j hj
      rw [Addr.add_lit, Addr.add_lit] at this
      exact this
    exact ⟨b, off, (y k).1, rfl, World.block_lt_of_cell? W _ (cc 0 (by omega)), ⟨cc 0 (by omega), cc 1 (by omega), cc 2 (by omega)⟩, hck⟩

set_option maxRecDepth 20000 in
theorem open_Cert {H : Type} {enc : TypeId × Value → H} {W : World} {fuel : Nat} {cs : List Value} {x : DataW H × List MemPlace} (h : DataW.trod enc Tryz.prog W 0 (fun _ => true) true fuel 34 cs = some x) : ∃ (s : CES) (y : CE), cs = [.int .i64 y.ser, .slice s.a1 s.n1 s.c1, .slice s.a2 s.n2 s.c2, .int .i64 y.frm, .int .i64 y.til, .int .i64 y.key.1, .int .u64 y.key.2.1, .int .i64 y.key.2.2, .bool y.ca, .int .i64 y.room, .int .i64 y.uses, .slice s.a3 s.n3 s.c3, .slice s.a4 s.n4 s.c4, .slice s.a5 s.n5 s.c5, .slice s.a6 s.n6 s.c6, .slice s.a7 s.n7 s.c7, .int .i64 y.need, .int .i64 y.nomap, .int .i64 y.noany, .slice s.a8 s.n8 s.c8, .slice s.a9 s.n9 s.c9] ∧ CER W s y ∧ U64 (y.key.2.1) := by
  obtain ⟨xs, m, rfl, _, hl, hxl, hf⟩ := DataW.trod_struct Tryz.underlying34 h
  have hl2 : cs.length = 21 := hl.trans (by kernel_rfl)
  have hx2 : xs.length = 19 := hxl
  obtain ⟨c0, c1, c2, c3, c4, c5, c6, c7, c8, c9, c10, c11, c12, c13, c14, c15, c16, c17, c18, c19, c20, rfl⟩ : ∃ c0 c1 c2 c3 c4 c5 c6 c7 c8 c9 c10 c11 c12 c13 c14 c15 c16 c17 c18 c19 c20, cs = [c0, c1, c2, c3, c4, c5, c6, c7, c8, c9, c10, c11, c12, c13, c14, c15, c16, c17, c18, c19, c20] := by
    match cs, hl2 with
    | [c0, c1, c2, c3, c4, c5, c6, c7, c8, c9, c10, c11, c12, c13, c14, c15, c16, c17, c18, c19, c20], _ => exact ⟨c0, c1, c2, c3, c4, c5, c6, c7, c8, c9, c10, c11, c12, c13, c14, c15, c16, c17, c18, c19, c20, rfl⟩
  obtain ⟨x0, x1, x2, x3, x4, x5, x6, x7, x8, x9, x10, x11, x12, x13, x14, x15, x16, x17, x18, rfl⟩ : ∃ y0 y1 y2 y3 y4 y5 y6 y7 y8 y9 y10 y11 y12 y13 y14 y15 y16 y17 y18, xs = [y0, y1, y2, y3, y4, y5, y6, y7, y8, y9, y10, y11, y12, y13, y14, y15, y16, y17, y18] := by
    match xs, hx2 with
    | [y0, y1, y2, y3, y4, y5, y6, y7, y8, y9, y10, y11, y12, y13, y14, y15, y16, y17, y18], _ => exact ⟨y0, y1, y2, y3, y4, y5, y6, y7, y8, y9, y10, y11, y12, y13, y14, y15, y16, y17, y18, rfl⟩
  have e0 : Tryz.prog.cellsOf 2 = 1 := by kernel_rfl
  have f0 : DataW.trod enc Tryz.prog W 0 (fun _ => true) true m 2 ((([c0, c1, c2, c3, c4, c5, c6, c7, c8, c9, c10, c11, c12, c13, c14, c15, c16, c17, c18, c19, c20] : List Value).drop 0).take (Tryz.prog.cellsOf 2)) = some x0 := hf 0 _ rfl
  rw [e0] at f0
  have e1 : Tryz.prog.cellsOf 24 = 1 := by kernel_rfl
  have f1 : DataW.trod enc Tryz.prog W 0 (fun _ => true) true m 24 ((([c0, c1, c2, c3, c4, c5, c6, c7, c8, c9, c10, c11, c12, c13, c14, c15, c16, c17, c18, c19, c20] : List Value).drop 1).take (Tryz.prog.cellsOf 24)) = some x1 := hf 1 _ rfl
  rw [e1] at f1
  have e2 : Tryz.prog.cellsOf 24 = 1 := by kernel_rfl
  have f2 : DataW.trod enc Tryz.prog W 0 (fun _ => true) true m 24 ((([c0, c1, c2, c3, c4, c5, c6, c7, c8, c9, c10, c11, c12, c13, c14, c15, c16, c17, c18, c19, c20] : List Value).drop 2).take (Tryz.prog.cellsOf 24)) = some x2 := hf 2 _ rfl
  rw [e2] at f2
  have e3 : Tryz.prog.cellsOf 2 = 1 := by kernel_rfl
  have f3 : DataW.trod enc Tryz.prog W 0 (fun _ => true) true m 2 ((([c0, c1, c2, c3, c4, c5, c6, c7, c8, c9, c10, c11, c12, c13, c14, c15, c16, c17, c18, c19, c20] : List Value).drop 3).take (Tryz.prog.cellsOf 2)) = some x3 := hf 3 _ rfl
  rw [e3] at f3
  have e4 : Tryz.prog.cellsOf 2 = 1 := by kernel_rfl
  have f4 : DataW.trod enc Tryz.prog W 0 (fun _ => true) true m 2 ((([c0, c1, c2, c3, c4, c5, c6, c7, c8, c9, c10, c11, c12, c13, c14, c15, c16, c17, c18, c19, c20] : List Value).drop 4).take (Tryz.prog.cellsOf 2)) = some x4 := hf 4 _ rfl
  rw [e4] at f4
  have e5 : Tryz.prog.cellsOf 27 = 3 := by kernel_rfl
  have f5 : DataW.trod enc Tryz.prog W 0 (fun _ => true) true m 27 ((([c0, c1, c2, c3, c4, c5, c6, c7, c8, c9, c10, c11, c12, c13, c14, c15, c16, c17, c18, c19, c20] : List Value).drop 5).take (Tryz.prog.cellsOf 27)) = some x5 := hf 5 _ rfl
  rw [e5] at f5
  have e6 : Tryz.prog.cellsOf 4 = 1 := by kernel_rfl
  have f6 : DataW.trod enc Tryz.prog W 0 (fun _ => true) true m 4 ((([c0, c1, c2, c3, c4, c5, c6, c7, c8, c9, c10, c11, c12, c13, c14, c15, c16, c17, c18, c19, c20] : List Value).drop 8).take (Tryz.prog.cellsOf 4)) = some x6 := hf 6 _ rfl
  rw [e6] at f6
  have e7 : Tryz.prog.cellsOf 2 = 1 := by kernel_rfl
  have f7 : DataW.trod enc Tryz.prog W 0 (fun _ => true) true m 2 ((([c0, c1, c2, c3, c4, c5, c6, c7, c8, c9, c10, c11, c12, c13, c14, c15, c16, c17, c18, c19, c20] : List Value).drop 9).take (Tryz.prog.cellsOf 2)) = some x7 := hf 7 _ rfl
  rw [e7] at f7
  have e8 : Tryz.prog.cellsOf 2 = 1 := by kernel_rfl
  have f8 : DataW.trod enc Tryz.prog W 0 (fun _ => true) true m 2 ((([c0, c1, c2, c3, c4, c5, c6, c7, c8, c9, c10, c11, c12, c13, c14, c15, c16, c17, c18, c19, c20] : List Value).drop 10).take (Tryz.prog.cellsOf 2)) = some x8 := hf 8 _ rfl
  rw [e8] at f8
  have e9 : Tryz.prog.cellsOf 28 = 1 := by kernel_rfl
  have f9 : DataW.trod enc Tryz.prog W 0 (fun _ => true) true m 28 ((([c0, c1, c2, c3, c4, c5, c6, c7, c8, c9, c10, c11, c12, c13, c14, c15, c16, c17, c18, c19, c20] : List Value).drop 11).take (Tryz.prog.cellsOf 28)) = some x9 := hf 9 _ rfl
  rw [e9] at f9
  have e10 : Tryz.prog.cellsOf 28 = 1 := by kernel_rfl
  have f10 : DataW.trod enc Tryz.prog W 0 (fun _ => true) true m 28 ((([c0, c1, c2, c3, c4, c5, c6, c7, c8, c9, c10, c11, c12, c13, c14, c15, c16, c17, c18, c19, c20] : List Value).drop 12).take (Tryz.prog.cellsOf 28)) = some x10 := hf 10 _ rfl
  rw [e10] at f10
  have e11 : Tryz.prog.cellsOf 28 = 1 := by kernel_rfl
  have f11 : DataW.trod enc Tryz.prog W 0 (fun _ => true) true m 28 ((([c0, c1, c2, c3, c4, c5, c6, c7, c8, c9, c10, c11, c12, c13, c14, c15, c16, c17, c18, c19, c20] : List Value).drop 13).take (Tryz.prog.cellsOf 28)) = some x11 := hf 11 _ rfl
  rw [e11] at f11
  have e12 : Tryz.prog.cellsOf 29 = 1 := by kernel_rfl
  have f12 : DataW.trod enc Tryz.prog W 0 (fun _ => true) true m 29 ((([c0, c1, c2, c3, c4, c5, c6, c7, c8, c9, c10, c11, c12, c13, c14, c15, c16, c17, c18, c19, c20] : List Value).drop 14).take (Tryz.prog.cellsOf 29)) = some x12 := hf 12 _ rfl
  rw [e12] at f12
  have e13 : Tryz.prog.cellsOf 30 = 1 := by kernel_rfl
  have f13 : DataW.trod enc Tryz.prog W 0 (fun _ => true) true m 30 ((([c0, c1, c2, c3, c4, c5, c6, c7, c8, c9, c10, c11, c12, c13, c14, c15, c16, c17, c18, c19, c20] : List Value).drop 15).take (Tryz.prog.cellsOf 30)) = some x13 := hf 13 _ rfl
  rw [e13] at f13
  have e14 : Tryz.prog.cellsOf 2 = 1 := by kernel_rfl
  have f14 : DataW.trod enc Tryz.prog W 0 (fun _ => true) true m 2 ((([c0, c1, c2, c3, c4, c5, c6, c7, c8, c9, c10, c11, c12, c13, c14, c15, c16, c17, c18, c19, c20] : List Value).drop 16).take (Tryz.prog.cellsOf 2)) = some x14 := hf 14 _ rfl
  rw [e14] at f14
  have e15 : Tryz.prog.cellsOf 2 = 1 := by kernel_rfl
  have f15 : DataW.trod enc Tryz.prog W 0 (fun _ => true) true m 2 ((([c0, c1, c2, c3, c4, c5, c6, c7, c8, c9, c10, c11, c12, c13, c14, c15, c16, c17, c18, c19, c20] : List Value).drop 17).take (Tryz.prog.cellsOf 2)) = some x15 := hf 15 _ rfl
  rw [e15] at f15
  have e16 : Tryz.prog.cellsOf 2 = 1 := by kernel_rfl
  have f16 : DataW.trod enc Tryz.prog W 0 (fun _ => true) true m 2 ((([c0, c1, c2, c3, c4, c5, c6, c7, c8, c9, c10, c11, c12, c13, c14, c15, c16, c17, c18, c19, c20] : List Value).drop 18).take (Tryz.prog.cellsOf 2)) = some x16 := hf 16 _ rfl
  rw [e16] at f16
  have e17 : Tryz.prog.cellsOf 31 = 1 := by kernel_rfl
  have f17 : DataW.trod enc Tryz.prog W 0 (fun _ => true) true m 31 ((([c0, c1, c2, c3, c4, c5, c6, c7, c8, c9, c10, c11, c12, c13, c14, c15, c16, c17, c18, c19, c20] : List Value).drop 19).take (Tryz.prog.cellsOf 31)) = some x17 := hf 17 _ rfl
  rw [e17] at f17
  have e18 : Tryz.prog.cellsOf 32 = 1 := by kernel_rfl
  have f18 : DataW.trod enc Tryz.prog W 0 (fun _ => true) true m 32 ((([c0, c1, c2, c3, c4, c5, c6, c7, c8, c9, c10, c11, c12, c13, c14, c15, c16, c17, c18, c19, c20] : List Value).drop 20).take (Tryz.prog.cellsOf 32)) = some x18 := hf 18 _ rfl
  rw [e18] at f18
  obtain ⟨v0, h0, _, _⟩ := DataW.trod_int Tryz.underlying2 f0
  obtain ⟨b1, m1, d1, v1, h1, r1⟩ := open_name f1
  obtain ⟨b2, m2, d2, v2, h2, r2⟩ := open_name f2
  obtain ⟨v3, h3, _, _⟩ := DataW.trod_int Tryz.underlying2 f3
  obtain ⟨v4, h4, _, _⟩ := DataW.trod_int Tryz.underlying2 f4
  obtain ⟨v5, y5, k5, h5, g5⟩ := open_pub f5
  obtain ⟨v6, h6, _⟩ := DataW.trod_bool Tryz.underlying4 f6
  obtain ⟨v7, h7, _, _⟩ := DataW.trod_int Tryz.underlying2 f7
  obtain ⟨v8, h8, _, _⟩ := DataW.trod_int Tryz.underlying2 f8
  obtain ⟨b3, m3, d3, v9, h9, r3⟩ := open_gens f9
  obtain ⟨b4, m4, d4, v10, h10, r4⟩ := open_gens f10
  obtain ⟨b5, m5, d5, v11, h11, r5⟩ := open_gens f11
  obtain ⟨b6, m6, d6, v12, h12, r6, z6⟩ := open_row64C f12
  obtain ⟨b7, m7, d7, v13, h13, r7⟩ := open_pms f13
  obtain ⟨v14, h14, _, _⟩ := DataW.trod_int Tryz.underlying2 f14
  obtain ⟨v15, h15, _, _⟩ := DataW.trod_int Tryz.underlying2 f15
  obtain ⟨v16, h16, _, _⟩ := DataW.trod_int Tryz.underlying2 f16
  obtain ⟨b8, m8, d8, v17, h17, r8⟩ := open_Exts f17
  obtain ⟨b9, m9, d9, v18, h18, r9, z9⟩ := open_sig f18
  simp at h0 h1 h2 h3 h4 h5 h6 h7 h8 h9 h10 h11 h12 h13 h14 h15 h16 h17 h18
  subst h0
  subst h1
  subst h2
  subst h3
  subst h4
  obtain ⟨rfl, rfl, rfl⟩ := h5
  subst h6
  subst h7
  subst h8
  subst h9
  subst h10
  subst h11
  subst h12
  subst h13
  subst h14
  subst h15
  subst h16
  subst h17
  subst h18
  exact ⟨⟨b1, m1, d1, b2, m2, d2, b3, m3, d3, b4, m4, d4, b5, m5, d5, b6, m6, d6, b7, m7, d7, b8, m8, d8, b9, m9, d9⟩, ⟨v0, v1, v2, v3, v4, (v5, y5, k5), v6, v7, v8, v9, v10, v11, v12, v13, v14, v15, v16, v17, v18⟩, rfl, ⟨r1, r2, r3, r4, r5, r6, z6, r7, r8, r9, z9⟩, g5⟩

end Go.Proofs.YtkpabanjlhlmfaaGreatDoor

set_option linter.unusedVariables false
namespace Go.Proofs.YtkpabanjlhlmfaaGreatDoor
open Go.ChangeShapes Go.WideShapes Go.ChangeAt Go.RowKit

set_option maxRecDepth 20000 in
theorem open_AllowRule {H : Type} {enc : TypeId × Value → H} {W : World} {fuel : Nat} {cs : List Value} {x : DataW H × List MemPlace} (h : DataW.trod enc Tryz.prog W 0 (fun _ => true) true fuel 106 cs = some x) : ∃ (s : ARS) (y : AR), cs = [.int .i64 y.base.g.kind, .string y.base.g.text, .int .i64 y.base.g.addr, .int .i64 y.base.g.bits, .slice s.a1 s.n1 s.c1, .int .i64 y.act, .bool y.yes] ∧ ARR W s y := by
  obtain ⟨xs, m, rfl, _, hl, hxl, hf⟩ := DataW.trod_struct Tryz.underlying106 h
  have hl2 : cs.length = 7 := hl.trans (by kernel_rfl)
  have hx2 : xs.length = 3 := hxl
  obtain ⟨c0, c1, c2, c3, c4, c5, c6, rfl⟩ : ∃ c0 c1 c2 c3 c4 c5 c6, cs = [c0, c1, c2, c3, c4, c5, c6] := by
    match cs, hl2 with
    | [c0, c1, c2, c3, c4, c5, c6], _ => exact ⟨c0, c1, c2, c3, c4, c5, c6, rfl⟩
  obtain ⟨x0, x1, x2, rfl⟩ : ∃ y0 y1 y2, xs = [y0, y1, y2] := by
    match xs, hx2 with
    | [y0, y1, y2], _ => exact ⟨y0, y1, y2, rfl⟩
  have e0 : Tryz.prog.cellsOf 93 = 5 := by kernel_rfl
  have f0 : DataW.trod enc Tryz.prog W 0 (fun _ => true) true m 93 ((([c0, c1, c2, c3, c4, c5, c6] : List Value).drop 0).take (Tryz.prog.cellsOf 93)) = some x0 := hf 0 _ rfl
  rw [e0] at f0
  have e1 : Tryz.prog.cellsOf 2 = 1 := by kernel_rfl
  have f1 : DataW.trod enc Tryz.prog W 0 (fun _ => true) true m 2 ((([c0, c1, c2, c3, c4, c5, c6] : List Value).drop 5).take (Tryz.prog.cellsOf 2)) = some x1 := hf 1 _ rfl
  rw [e1] at f1
  have e2 : Tryz.prog.cellsOf 4 = 1 := by kernel_rfl
  have f2 : DataW.trod enc Tryz.prog W 0 (fun _ => true) true m 4 ((([c0, c1, c2, c3, c4, c5, c6] : List Value).drop 6).take (Tryz.prog.cellsOf 4)) = some x2 := hf 2 _ rfl
  rw [e2] at f2
  obtain ⟨g0, b1, m1, d1, v0, h0, r1, t1⟩ := open_gen f0
  obtain ⟨v1, h1, _, _⟩ := DataW.trod_int Tryz.underlying2 f1
  obtain ⟨v2, h2, _⟩ := DataW.trod_bool Tryz.underlying4 f2
  simp at h0 h1 h2
  obtain ⟨rfl, rfl, rfl, rfl, rfl⟩ := h0
  subst h1
  subst h2
  exact ⟨⟨b1, m1, d1⟩, ⟨⟨g0, v0⟩, v1, v2⟩, rfl, ⟨r1, t1⟩⟩

set_option maxRecDepth 20000 in
theorem open_AllowRules {H : Type} {enc : TypeId × Value → H} {W : World} {fuel : Nat} {cs : List Value} {x : DataW H × List MemPlace} (h : DataW.trod enc Tryz.prog W 0 (fun _ => true) true fuel 54 cs = some x) : ∃ a n c xs, cs = [.slice a n c] ∧ ARs W a n xs := by
  rcases DataW.trod_slice Tryz.underlying54 h with ⟨rfl, _⟩ | ⟨a, len, cap, elems, rest, n, rfl, rfl, _, _, hl, hm, hlen, hel, _, _⟩
  · exact ⟨none, 0, 0, [], rfl, ⟨rfl, by decide, fun k hk => absurd hk (by omega)⟩⟩
  · have ec : Tryz.prog.cellsOf 106 = 7 := by kernel_rfl
    rw [ec] at hel
    have each : ∀ i, i < len → ∃ y : ARS × AR, ∃ cs', W.cells? 0 (a.add (i * 7)) 7 = some cs' ∧ cs' = [.int .i64 y.2.base.g.kind, .string y.2.base.g.text, .int .i64 y.2.base.g.addr, .int .i64 y.2.base.g.bits, .slice y.1.a1 y.1.n1 y.1.c1, .int .i64 y.2.act, .bool y.2.yes] ∧ ARR W y.1 y.2 := by
      intro i hi
      have he := hel i hi
      rw [List.getElem?_eq_getElem (by omega)] at he
      cases hc : W.cells? 0 (a.add (i * 7)) 7 with
      | none => rw [hc] at he; cases he
      | some cs' =>
        rw [hc] at he
        obtain ⟨s, y, hcs, hp⟩ := open_AllowRule he
        exact ⟨(s, y), cs', rfl, hcs, hp⟩
    obtain ⟨y, hy⟩ := Go.Deep.choose_lt each
    have hm' : len ≤ 9223372036854775807 := by unfold maxLen at hm; omega
    refine ⟨some a, len, cap, (List.range len).map (fun i => (y i).2), rfl, ⟨by simp, hm', fun k hk => ?_⟩⟩
    obtain ⟨cs', hcs, rfl, hck⟩ := hy k hk
    obtain ⟨_, _, hcell⟩ := World.cells?_some hcs
    obtain ⟨b, off, spot⟩ := a
    have hs : spot = none := by
      obtain ⟨cs0, hcs0, _⟩ := hy 0 (by omega)
      obtain ⟨_, hl0, hcell0⟩ := World.cells?_some hcs0
      have h00 := hcell0 0 (by omega)
      rw [List.getElem?_eq_getElem (by omega)] at h00
      simpa [Addr.add] using World.cell?_spot h00
    subst hs
    have ey : ((List.range len).map (fun i => (y i).2)).getD k default = (y k).2 := by simp [hk]
    rw [ey]
    have cc : ∀ j, j < 7 → W.cell? ⟨b, off + k * 7 + j, none⟩ = [(.int .i64 (y k).2.base.g.kind : Value), .string (y k).2.base.g.text, .int .i64 (y k).2.base.g.addr, .int .i64 (y k).2.base.g.bits, .slice (y k).1.a1 (y k).1.n1 (y k).1.c1, .int .i64 (y k).2.act, .bool (y k).2.yes][j]? := by
      intro j hj
      have := hcell j hj
      rw [Addr.add_lit, Addr.add_lit] at this
      exact this
    exact ⟨b, off, (y k).1, rfl, World.block_lt_of_cell? W _ (cc 0 (by omega)), ⟨cc 0 (by omega), cc 1 (by omega), cc 2 (by omega), cc 3 (by omega), cc 4 (by omega), cc 5 (by omega), cc 6 (by omega)⟩, hck⟩

end Go.Proofs.YtkpabanjlhlmfaaGreatDoor

namespace Go.Proofs.YtkpabanjlhlmfaaGreatDoor

/-- The wrap of a row that lists variables, the world's shape kept. -/
theorem ret_shaped_and {H : Type} {enc : TypeId × Value → H} {a : Assume} {C : Checked} {os : Os} {f : FuncId} {fn : Func} {s : ChangeSpec} {conds : List PathCond} {apart fresh handsOn again : Bool} {X : World → Array Value → Prop}
    (hX : ∀ (w w' : World) (args : Array Value), w.heap = w'.heap → X w args → X w' args)
    (own : ownKnob C.prog.godebug = none) (started : os.Started) (noInit : C.prog.inits.idxOf? f = none) (hfn : C.prog.funcs[f]? = some fn)
    (witness : ∃ (w : World) (tape : Tape) (i : Input), w.os = os ∧ (w.forCall tape i).Shaped C.prog ∧ i.vars = [] ∧ Input.okWide C.prog (w.forCall tape i) .any w.heap.size f i ∧
      ((s.pre enc C.prog fn conds apart (w.forCall tape i).memory i.args ∧ X (w.forCall tape i).memory i.args) ∧ sizedMet enc C.prog fn (OpenSpec.ofChange s) apart (w.forCall tape i).memory i.args) ∧ a.holds C.prog (lone (Frame.enter C.prog f i.args .normal) [] (w.forCall tape i)))
    (contract : ∀ (W : World) (base : Nat) (args : Array Value) (ds gs : List (DataW H)) (before : List MemPlace),
      (∀ (j : Nat) t v, fn.params[j]? = some t → args[j]? = some v → Value.okWide C.prog W .any base t v) →
      DataW.Whole enc C.prog fn.params.toList s.vars apart W args.toList ds gs before →
      X W args → W.ShapedOpen C.prog →
      Calls C.prog f args W fun e W' => ∃ v, e = .returned v ∧ s.post enc C.prog fn apart fresh handsOn again W args v W') :
    ReturnsInHanded a C os f .any (fun w args => (s.pre enc C.prog fn conds apart w args ∧ X w args) ∧ sizedMet enc C.prog fn (OpenSpec.ofChange s) apart w args) (s.post enc C.prog fn apart fresh handsOn again) := by
  refine returnsInHanded_of_calls own started noInit witness ?_
  intro w tape i _ hsh _ hok hpre _
  obtain ⟨_, _, _, fn', hfn', _, _, _, _, hval⟩ := hok
  have e : fn' = fn := Option.some.inj (hfn'.symm.trans hfn)
  subst e
  obtain ⟨⟨⟨ds, gs, before, hw, _⟩, hx⟩, _⟩ := hpre
  have hw' := DataW.Whole.of_heap (w' := w.forCall tape i) (by rfl) hw
  refine (contract (w.forCall tape i) w.heap.size i.args ds gs before hval hw' (hX _ _ _ (by rfl) hx) hsh).mono fun e W' ⟨v, he, hp⟩ => ?_
  subst he
  exact ChangeSpec.post_blind hp

end Go.Proofs.YtkpabanjlhlmfaaGreatDoor

namespace Go.Proofs.YtkpabanjlhlmfaaGreatDoor.fnExactAllowed
open Go.ChangeShapes Go.WideShapes Go.ChangeAt Go.RowKit
set_option linter.unusedVariables false

theorem own : ownKnob Tryz.prog.godebug = none := by kernel_rfl
theorem laidOut : laidOutB Tryz.prog = true := by kernel_rfl

set_option maxRecDepth 100000 in
set_option maxRecDepth 10000 in
set_option maxHeartbeats 4000000 in
theorem lifted (os : Os) (started : os.Started) (H : Type) (enc : TypeId × Value → H) :
    ReturnsInHanded {} Tryz.checked os 5 .any (fun w args => (Rows.fnExactAllowedSpec.pre enc Tryz.prog Tryz.f5 [] false w args ∧ laidMetH Tryz.prog Rows.fnExactAllowedRow.laid w) ∧ sizedMet enc Tryz.prog Tryz.f5 (OpenSpec.ofChange Rows.fnExactAllowedSpec) false w args)
      (Rows.fnExactAllowedSpec.post enc Tryz.prog Tryz.f5 false true false false) := by
  refine ret_shaped_and (C := Tryz.checked) (X := fun w _ => laidMetH Tryz.prog Rows.fnExactAllowedRow.laid w) (fun _ _ _ hh h => h.of_heap hh) own started (by kernel_rfl) Tryz.func5
    (ChangeSpec.witness_shaped (enc := enc) (C := Tryz.checked) (os := os) (X := fun w _ => laidMetH Tryz.prog Rows.fnExactAllowedRow.laid w) false (World.laidAll Tryz.prog os Rows.fnExactAllowedRow.laid) #[.slice none 0 0, .agg #[.int .i64 0, .slice none 0 0, .slice none 0 0, .int .i64 0, .int .i64 0, .int .i64 0, .int .u64 0, .int .i64 0, .bool false, .int .i64 0, .int .i64 0, .slice none 0 0, .slice none 0 0, .slice none 0 0, .slice none 0 0, .slice none 0 0, .int .i64 0, .int .i64 0, .int .i64 0, .slice none 0 0, .slice none 0 0], .int .i64 0] 8 (World.laidAll_os _ _ _)
      (World.shaped_of_ZipB (by kernel_rfl) (by kernel_rfl)) (by kernel_rfl) (by kernel_rfl) (by kernel_rfl)
      (by rw [MakeChecks.laidMetH_plain _ _ _ (by kernel_rfl)]; exact laidMet_laidAll _ (by kernel_rfl) (by kernel_rfl))) ?_
  intro W base args ds gs before hval0 hW hL hsh
  have hval : ∀ (j : Nat) t v, Tryz.f5.params[j]? = some t → args[j]? = some v → Value.okWide Tryz.prog W .any base t v := hval0
  have hW' := hW
  obtain ⟨p, q, hA0, hV, rfl, hfz, hnd⟩ := hW
  have hA : DataW.TrodAll enc Tryz.prog W 0 (fun _ => true) true Tryz.f5.params.toList args.toList ds p := hA0
  rw [Tryz.params5] at hA hval
  obtain ⟨v0, vs0, d0, ds0, p0, q0, hargs, rfl, rfl, h0, r0⟩ := trodAll_cons hA
  obtain ⟨v1, vs1, d1, ds1, p1, q1, rfl, rfl, rfl, h1, r1⟩ := trodAll_cons r0
  obtain ⟨v2, vs2, d2, ds2, p2, q2, rfl, rfl, rfl, h2, r2⟩ := trodAll_cons r1
  obtain ⟨rfl, rfl, rfl⟩ := trodAll_nil r2
  obtain rfl : args = #[v0, v1, v2] := by cases args; simp_all
  obtain ⟨rfl, rfl⟩ := trodVars_none hV
  obtain ⟨a0, len0, cap0, rfl⟩ := okWide_slice Tryz.underlying54 (hval 0 54 v0 rfl rfl)
  have k0 := h0
  have lt0 : ∀ x ∈ p0, x.block < W.heap.size := by obtain ⟨m, hm⟩ := k0; exact DataW.trod_lt m _ _ _ hm
  obtain ⟨x0, w0⟩ : ∃ xs, ARs W a0 len0 xs := by
    obtain ⟨fuel, hf⟩ := h0
    obtain ⟨a, n, cap, zs, hcs, hz⟩ := open_AllowRules hf
    simp [Value.cells] at hcs
    obtain ⟨rfl, rfl, rfl⟩ := hcs
    exact ⟨zs, hz⟩
  obtain ⟨cs1, rfl, hcs1⟩ := okWide_struct Tryz.underlying34 (hval 1 34 v1 rfl rfl)
  have k1 := h1
  have lt1 : ∀ x ∈ p1, x.block < W.heap.size := by obtain ⟨m, hm⟩ := k1; exact DataW.trod_lt m _ _ _ hm
  obtain ⟨s1, x1, hcells1, w1⟩ : ∃ (s1 : CES) (x1 : CE), cs1.toList = [.int .i64 x1.ser, .slice s1.a1 s1.n1 s1.c1, .slice s1.a2 s1.n2 s1.c2, .int .i64 x1.frm, .int .i64 x1.til, .int .i64 x1.key.1, .int .u64 x1.key.2.1, .int .i64 x1.key.2.2, .bool x1.ca, .int .i64 x1.room, .int .i64 x1.uses, .slice s1.a3 s1.n3 s1.c3, .slice s1.a4 s1.n4 s1.c4, .slice s1.a5 s1.n5 s1.c5, .slice s1.a6 s1.n6 s1.c6, .slice s1.a7 s1.n7 s1.c7, .int .i64 x1.need, .int .i64 x1.nomap, .int .i64 x1.noany, .slice s1.a8 s1.n8 s1.c8, .slice s1.a9 s1.n9 s1.c9] ∧ CER W s1 x1 ∧ U64 (x1.key.2.1) := by
    obtain ⟨fuel, hf⟩ := h1
    exact open_Cert hf
  obtain rfl : cs1 = #[.int .i64 x1.ser, .slice s1.a1 s1.n1 s1.c1, .slice s1.a2 s1.n2 s1.c2, .int .i64 x1.frm, .int .i64 x1.til, .int .i64 x1.key.1, .int .u64 x1.key.2.1, .int .i64 x1.key.2.2, .bool x1.ca, .int .i64 x1.room, .int .i64 x1.uses, .slice s1.a3 s1.n3 s1.c3, .slice s1.a4 s1.n4 s1.c4, .slice s1.a5 s1.n5 s1.c5, .slice s1.a6 s1.n6 s1.c6, .slice s1.a7 s1.n7 s1.c7, .int .i64 x1.need, .int .i64 x1.nomap, .int .i64 x1.noany, .slice s1.a8 s1.n8 s1.c8, .slice s1.a9 s1.n9 s1.c9] := by
    cases cs1; simp_all
  obtain ⟨i2, rfl, rfl, rfl, w2⟩ := open_int Tryz.underlying2 (hval 2 2 v2 rfl rfl) h2
  clear hA0 hval0
  refine (lawAllowed_walk a0 len0 cap0 x0 s1 x1 i2 W (Tryz.laysM145.s1_3 W hsh) w1.2 w0 w1.1).mono fun e W' ⟨he, bel⟩ => ?_
  subst he
  exact ⟨_, rfl, _, _, _, [], _, [], hW', trodAll_mk1 (shut_bool Tryz.underlying4 _), (trodAll_cons_mk (Below.trod laidOut (by kernel_rfl) (of_decide_eq_true (by kernel_rfl)) k0 bel lt0) (trodAll_cons_mk (Below.trod laidOut (by kernel_rfl) (of_decide_eq_true (by kernel_rfl)) k1 bel lt1) (trodAll_cons_mk (shut_int Tryz.underlying2 w2) trodAll_mk0))), rfl, bel.frame _, fun h => by cases h⟩

theorem over : Rows.FnExactAllowedSaid :=
  OpenClaim.holds_of_wide 5 Tryz.f5 rfl rfl rfl rfl rfl rfl rfl ⟨rfl, rfl, rfl, rfl, rfl⟩ rfl rfl rfl rfl rfl (by kernel_rfl) Tryz.func5 (by kernel_rfl)
    (of_decide_eq_true (by kernel_rfl)) (by unfold Func.isWrapper; first | (rw [if_pos (by decide +kernel)]; kernel_rfl) | (rw [if_neg (by decide +kernel)]; exact ⟨rfl, rfl⟩))
    (fun os started H enc _ => lifted os started H enc)

theorem proved : Rows.FnExactAllowedCardSaid :=
  Claim7.holds_tied_plain_at .later [] [.data, .pinned] true (true, "c3741f7f79aa16fb66e4425992f382575839678b7d8fbc332a415e95e3b9299a") false
    over (fun _ h => by cases h) (by kernel_rfl) (fun _ h => by cases h) fnExactAllowed_row_tie rfl ⟨rfl, rfl⟩ (by kernel_rfl) rfl
    (fun f fn hf hfn => by
      obtain rfl : f = 5 := Option.some.inj ((show Tryz.prog.funcNamed Rows.fnExactAllowedRow.func = some 5 by kernel_rfl).symm.trans hf) |>.symm
      obtain rfl : fn = Tryz.f5 := (Option.some.inj (Tryz.func5.symm.trans hfn)).symm
      exact ⟨by kernel_rfl, fun j t ht => by
        rw [Tryz.params5] at ht
        have hm : t ∈ [54, 34, 2] := by simpa using Array.mem_of_getElem? ht
        have hall : ([54, 34, 2].all fun u => !Tryz.prog.wantsStandIn u) = true := by kernel_rfl
        exact (show Tryz.prog.wantsStandIn t = false by simpa using List.all_eq_true.1 hall t hm)⟩)
    (by kernel_rfl)
end Go.Proofs.YtkpabanjlhlmfaaGreatDoor.fnExactAllowed
namespace Go.Proofs.YtkpabanjlhlmfaaGreatDoor
theorem fnExactAllowedCard_holds : Rows.FnExactAllowedCardSaid := fnExactAllowed.proved
#print axioms fnExactAllowedCard_holds
end Go.Proofs.YtkpabanjlhlmfaaGreatDoor

