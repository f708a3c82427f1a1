import Derived.Test.YtpnaopmpiobemaaC7
import Derived.Deep.Slices
import Derived.ChangeArms
import Derived.ChangeSlices
import Derived.WalkKit
import Derived.ProofKit
namespace Go.Proofs.Ytpnaopmpiobemaa
open Go.ChangeShapes Go.WideShapes Go.ChangeAt Go.RowKit

/-- Levels that came in. -/
def IsCs (w : World) (a : Option Addr) (n : Nat) (bss : List (List Int)) : Prop := Rows2 w a n bss ∧ n ≤ 9223372036854775807 ∧ ∀ k, k < n → (bss.getD k []).length ≤ 9223372036854775807
def OpensB (W : World) (y : Option Addr × Nat × Nat × List Int) (cs : List Value) : Prop := cs = [.slice y.1 y.2.1 y.2.2.1] ∧ Row W y.1 y.2.1 y.2.2.2 ∧ y.2.1 ≤ 9223372036854775807 ∧ (y.1 = none → y.2.2.1 = 0)
set_option maxRecDepth 20000 in
theorem open_bits {H : Type} {enc : TypeId × Value → H} {W : World} {fuel : Nat} {cs : List Value} {x : DataW H × List MemPlace} (h : DataW.trod enc Try.prog W 0 (fun _ => true) true fuel 41 cs = some x) : ∃ y, OpensB W y cs := by
  rcases open_ints Try.underlying41 Try.underlying5 (by kernel_rfl) h with ⟨rfl, _⟩ | ⟨a, len, cap, zs, rfl, _, hl, hm, hz, _, hc, hw⟩
  · exact ⟨(none, 0, 0, []), rfl, ⟨rfl, fun k hk => absurd hk (Nat.not_lt_zero _), by simp⟩, by decide, fun _ => rfl⟩
  · have hr : IsRow .u8 W (some a) len cap zs := .inr ⟨a, rfl, hl, hm, by simpa using hz, hc, hw⟩
    exact ⟨(some a, len, cap, zs.take len), rfl, hr.row.1, by unfold maxLen at hm; show len ≤ _; omega, hr.nil⟩
set_option maxRecDepth 20000 in
theorem open_row1 {H : Type} {enc : TypeId × Value → H} {W : World} {fuel : Nat} {cs : List Value} {x : DataW H × List MemPlace} (h : DataW.trod enc Try.prog W 0 (fun _ => true) true fuel 95 cs = some x) : ∃ y, OpensB W y cs := by
  obtain ⟨xs, m, rfl, _, hl, hxl, hf⟩ := DataW.trod_struct Try.underlying95 h
  have hl2 : cs.length = 1 := hl.trans (by kernel_rfl)
  have hx2 : xs.length = 1 := hxl
  obtain ⟨c0, rfl⟩ : ∃ c0, cs = [c0] := by
    match cs, hl2 with
    | [c0], _ => exact ⟨c0, rfl⟩
  obtain ⟨x0, rfl⟩ : ∃ c0, xs = [c0] := by
    match xs, hx2 with
    | [c0], _ => exact ⟨c0, rfl⟩
  have e1 : Try.prog.cellsOf 41 = 1 := by kernel_rfl
  have f0 : DataW.trod enc Try.prog W 0 (fun _ => true) true m 41 ((([c0] : List Value).drop 0).take (Try.prog.cellsOf 41)) = some x0 := hf 0 _ rfl
  rw [e1] at f0
  exact open_bits f0

set_option maxRecDepth 20000 in
theorem open_rowsC {H : Type} {enc : TypeId × Value → H} {W : World} {fuel : Nat} {cs : List Value} {x : DataW H × List MemPlace} (h : DataW.trod enc Try.prog W 0 (fun _ => true) true fuel 33 cs = some x) : ∃ a n c bss, cs = [.slice a n c] ∧ IsCs W a n bss := by
  rcases DataW.trod_slice Try.underlying33 h with ⟨rfl, _⟩ | ⟨a, len, cap, elems, rest, n, rfl, rfl, _, _, hl, hm, hlen, hel, _, _⟩
  · exact ⟨none, 0, 0, [], rfl, ⟨rfl, fun k hk => absurd hk (by omega)⟩, by decide, fun k hk => absurd hk (by omega)⟩
  · have ec : Try.prog.cellsOf 95 = 1 := by kernel_rfl
    rw [ec] at hel
    have each : ∀ i, i < len → ∃ y : Option Addr × Nat × Nat × List Int, ∃ cs', W.cells? 0 (a.add (i * 1)) 1 = some cs' ∧ OpensB W y cs' := by
      intro i hi
      have he := hel i hi
      rw [List.getElem?_eq_getElem (by omega)] at he
      cases hc : W.cells? 0 (a.add (i * 1)) 1 with
      | none => rw [hc] at he; cases he
      | some cs' =>
        rw [hc] at he
        obtain ⟨y, hy⟩ := open_row1 he
        exact ⟨y, cs', rfl, hy⟩
    obtain ⟨y, hy⟩ := Go.Deep.choose_lt each
    have hm' : len ≤ 9223372036854775807 := by unfold maxLen at hm; omega
    have ey : ∀ k, k < len → ((List.range len).map fun k => (y k).2.2.2).getD k [] = (y k).2.2.2 := by intro k hk; simp [hk]
    refine ⟨some a, len, cap, (List.range len).map fun k => (y k).2.2.2, rfl, ⟨by simp, fun k hk => ?_⟩, hm', fun k hk => ?_⟩
    · obtain ⟨cs', hcs, rfl, hrk, hnk, hnn⟩ := hy k hk
      obtain ⟨_, _, hcell⟩ := World.cells?_some hcs
      obtain ⟨b, off, spot⟩ := a
      have h00 := hcell 0 (by omega)
      have hs : spot = none := by
        obtain ⟨cs0, hcs0, hc0, _⟩ := hy 0 (by omega)
        obtain ⟨_, hl0, hcell0⟩ := World.cells?_some hcs0
        have h1 := hcell0 0 (by omega)
        rw [List.getElem?_eq_getElem (by omega)] at h1
        simpa [Addr.add] using World.cell?_spot h1
      subst hs
      rw [Addr.add_lit, Addr.add_lit] at h00
      have h01 : W.cell? ⟨b, off + k, none⟩ = some (.slice (y k).1 (y k).2.1 (y k).2.2.1) := by simpa using h00
      rw [ey k hk]
      exact ⟨b, off, rfl, World.block_lt_of_cell? W _ h01, _, _, _, h01, hrk, hnn⟩
    · obtain ⟨cs', hcs, rfl, hrk, hnk, hnn⟩ := hy k hk
      rw [ey k hk, hrk.len]
      exact hnk

set_option maxRecDepth 20000 in
theorem open_cascade {H : Type} {enc : TypeId × Value → H} {W : World} {fuel : Nat} {cs : List Value} {x : DataW H × List MemPlace} (h : DataW.trod enc Try.prog W 0 (fun _ => true) true fuel 35 cs = some x) : ∃ a n c bss, cs = [.slice a n c] ∧ IsCs W a n bss := by
  obtain ⟨xs, m, rfl, _, hl, hxl, hf⟩ := DataW.trod_struct Try.underlying35 h
  have hl2 : cs.length = 1 := hl.trans (by kernel_rfl)
  have hx2 : xs.length = 1 := hxl
  obtain ⟨c0, rfl⟩ : ∃ c0, cs = [c0] := by
    match cs, hl2 with
    | [c0], _ => exact ⟨c0, rfl⟩
  obtain ⟨x0, rfl⟩ : ∃ c0, xs = [c0] := by
    match xs, hx2 with
    | [c0], _ => exact ⟨c0, rfl⟩
  have e1 : Try.prog.cellsOf 33 = 1 := by kernel_rfl
  have f0 : DataW.trod enc Try.prog W 0 (fun _ => true) true m 33 ((([c0] : List Value).drop 0).take (Try.prog.cellsOf 33)) = some x0 := hf 0 _ rfl
  rw [e1] at f0
  exact open_rowsC f0

end Go.Proofs.Ytpnaopmpiobemaa
