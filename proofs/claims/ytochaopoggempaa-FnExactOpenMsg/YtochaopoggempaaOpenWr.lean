import Derived.Test.YtochaopoggempaaERW
import Derived.Deep.Slices
import Derived.ChangeArms
import Derived.ChangeSlices
import Derived.WalkKit
import Derived.ProofKit
namespace Go.Proofs.Ytochaopoggempaa
open Go.ChangeShapes Go.WideShapes Go.ChangeAt Go.RowKit

set_option maxRecDepth 20000 in
theorem open_Wr {H : Type} {enc : TypeId × Value → H} {W : World} {fuel : Nat} {cs : List Value} {x : DataW H × List MemPlace} (h : DataW.trod enc Try.prog W 0 (fun _ => true) true fuel 113 cs = some x) : ∃ y : Int × Int, cs = [.int .u64 y.1, .int .u64 y.2] ∧ (Lit.int .u64 y.1).wf = true ∧ (Lit.int .u64 y.2).wf = true := by
  obtain ⟨xs, m, rfl, _, hl, hxl, hf⟩ := DataW.trod_struct Try.underlying113 h
  have hl2 : cs.length = 2 := hl.trans (by kernel_rfl)
  have hx2 : xs.length = 2 := hxl
  obtain ⟨c0, c1, rfl⟩ : ∃ c0 c1, cs = [c0, c1] := by
    match cs, hl2 with
    | [c0, c1], _ => exact ⟨c0, c1, rfl⟩
  obtain ⟨x0, x1, rfl⟩ : ∃ c0 c1, xs = [c0, c1] := by
    match xs, hx2 with
    | [c0, c1], _ => exact ⟨c0, c1, rfl⟩
  have e_u64 : Try.prog.cellsOf 23 = 1 := by kernel_rfl
  have f0 : DataW.trod enc Try.prog W 0 (fun _ => true) true m 23 ((([c0, c1] : List Value).drop 0).take (Try.prog.cellsOf 23)) = some x0 := hf 0 _ rfl
  rw [e_u64] at f0
  obtain ⟨n0, g0, _, u0⟩ := DataW.trod_int Try.underlying23 f0
  have f1 : DataW.trod enc Try.prog W 0 (fun _ => true) true m 23 ((([c0, c1] : List Value).drop 1).take (Try.prog.cellsOf 23)) = some x1 := hf 1 _ rfl
  rw [e_u64] at f1
  obtain ⟨n1, g1, _, u1⟩ := DataW.trod_int Try.underlying23 f1
  simp at g0 g1
  subst g0 g1
  exact ⟨(n0, n1), rfl, u0, u1⟩

set_option maxRecDepth 20000 in
theorem open_Wrs {H : Type} {enc : TypeId × Value → H} {W : World} {fuel : Nat} {cs : List Value} {x : DataW H × List MemPlace} (h : DataW.trod enc Try.prog W 0 (fun _ => true) true fuel 56 cs = some x) : ∃ a n c xs, cs = [.slice a n c] ∧ RowWr W a n xs ∧ n ≤ 9223372036854775807 ∧ ∀ j, j < n → True := by
  rcases DataW.trod_slice Try.underlying56 h with ⟨rfl, _⟩ | ⟨a, len, cap, elems, rest, n, rfl, rfl, _, _, hl, hm, hlen, hel, _, _⟩
  · exact ⟨none, 0, 0, [], rfl, ⟨rfl, fun k hk => absurd hk (by omega), UWr.nil⟩, by decide, fun j hj => absurd hj (Nat.not_lt_zero _)⟩
  · have ec : Try.prog.cellsOf 113 = 2 := by kernel_rfl
    rw [ec] at hel
    have each : ∀ i, i < len → ∃ y : Int × Int, ∃ cs', W.cells? 0 (a.add (i * 2)) 2 = some cs' ∧ cs' = [.int .u64 y.1, .int .u64 y.2] ∧ (Lit.int .u64 y.1).wf = true ∧ (Lit.int .u64 y.2).wf = true := by
      intro i hi
      have he := hel i hi
      rw [List.getElem?_eq_getElem (by omega)] at he
      cases hc : W.cells? 0 (a.add (i * 2)) 2 with
      | none => rw [hc] at he; cases he
      | some cs' =>
        rw [hc] at he
        obtain ⟨y, hy⟩ := open_Wr he
        exact ⟨y, cs', rfl, hy⟩
    obtain ⟨y, hy⟩ := Go.Deep.choose_lt each
    have hm' : len ≤ 9223372036854775807 := by unfold maxLen at hm; omega
    have ey : ∀ k, k < len → ((List.range len).map y).getD k (0, 0) = y k := fun k hk => by simp [hk]
    refine ⟨some a, len, cap, (List.range len).map y, rfl, ⟨by simp, fun k hk => ?_, fun k => ?_⟩, hm', fun k hk => ?_⟩
    · obtain ⟨cs', hcs, rfl, _⟩ := hy k hk
      obtain ⟨_, _, hcell⟩ := World.cells?_some hcs
      obtain ⟨b, off, spot⟩ := a
      have hs : spot = none := by
        obtain ⟨cs0, hcs0, _⟩ := hy 0 (by omega)
        obtain ⟨_, hl0, hcell0⟩ := World.cells?_some hcs0
        have h00 := hcell0 0 (by omega)
        rw [List.getElem?_eq_getElem (by omega)] at h00
        simpa [Addr.add] using World.cell?_spot h00
      subst hs
      rw [ey k hk]
      have cc : ∀ j, j < 2 → W.cell? ⟨b, off + k * 2 + j, none⟩ = [Value.int .u64 (y k).1, .int .u64 (y k).2][j]? := by
        intro j hj
        have := hcell j hj
        rw [Addr.add_lit, Addr.add_lit] at this
        exact this
      exact ⟨b, off, rfl, World.block_lt_of_cell? W _ (cc 0 (by omega)), cc 0 (by omega), cc 1 (by omega)⟩
    · by_cases hk : k < len
      · rw [ey k hk]
        obtain ⟨_, _, _, w0, w1⟩ := hy k hk
        exact ⟨bounds_u64 w0, bounds_u64 w1⟩
      · have e2 : ((List.range len).map y).getD k (0, 0) = (0, 0) := by simp [hk]
        rw [e2]; simp [U64]
    · trivial

end Go.Proofs.Ytochaopoggempaa
