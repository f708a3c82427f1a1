import Derived.Test.YtoncodoimnideaaGreatDoorBase
import Derived.Test.YtoncodoimnideaaGreatDoorProg
import Derived.Deep.AppendLies
namespace Go.Proofs.YtoncodoimnideaaGreatDoor
open Go.RowKit

theorem cell_one_newS (w : World) (x : Value) (t : TypeId) : ∀ j u, [x][j]? = some u → (w.alloc (.cells #[x] t)).cell? ((⟨w.heap.size, 0, none⟩ : Addr).add j) = some u := by
  intro j u h
  rw [Addr.add_lit, cell_of_row _ w.heap.size (0 + j) _ t (0, 0) (heap_alloc_new w _)]
  simpa using h
theorem ownsS_slice {B : Nat} {w : World} {v : Value} {n : Nat} {xs : List Value} (h : w.ownsRow B 9 1 v n xs) : ∃ a cap, v = .slice a n cap := by
  rcases h.2 with ⟨rfl, rfl⟩ | ⟨g, cap, cur, rfl, _⟩
  · exact ⟨_, _, rfl⟩
  · exact ⟨_, _, rfl⟩
theorem below_appS {B : Nat} {w0 w w1 : World} {v : Value} {n : Nat} {xs : List Value} (hb : Below B w0 w) (hB : B ≤ w.heap.size) (h : w.ownsRow B 9 1 v n xs) (hg : w.grownBy w1 v.ownBlock) : Below B w0 w1 :=
  hb.grown hg hB (fun k hk => (h.lt k hk).1)

theorem Tryz.info9 : (Tryz.prog.info? 9).map (fun i => (i.zero, i.size, i.bytes)) = some (some (.string ByteArray.empty), 1, 16) := by kernel_rfl

/-- A slice of strings that reads as L, in memory of our own. -/
structure Strs (B : Nat) (w : World) (a : Option Addr) (n cap : Nat) (L : List ByteArray) : Prop where
  row : w.ownsRow B 9 1 (.slice a n cap) n (L.map Value.string)
theorem Strs.len {B : Nat} {w : World} {a : Option Addr} {n cap : Nat} {L : List ByteArray} (h : Strs B w a n cap L) : L.length = n := by simpa using h.row.1
theorem Strs.kept {B : Nat} {w w' : World} {a : Option Addr} {n cap : Nat} {L : List ByteArray} (h : Strs B w a n cap L) (hb : Below w.heap.size w w') : Strs B w' a n cap L := ⟨ownsRow_below h.row hb⟩
theorem Strs.caps {B : Nat} {w : World} {a : Option Addr} {n cap : Nat} {L : List ByteArray} (h : Strs B w a n cap L) : n ≤ cap ∧ cap ≤ 9223372036854775807 := by
  rcases h.row.2 with ⟨hv, h0⟩ | ⟨g, cap', cur, hv, _, _, h1, h2, _⟩
  · simp only [Value.slice.injEq] at hv
    omega
  · simp only [Value.slice.injEq] at hv
    unfold maxLen at h2
    omega
theorem Strs.get {B : Nat} {w : World} {a : Option Addr} {n cap : Nat} {L : List ByteArray} (h : Strs B w a n cap L) (hn : 0 < n) : ∃ g, a = some ⟨g, 0, none⟩ ∧ g < w.heap.size ∧ ∀ k, k < n → w.cell? ⟨g, k, none⟩ = some (.string (L.getD k ByteArray.empty)) := by
  have hl := h.len
  rcases h.row.2 with ⟨_, h0⟩ | ⟨g, cap', cur, hv, hb, hg, r⟩
  · omega
  · simp only [Value.slice.injEq] at hv
    obtain ⟨rfl, _, rfl⟩ := hv
    refine ⟨g, rfl, (Array.getElem?_eq_some_iff.1 hg).1, fun k hk => ?_⟩
    rw [World.ownsRow.cellAt h.row k (by omega)]
    simp [show k < L.length by omega]

end Go.Proofs.YtoncodoimnideaaGreatDoor
