import Derived.Test.YtilnjkbacaclbaaGreatDoorGN3
namespace Go.Proofs.YtilnjkbacaclbaaGreatDoor
open Go.RowKit

/-- A general name: what it holds. -/
structure GE where
  g : GT
  parts : List PT
instance : Inhabited GE := ⟨⟨⟨0, ⟨#[]⟩, 0, 0⟩, []⟩⟩
/-- Its five cells from o on. -/
structure Cells5 (w : World) (b o : Nat) (an : Option Addr) (nn cn : Nat) (x : GE) : Prop where
  c0 : w.cell? ⟨b, o, none⟩ = some (.int .i64 x.g.kind)
  c1 : w.cell? ⟨b, o + 1, none⟩ = some (.string x.g.text)
  c2 : w.cell? ⟨b, o + 2, none⟩ = some (.int .i64 x.g.addr)
  c3 : w.cell? ⟨b, o + 3, none⟩ = some (.int .i64 x.g.bits)
  c4 : w.cell? ⟨b, o + 4, none⟩ = some (.slice an nn cn)
theorem Cells5.of {w w' : World} {b o : Nat} {a : Option Addr} {n c : Nat} {x : GE} (h : Cells5 w b o a n c x) (hc : ∀ i, w'.cell? ⟨b, i, none⟩ = w.cell? ⟨b, i, none⟩) : Cells5 w' b o a n c x :=
  ⟨(hc _).trans h.c0, (hc _).trans h.c1, (hc _).trans h.c2, (hc _).trans h.c3, (hc _).trans h.c4⟩
/-- The slice at a reads as these general names. -/
structure Ges (w : World) (a : Option Addr) (n : Nat) (xs : List GE) : Prop where
  len : xs.length = n
  max : n ≤ 9223372036854775807
  get : ∀ k, k < n → ∃ b off an nn cn, a = some ⟨b, off, none⟩ ∧ b < w.heap.size ∧ Cells5 w b (off + k * 5) an nn cn (xs.getD k default) ∧ Pts w an nn (xs.getD k default).parts ∧ (xs.getD k default).g.text.size ≤ 9223372036854775807
theorem Ges.kept {w w' : World} {a : Option Addr} {n : Nat} {xs : List GE} (h : Ges w a n xs) (hb : Below w.heap.size w w') : Ges w' a n xs := by
  refine ⟨h.len, h.max, fun k hk => ?_⟩
  obtain ⟨b, off, an, nn, cn, ha, hlt, hc, hp, hs⟩ := h.get k hk
  exact ⟨b, off, an, nn, cn, ha, Nat.lt_of_lt_of_le hlt hb.size, hc.of (fun i => hb.cell (p := ⟨b, i, none⟩) hlt), hp.kept hb, hs⟩
/-- It is small. -/
def GeOk (x : GE) : Prop := x.g.text.size ≤ 1048576 ∧ x.parts.length ≤ 1048576 ∧ ∀ k, k < x.parts.length → (x.parts.getD k default).val.size ≤ 1048576

end Go.Proofs.YtilnjkbacaclbaaGreatDoor
