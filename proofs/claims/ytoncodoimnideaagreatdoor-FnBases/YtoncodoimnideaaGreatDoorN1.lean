import Derived.Test.YtoncodoimnideaaGreatDoorNF
import Derived.Test.YtoncodoimnideaaGreatDoorTouch
import Derived.Handy
import Derived.Deep.RegionWith
namespace Go.Proofs.YtoncodoimnideaaGreatDoor
open Go.RowKit

structure PT where
  attr : Int
  val : ByteArray
instance : Inhabited PT := ⟨⟨0, ByteArray.empty⟩⟩

def ptv (x : PT) : Value := .agg #[.int .i64 x.attr, .string x.val]
def nmv (a : Option Addr) (n c : Nat) : Value := .agg #[.slice a n c]

/-- The two cells of a part from o on. -/
structure Cells2 (w : World) (b o : Nat) (x : PT) : Prop where
  c0 : w.cell? ⟨b, o, none⟩ = some (.int .i64 x.attr)
  c1 : w.cell? ⟨b, o + 1, none⟩ = some (.string x.val)
theorem Cells2.of {w w' : World} {b o : Nat} {x : PT} (h : Cells2 w b o x) (hc : ∀ i, w'.cell? ⟨b, i, none⟩ = w.cell? ⟨b, i, none⟩) : Cells2 w' b o x :=
  ⟨(hc _).trans h.c0, (hc _).trans h.c1⟩

/-- The slice at a reads as these parts. -/
structure Pts (w : World) (a : Option Addr) (n : Nat) (xs : List PT) : Prop where
  len : xs.length = n
  max : n ≤ 9223372036854775807
  get : ∀ k, k < n → ∃ b off, a = some ⟨b, off, none⟩ ∧ b < w.heap.size ∧ Cells2 w b (off + k * 2) (xs.getD k default) ∧ (xs.getD k default).val.size ≤ 9223372036854775807
theorem Pts.kept {w w' : World} {a : Option Addr} {n : Nat} {xs : List PT} (h : Pts w a n xs) (hb : Below w.heap.size w w') : Pts w' a n xs := by
  refine ⟨h.len, h.max, fun k hk => ?_⟩
  obtain ⟨b, off, ha, hlt, hc, hn⟩ := h.get k hk
  exact ⟨b, off, ha, Nat.lt_of_lt_of_le hlt hb.size, hc.of (fun i => hb.cell (p := ⟨b, i, none⟩) hlt), hn⟩

end Go.Proofs.YtoncodoimnideaaGreatDoor
