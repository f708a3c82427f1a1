import Derived.Test.YtoncodoimnideaaGreatDoorN5
namespace Go.Proofs.YtoncodoimnideaaGreatDoor
open Go.RowKit

/-- A general name without its parts. -/
structure GT where
  kind : Int
  text : ByteArray
  addr : Int
  bits : Int
def gnv (g : GT) (a : Option Addr) (n c : Nat) : Value := .agg #[.int .i64 g.kind, .string g.text, .int .i64 g.addr, .int .i64 g.bits, .slice a n c]

theorem results_gn {fn : Func} {t : Tmp} (h : fn.results = #[.cell t 30]) (tmps : Array Value) (g : Nat) (ht : tmps.getD t undef = .pointer (some ⟨g, 0, none⟩)) (w : World) (c0 c1 c2 c3 c4 : Value)
    (hb : w.heap[g]? = some (.cells #[c0, c1, c2, c3, c4] 30 (0, 0))) : (results fn tmps).run Tryz.prog w = .ok (.agg #[c0, c1, c2, c3, c4]) w := by
  have d0 : w.cell? ⟨g, 0, none⟩ = some c0 := (cell_of_row _ g 0 _ 30 (0, 0) hb).trans rfl
  have d1 : w.cell? ⟨g, 1, none⟩ = some c1 := (cell_of_row _ g 1 _ 30 (0, 0) hb).trans rfl
  have d2 : w.cell? ⟨g, 2, none⟩ = some c2 := (cell_of_row _ g 2 _ 30 (0, 0) hb).trans rfl
  have d3 : w.cell? ⟨g, 3, none⟩ = some c3 := (cell_of_row _ g 3 _ 30 (0, 0) hb).trans rfl
  have d4 : w.cell? ⟨g, 4, none⟩ = some c4 := (cell_of_row _ g 4 _ 30 (0, 0) hb).trans rfl
  clear hb
  have ht' : tmps[t]?.getD undef = .pointer (some ⟨g, 0, none⟩) := by rw [← ht]; simp
  simp [results, h, go_sem, ht', d0, d1, d2, d3, d4]

end Go.Proofs.YtoncodoimnideaaGreatDoor
