import Derived.Test.YtbfjkmlmnhphoaaDoorCO8
import Derived.Maps.OwnSet
import Derived.Maps.Views
set_option linter.unusedVariables false
namespace Go.Proofs.YtbfjkmlmnhphoaaDoor
open Go.RowKit Go.Maps

theorem laidOutP : laidOutB Tryd.prog = true := by kernel_rfl
theorem kRow : (99 : TypeId) < Tryd.prog.types.size := of_decide_eq_true (by kernel_rfl)
theorem kWide : (match Tryd.prog.underlying 99 with | some (.array _ _) | some (.struct _) => true | _ => false) = true := by rw [Tryd.underlying99]
set_option maxRecDepth 20000 in
theorem kLaw : Keyed Tryd.prog 99 := Keyed.of_law (deep_law_laid laidOutP (m := 2) (by omega) kRow (by kernel_rfl) kWide)
theorem kCells : Tryd.prog.cellsOf 99 = 2 := by kernel_rfl
theorem kCell2 : Tryd.prog.cellsOf 2 = 1 := by kernel_rfl
theorem kCell9 : Tryd.prog.cellsOf 9 = 1 := by kernel_rfl
theorem kType : Tryd.prog.keyType 99 = true := by kernel_rfl
theorem pos_succ {a n : Nat} (h : a < n) : ∃ m, n = m + 1 := ⟨n - 1, by omega⟩
set_option maxRecDepth 20000 in
theorem kSize : ∃ m, Tryd.prog.types.size = m + 1 := pos_succ (a := 99) kRow
/-- A name's text and a serial as a key. -/
def kl (s : ByteArray) (n : Int) : Lit := .string (keyBytes [.string s.data.toList, .int .i64 n])
theorem key_is {s : ByteArray} {n : Int} (hs : s.size ≤ maxLen) (hn : (Lit.int .i64 n).wf = true) : Go.keyOf Tryd.prog 99 (.agg #[.string s, .int .i64 n]) = some (kl s n) := by
  obtain ⟨m, hm⟩ := kSize
  unfold Go.keyOf
  rw [Tryd.underlying99]
  have hf : (Value.agg #[.string s, .int .i64 n]).formed Tryd.prog 99 = true := by simp [Value.formed, Tryd.underlying99, kCells]
  simp only [kType, hf, Bool.and_self, if_true]
  have h1 : Tryd.prog.keyLits (m + 1) 9 [.string s] = some [.string s.data.toList] := by simp [Program.keyLits, Tryd.underlying9, hs]
  have h2 : Tryd.prog.keyLits (m + 1) 2 [.int .i64 n] = some [.int .i64 n] := by simp [Program.keyLits, Tryd.underlying2, hn]
  have h3 : Tryd.prog.keyLits (m + 1 + 1) 99 [.string s, .int .i64 n] = some [.string s.data.toList, .int .i64 n] := by
    unfold Program.keyLits
    simp only [Tryd.underlying99]
    simp [kCells, kCell2, kCell9, h1, h2]
  have hc : (Value.agg #[.string s, .int .i64 n]).cells.toList = [.string s, .int .i64 n] := by simp [Value.cells]
  rw [hm, hc, h3]
  rfl
theorem key_inj {s t : ByteArray} {m n : Int} (hs : s.size ≤ maxLen) (ht : t.size ≤ maxLen) (hm : (Lit.int .i64 m).wf = true) (hn : (Lit.int .i64 n).wf = true) (h : kl s m = kl t n) : s = t ∧ m = n := by
  have h1 := key_is hs hm
  have h2 := key_is ht hn
  rw [h] at h1
  have := kLaw.inj h1 h2
  simpa using this
theorem isKey {s : ByteArray} {n : Int} (hs : s.size ≤ maxLen) (hn : (Lit.int .i64 n).wf = true) : WideAt.IsKeyLit (kl s n) := kLaw.key (key_is hs hn)

end Go.Proofs.YtbfjkmlmnhphoaaDoor
