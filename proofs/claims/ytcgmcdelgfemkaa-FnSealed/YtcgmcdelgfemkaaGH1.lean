import Derived.Test.YtcgmcdelgfemkaaWH8
import Derived.Test.YtcgmcdelgfemkaaGB3GB4
import Derived.Lib.SlBytesConst
import Derived.Laws.Closers25b
namespace Go.Proofs.Ytcgmcdelgfemkaa
open Go.RowKit

/-- Slices that are laid in a literal, side by side. -/
def cellsOf (ps : List (Option Addr × Nat × Nat × List Int)) : Array Value := (ps.map fun p => Value.slice p.1 p.2.1 p.2.2.1).toArray
theorem rows2_lit (w : World) (ps : List (Option Addr × Nat × Nat × List Int)) (T : Nat) (h : ∀ p ∈ ps, Row w p.1 p.2.1 p.2.2.2 ∧ (p.1 = none → p.2.2.1 = 0)) :
    Rows2 (w.alloc (.cells (cellsOf ps) T)) (some ⟨w.heap.size, 0, none⟩) ps.length (ps.map fun p => p.2.2.2) := by
  have hb : Below w.heap.size w (w.alloc (.cells (cellsOf ps) T)) := (Below.refl _ _).alloc (Nat.le_refl _) _
  refine ⟨by simp, fun k hk => ⟨w.heap.size, 0, rfl, by simp, ps[k].1, ps[k].2.1, ps[k].2.2.1, ?_, ?_, (h ps[k] (List.getElem_mem hk)).2⟩⟩
  · rw [Nat.zero_add, cell_of_row _ w.heap.size k _ T _ (heap_alloc_new w _)]
    simp [cellsOf, hk]
  · have e : (ps.map fun p => p.2.2.2).getD k [] = ps[k].2.2.2 := by simp [hk]
    rw [e]
    exact (h ps[k] (List.getElem_mem hk)).1.kept hb
/-- The bytes of a word. -/
def wordC (bs : List Int) : Array Value := (bs.map (Value.int .u8)).toArray
theorem row_word (w : World) (bs : List Int) (fr : Nat × Nat) (h : ∀ k, 0 ≤ bs.getD k 0 ∧ bs.getD k 0 ≤ 255) : Row (w.alloc (.cells (wordC bs) 5 fr)) (some ⟨w.heap.size, 0, none⟩) bs.length bs := by
  refine ⟨rfl, fun k hk => ⟨w.heap.size, 0, rfl, by simp, ?_⟩, h⟩
  rw [Nat.zero_add, cell_of_row _ w.heap.size k _ 5 _ (heap_alloc_new w _)]
  simp [wordC, hk]
theorem bytes_of_all {bs : List Int} (h : ∀ x ∈ bs, 0 ≤ x ∧ x ≤ 255) : ∀ k, 0 ≤ bs.getD k 0 ∧ bs.getD k 0 ≤ 255 := by
  intro k
  rw [List.getD_eq_getElem?_getD]
  by_cases hk : k < bs.length
  · rw [List.getElem?_eq_getElem hk]; exact h _ (List.getElem_mem hk)
  · rw [List.getElem?_eq_none (by omega)]; simp

theorem hashL_bd (bs : List Int) : 0 ≤ hashL bs ∧ hashL bs ≤ 18446744073709551615 :=
  ⟨(bits_within .xor .u64 _ _).1, (bits_within .xor .u64 _ _).2⟩
def chW : List Int := [99, 104, 97, 108, 108, 101, 110, 103, 101]
theorem chW_byte : ∀ k, 0 ≤ chW.getD k 0 ∧ chW.getD k 0 ≤ 255 := bytes_of_all (by decide)
def chalN (r y : Int) (ms : List Int) : Int := hashL (partsL [chW, putI r, putI y, ms]) % 500000003
theorem chal_total (r y : Int) (ms : List Int) (hr : r ≤ 9223372036854775807) (hy : y ≤ 9223372036854775807) (hn : ms.length ≤ 1048576) : total [chW, putI r, putI y, ms] ≤ 2097152 := by
  have h1 := putI_len r hr
  have h2 := putI_len y hy
  simp [total, chW]
  omega

end Go.Proofs.Ytcgmcdelgfemkaa
