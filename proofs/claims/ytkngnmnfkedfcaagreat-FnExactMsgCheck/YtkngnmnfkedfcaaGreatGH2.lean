import Derived.Test.YtkngnmnfkedfcaaGreatGH1
import Derived.Test.YtkngnmnfkedfcaaGreatGS
namespace Go.Proofs.YtkngnmnfkedfcaaGreat
open Go.RowKit

def noW : List Int := [110, 111, 110, 99, 101]
theorem noW_byte : ∀ k, 0 ≤ noW.getD k 0 ∧ noW.getD k 0 ≤ 255 := bytes_of_all (by decide)
def nonN (x : Int) (ms : List Int) : Int := 1 + hashL (partsL [noW, putI x, ms]) % 500000002
theorem non_total (x : Int) (ms : List Int) (hr : x ≤ 9223372036854775807) (hn : ms.length ≤ 1048576) : total [noW, putI x, ms] ≤ 2097152 := by
  have h1 := putI_len x hr
  simp [total, noW]
  omega
theorem nonN_bd (x : Int) (ms : List Int) : 1 ≤ nonN x ms ∧ nonN x ms ≤ 500000002 := by unfold nonN; omega
theorem chalN_bd (r y : Int) (ms : List Int) : 0 ≤ chalN r y ms ∧ chalN r y ms ≤ 500000002 := by unfold chalN; omega
theorem keyOf_bd (x : Int) : 0 ≤ keyOf x ∧ keyOf x ≤ 1000000006 := by
  unfold keyOf
  split
  · have := gp_bd 4 x; omega
  · decide
def sigE (x : Int) (ms : List Int) : Int := chalN (gp 4 (nonN x ms)) (keyOf x) ms
def signR (x : Int) (ms : List Int) : (Int × Int) × Bool := if secP x then ((sigE x ms, (nonN x ms + sigE x ms * x) % 500000003), true) else ((0, 0), false)

theorem keep_first {w w1 w2 : World} (h : Below w.heap.size w w1) (k : Below w1.heap.size w1 w2) : Below w.heap.size w w2 := h.trans (k.mono h.size)

end Go.Proofs.YtkngnmnfkedfcaaGreat
