import Derived.Test.YtglpbgebcpijaaaGreatTT2
namespace Go.Proofs.YtglpbgebcpijaaaGreat
open Go.RowKit

theorem keepT {w w1 w2 : World} (h : Below w.heap.size w w1) (k : Below w1.heap.size w1 w2) : Below w.heap.size w w2 := h.trans (k.mono h.size)
theorem Tryz.infoBytes : (Tryz.prog.info? 35).map (fun i => (i.zero, i.size, i.bytes)) = some (some (.slice none 0 0), 1, 24) := by kernel_rfl
/-- The digest of a word and of digests. -/
def hashD (word : List Int) (ds : List Int) : Int := hashL (partsL (word :: ds.map eightI))
theorem hashD_bd (word ds : List Int) : U64 (hashD word ds) := hashL_bd _
def bytesOfP (ps : List Part) : List (List Int) := ps.map fun p => p.2.2.2
theorem total_parts (word : List Int) (ds : List Int) : total (word :: ds.map eightI) = word.length + 8 * ds.length := by
  unfold total
  rw [List.map_cons, List.sum_cons, List.map_map]
  have : ∀ l : List Int, (l.map (List.length ∘ eightI)).sum = 8 * l.length := by
    intro l
    induction l with
    | nil => rfl
    | cons x r ih => rw [List.map_cons, List.sum_cons, ih, List.length_cons]; simp [eightI_len]; omega
  rw [this]
theorem map_snoc (ds : List Int) (k : Nat) (h : k < ds.length) : (ds.take (k + 1)).map eightI = (ds.take k).map eightI ++ [eightI (ds.getD k 0)] := by rw [take_snoc ds k h, List.map_append]; rfl

end Go.Proofs.YtglpbgebcpijaaaGreat
