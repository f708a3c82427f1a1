import Derived.Test.YtkngnmnfkedfcaaGreatTV5
import Derived.Test.YtkngnmnfkedfcaaGreatTTD
namespace Go.Proofs.YtkngnmnfkedfcaaGreat
open Go.RowKit

theorem OwnU.mono {B B' : Nat} {w : World} {a : Option Addr} {n cap : Nat} {zs : List Int} (h : OwnU B w a n cap zs) (hB : B' ≤ B) : OwnU B' w a n cap zs :=
  ⟨⟨h.row.1, by rcases h.row.2 with h | ⟨g, cap, cur, hv, hb, r⟩; exact .inl h; exact .inr ⟨g, cap, cur, hv, by omega, r⟩⟩, h.rng⟩
theorem OwnU.set {B : Nat} {w : World} {a : Option Addr} {n cap : Nat} {zs : List Int} (h : OwnU B w a n cap zs) {g : Nat} (hg : g < B) (i : Nat) (v : Value) : OwnU B (w.setCell ⟨g, i, none⟩ v) a n cap zs := by
  refine ⟨⟨h.row.1, ?_⟩, h.rng⟩
  rcases h.row.2 with h | ⟨g', cap', cur, hv, hb, hh, r⟩
  · exact .inl h
  · exact .inr ⟨g', cap', cur, hv, hb, (Below.heap_setCell _ _ _ _ (by simp; omega)).trans hh, r⟩
theorem below_dnT {B : Nat} {w w' : World} (h : Below B w w') (n : Nat) : Below B w (w'.drewN n) := below_dn h n

theorem results_ts {fn : Func} {t : Tmp} (h : fn.results = #[.cell t 89]) (tmps : Array Value) (g : Nat) (ht : tmps.getD t undef = .pointer (some ⟨g, 0, none⟩)) (w : World) (c0 c1 c2 : Value)
    (hb : w.heap[g]? = some (.cells #[c0, c1, c2] 89 (0, 0))) : (results fn tmps).run Tryz.prog w = .ok (.agg #[c0, c1, c2]) w := by
  have d0 : w.cell? ⟨g, 0, none⟩ = some c0 := (cell_of_row _ g 0 _ 89 (0, 0) hb).trans rfl
  have d1 : w.cell? ⟨g, 1, none⟩ = some c1 := (cell_of_row _ g 1 _ 89 (0, 0) hb).trans rfl
  have d2 : w.cell? ⟨g, 2, none⟩ = some c2 := (cell_of_row _ g 2 _ 89 (0, 0) hb).trans rfl
  clear hb
  have ht' : tmps[t]?.getD undef = .pointer (some ⟨g, 0, none⟩) := by rw [← ht]; simp
  simp [results, h, go_sem, ht', d0, d1, d2]

end Go.Proofs.YtkngnmnfkedfcaaGreat
