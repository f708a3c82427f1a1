import Derived.Test.YtflioloegppnmaaTV5
import Derived.Test.YtflioloegppnmaaTTD
namespace Go.Proofs.Ytflioloegppnmaa
open Go.RowKit

theorem OwnU.mono {B B' : Nat} {w : World} {a : Option Addr} {n cap : Nat} {zs : List Int} (h : OwnU B w a n cap zs) (hB : B' ≤ B) : OwnU B' w a n cap zs :=
  ⟨⟨h.row.1, by rcases h.row.2 with h | ⟨g, cap, cur, hv, hb, r⟩; exact .inl h; exact .inr ⟨g, cap, cur, hv, by omega, r⟩⟩, h.rng⟩
theorem OwnU.set {B : Nat} {w : World} {a : Option Addr} {n cap : Nat} {zs : List Int} (h : OwnU B w a n cap zs) {g : Nat} (hg : g < B) (i : Nat) (v : Value) : OwnU B (w.setCell ⟨g, i, none⟩ v) a n cap zs := by
  refine ⟨⟨h.row.1, ?_⟩, h.rng⟩
  rcases h.row.2 with h | ⟨g', cap', cur, hv, hb, hh, r⟩
  · exact .inl h
  · exact .inr ⟨g', cap', cur, hv, hb, (Below.heap_setCell _ _ _ _ (by simp; omega)).trans hh, r⟩
theorem below_dnT {B : Nat} {w w' : World} (h : Below B w w') (n : Nat) : Below B w (w'.drewN n) := below_dn h n

end Go.Proofs.Ytflioloegppnmaa
