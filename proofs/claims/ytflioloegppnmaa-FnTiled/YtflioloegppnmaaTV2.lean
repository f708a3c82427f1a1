import Derived.Test.YtflioloegppnmaaTV1
namespace Go.Proofs.Ytflioloegppnmaa
open Go.RowKit

theorem cell_one64 (w : World) (x : Int) : ∀ jj uu, ([x].map (Value.int .i64))[jj]? = some uu → (w.alloc (.cells #[.int .i64 x] 2)).cell? ((⟨w.heap.size, 0, none⟩ : Addr).add jj) = some uu := by
  intro jj uu hju
  rw [Addr.add_lit, Nat.zero_add, cell_of_row _ w.heap.size jj _ 2 _ (heap_alloc_new w _), ← hju]
  simp
theorem cell_two64 (w : World) (x y : Int) : ∀ jj uu, ([x, y].map (Value.int .i64))[jj]? = some uu → (w.alloc (.cells #[.int .i64 x, .int .i64 y] 2)).cell? ((⟨w.heap.size, 0, none⟩ : Addr).add jj) = some uu := by
  intro jj uu hju
  rw [Addr.add_lit, Nat.zero_add, cell_of_row _ w.heap.size jj _ 2 _ (heap_alloc_new w _), ← hju]
  simp
theorem slice_of_owns {B : Nat} {w : World} {v : Value} {n : Nat} {xs : List Value} {t : TypeId} (h : w.ownsRow B t 1 v n xs) : ∃ a cap, v = .slice a n cap := by
  rcases h.2 with ⟨rfl, rfl⟩ | ⟨g, cap, cur, rfl, _⟩
  · exact ⟨_, _, rfl⟩
  · exact ⟨_, _, rfl⟩
theorem row64_of_owns {B : Nat} {w : World} {a : Option Addr} {n cap : Nat} {zs : List Int} (h : w.ownsRow B 2 1 (.slice a n cap) n (zs.map (Value.int .i64))) : Row64 w a n zs := by
  have hl : zs.length = n := by simpa using h.1
  refine ⟨hl, fun k hk => ?_⟩
  rcases h.2 with ⟨_, h0⟩ | ⟨g, cap', cur, hv, hb, hg, r⟩
  · omega
  · simp only [Value.slice.injEq] at hv
    obtain ⟨rfl, _, rfl⟩ := hv
    refine ⟨g, 0, rfl, (Array.getElem?_eq_some_iff.1 hg).1, ?_⟩
    rw [Nat.zero_add, World.ownsRow.cellAt h k (by omega)]
    simp [show k < zs.length by omega]
theorem pow_16 (k : Nat) : (2 : Int) ^ (4 * k) = (16 : Int) ^ k := by rw [Int.pow_mul]; rfl

end Go.Proofs.Ytflioloegppnmaa
