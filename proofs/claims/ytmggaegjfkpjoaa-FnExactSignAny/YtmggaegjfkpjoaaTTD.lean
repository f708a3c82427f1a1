import Derived.Test.YtmggaegjfkpjoaaTTC
namespace Go.Proofs.Ytmggaegjfkpjoaa
open Go.RowKit

theorem results_tk {fn : Func} {t : Tmp} (h : fn.results = #[.cell t 29]) (tmps : Array Value) (g : Nat) (ht : tmps.getD t undef = .pointer (some ⟨g, 0, none⟩)) (w : World) (c0 c1 c2 : Value)
    (hb : w.heap[g]? = some (.cells #[c0, c1, c2] 29 (0, 0))) : (results fn tmps).run Try.prog w = .ok (.agg #[c0, c1, c2]) w := by
  have d0 : w.cell? ⟨g, 0, none⟩ = some c0 := (cell_of_row _ g 0 _ 29 (0, 0) hb).trans rfl
  have d1 : w.cell? ⟨g, 1, none⟩ = some c1 := (cell_of_row _ g 1 _ 29 (0, 0) hb).trans rfl
  have d2 : w.cell? ⟨g, 2, none⟩ = some c2 := (cell_of_row _ g 2 _ 29 (0, 0) hb).trans rfl
  clear hb
  have ht' : tmps[t]?.getD undef = .pointer (some ⟨g, 0, none⟩) := by rw [← ht]; simp
  simp [results, h, go_sem, ht', d0, d1, d2]
theorem alloc_oldT (w : World) (o : Obj) (g : Nat) (hg : g < w.heap.size) : (w.alloc o).heap[g]? = w.heap[g]? := ((Below.refl w.heap.size w).alloc (Nat.le_refl _) o).block g hg

set_option maxRecDepth 10000 in
set_option maxHeartbeats 1000000 in
theorem toTreeKey_any (a b c : Int) (w : World) :
    Calls Try.prog 9 #[tkv a b c] w fun e w' => e = .returned (tkv a b c) ∧ Below w.heap.size w w' := by
  have b1 : ((((w.alloc (.cells #[.int .u64 a, .int .i64 b, .int .i64 c] 24)).alloc (.cells #[.int .u64 a, .int .i64 b, .int .i64 c] 29)).alloc (.cells #[.int .u64 a, .int .i64 b, .int .i64 c] 29))).heap[w.heap.size + 1]? = some (.cells #[.int .u64 a, .int .i64 b, .int .i64 c] 29) := by
    have s1 : (w.alloc (.cells #[.int .u64 a, .int .i64 b, .int .i64 c] 24)).heap.size = w.heap.size + 1 := by simp
    exact (alloc_oldT _ _ _ (by simp)).trans (by rw [← s1]; exact heap_alloc_new _ _)
  have HB1 : Hid (_ = _) := b1
  clear b1
  unfold tkv
  go_enter Try.func9, Try.ntmps9
  go_wp2
  try simp only [Exit.inBlock, Exit.then]
  exact bodyPost_ret (results_tk rfl _ (w.heap.size + 1) rfl _ _ _ _ HB1.out) rfl ⟨rfl, (((Below.refl _ _).alloc (Nat.le_refl _) _).alloc (by simp) _).alloc (by simp; omega) _⟩

end Go.Proofs.Ytmggaegjfkpjoaa
