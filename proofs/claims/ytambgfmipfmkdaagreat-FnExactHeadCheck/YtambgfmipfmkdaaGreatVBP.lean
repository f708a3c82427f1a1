import Derived.Test.YtambgfmipfmkdaaGreatEPB
namespace Go.Proofs.YtambgfmipfmkdaaGreat
open Go.RowKit

theorem results_kp {fn : Func} {t : Tmp} (h : fn.results = #[.cell t 36]) (tmps : Array Value) (g : Nat) (ht : tmps.getD t undef = .pointer (some ⟨g, 0, none⟩)) (w : World) (c0 c1 c2 : Value)
    (hb : w.heap[g]? = some (.cells #[c0, c1, c2] 36 (0, 0))) : (results fn tmps).run Tryz.prog w = .ok (.agg #[c0, c1, c2]) w := by
  have d0 : w.cell? ⟨g, 0, none⟩ = some c0 := (cell_of_row _ g 0 _ 36 (0, 0) hb).trans rfl
  have d1 : w.cell? ⟨g, 1, none⟩ = some c1 := (cell_of_row _ g 1 _ 36 (0, 0) hb).trans rfl
  have d2 : w.cell? ⟨g, 2, none⟩ = some c2 := (cell_of_row _ g 2 _ 36 (0, 0) hb).trans rfl
  clear hb
  have ht' : tmps[t]?.getD undef = .pointer (some ⟨g, 0, none⟩) := by rw [← ht]; simp
  simp [results, h, go_sem, ht', d0, d1, d2]

set_option maxRecDepth 10000 in
set_option maxHeartbeats 1000000 in
theorem toPub_any (a b c : Int) (w : World) :
    Calls Tryz.prog 9 #[kpv a b c] w fun e w' => e = .returned (kpv a b c) ∧ Below w.heap.size w w' := by
  have b1 : ((((w.alloc (.cells #[.int .i64 a, .int .u64 b, .int .i64 c] 27)).alloc (.cells #[.int .i64 a, .int .u64 b, .int .i64 c] 36)).alloc (.cells #[.int .i64 a, .int .u64 b, .int .i64 c] 36))).heap[w.heap.size + 1]? = some (.cells #[.int .i64 a, .int .u64 b, .int .i64 c] 36) := by
    have s1 : (w.alloc (.cells #[.int .i64 a, .int .u64 b, .int .i64 c] 27)).heap.size = w.heap.size + 1 := by simp
    exact (alloc_oldT _ _ _ (by simp)).trans (by rw [← s1]; exact heap_alloc_new _ _)
  have HB1 : Hid (_ = _) := b1
  clear b1
  unfold kpv
  go_enter Tryz.func9, Tryz.ntmps9
  go_wp2
  try simp only [Exit.inBlock, Exit.then]
  exact bodyPost_ret (results_kp rfl _ (w.heap.size + 1) rfl _ _ _ _ HB1.out) rfl ⟨rfl, (((Below.refl _ _).alloc (Nat.le_refl _) _).alloc (by simp) _).alloc (by simp; omega) _⟩

end Go.Proofs.YtambgfmipfmkdaaGreat
