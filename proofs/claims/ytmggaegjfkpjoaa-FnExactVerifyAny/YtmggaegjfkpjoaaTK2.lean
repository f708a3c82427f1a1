import Derived.Test.YtmggaegjfkpjoaaTK1
import Derived.Test.YtmggaegjfkpjoaaTTD
namespace Go.Proofs.Ytmggaegjfkpjoaa
open Go.RowKit

theorem results_kp {fn : Func} {t : Tmp} (h : fn.results = #[.cell t 56]) (tmps : Array Value) (g : Nat) (ht : tmps.getD t undef = .pointer (some ⟨g, 0, none⟩)) (w : World) (c0 c1 c2 : Value)
    (hb : w.heap[g]? = some (.cells #[c0, c1, c2] 56 (0, 0))) : (results fn tmps).run Try.prog w = .ok (.agg #[c0, c1, c2]) w := by
  have d0 : w.cell? ⟨g, 0, none⟩ = some c0 := (cell_of_row _ g 0 _ 56 (0, 0) hb).trans rfl
  have d1 : w.cell? ⟨g, 1, none⟩ = some c1 := (cell_of_row _ g 1 _ 56 (0, 0) hb).trans rfl
  have d2 : w.cell? ⟨g, 2, none⟩ = some c2 := (cell_of_row _ g 2 _ 56 (0, 0) hb).trans rfl
  clear hb
  have ht' : tmps[t]?.getD undef = .pointer (some ⟨g, 0, none⟩) := by rw [← ht]; simp
  simp [results, h, go_sem, ht', d0, d1, d2]

set_option maxRecDepth 10000 in
set_option maxHeartbeats 1000000 in
theorem toPub_any (a b c : Int) (w : World) :
    Calls Try.prog 28 #[kpv a b c] w fun e w' => e = .returned (kpv a b c) ∧ Below w.heap.size w w' := by
  have b1 : ((((w.alloc (.cells #[.int .i64 a, .int .u64 b, .int .i64 c] 54)).alloc (.cells #[.int .i64 a, .int .u64 b, .int .i64 c] 56)).alloc (.cells #[.int .i64 a, .int .u64 b, .int .i64 c] 56))).heap[w.heap.size + 1]? = some (.cells #[.int .i64 a, .int .u64 b, .int .i64 c] 56) := by
    have s1 : (w.alloc (.cells #[.int .i64 a, .int .u64 b, .int .i64 c] 54)).heap.size = w.heap.size + 1 := by simp
    exact (alloc_oldT _ _ _ (by simp)).trans (by rw [← s1]; exact heap_alloc_new _ _)
  have HB1 : Hid (_ = _) := b1
  clear b1
  unfold kpv
  go_enter Try.func28, Try.ntmps28
  go_wp2
  try simp only [Exit.inBlock, Exit.then]
  exact bodyPost_ret (results_kp rfl _ (w.heap.size + 1) rfl _ _ _ _ HB1.out) rfl ⟨rfl, (((Below.refl _ _).alloc (Nat.le_refl _) _).alloc (by simp) _).alloc (by simp; omega) _⟩

set_option maxRecDepth 10000 in
set_option maxHeartbeats 2000000 in
theorem lawKeyId_walk (sc y h : Int) (w : World) (hx : U64 y) (hl : sc ≤ 9223372036854775807) (hd : h ≤ 9223372036854775807) :
    Calls Try.prog 7 #[kpv sc y h] w fun e w' => e = .returned (.bool true) ∧ Below w.heap.size w w' := by
  obtain ⟨wb, hwb⟩ : ∃ wb, wb = w.alloc (.cells #[.int .i64 sc, .int .u64 y, .int .i64 h] 54) := ⟨_, rfl⟩
  have hbb : Below w.heap.size w wb := by rw [hwb]; exact (Below.refl _ _).alloc (Nat.le_refl _) _
  have HXD : ∀ w7, Below wb.heap.size wb w7 → w7.cell? ⟨w.heap.size, 0, none⟩ = some (.int .i64 sc) ∧ w7.cell? ⟨w.heap.size, 1, none⟩ = some (.int .u64 y) ∧ w7.cell? ⟨w.heap.size, 2, none⟩ = some (.int .i64 h) := by
    intro w7 h7
    have hbx : w7.heap[w.heap.size]? = some (.cells #[.int .i64 sc, .int .u64 y, .int .i64 h] 54) := (h7.block _ (by rw [hwb]; simp)).trans (by rw [hwb]; exact heap_alloc_new w _)
    exact ⟨(cell_of_row _ w.heap.size 0 _ 54 (0, 0) hbx).trans rfl, (cell_of_row _ w.heap.size 1 _ 54 (0, 0) hbx).trans rfl, (cell_of_row _ w.heap.size 2 _ 54 (0, 0) hbx).trans rfl⟩
  have HWB : Hid (_ = _) := hwb
  clear hwb
  rw [kpv]
  go_enter Try.func7, Try.ntmps7
  go_upto_region 1 with fail
  rw [← HWB.out]
  clear HWB
  obtain ⟨q0, q1, q2⟩ := HXD _ (Below.refl _ _)
  go_wp2_with fail
  refine (toPub_any sc y h _).mono ?_
  rintro e w2 ⟨rfl, hb2⟩
  clear q0 q1 q2
  go_wp2_with fail
  refine (specKeyId_any sc y h _ hx hl hd).mono ?_
  rintro e w3 ⟨rfl, hb3⟩
  obtain ⟨v, hv⟩ : ∃ v, v = kidN sc y h := ⟨_, rfl⟩
  have HT : Hid (kidN sc y h = v) := hv.symm
  rw [← hv]
  clear hv
  have hb37 := keepT hb2 hb3
  obtain ⟨q0, q1, q2⟩ := HXD _ hb37
  go_wp2_with fail
  refine (toPub_any sc y h _).mono ?_
  rintro e w4 ⟨rfl, hb4⟩
  clear q0 q1 q2
  go_wp2_with fail
  refine (implKeyId_any sc y h _ hx hl hd).mono ?_
  rintro e w5 ⟨rfl, hb5⟩
  rw [HT.out]
  have hb57 := keepT hb37 (keepT hb4 hb5)
  have z1 : (v != v) = false := by simp
  go_wp2
  go_ret
  exact ⟨rfl, keepT hbb hb57⟩

end Go.Proofs.Ytmggaegjfkpjoaa
