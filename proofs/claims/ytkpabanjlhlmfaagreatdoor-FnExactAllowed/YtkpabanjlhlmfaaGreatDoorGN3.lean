import Derived.Test.YtkpabanjlhlmfaaGreatDoorN5
namespace Go.Proofs.YtkpabanjlhlmfaaGreatDoor
open Go.RowKit

/-- A general name without its parts. -/
structure GT where
  kind : Int
  text : ByteArray
  addr : Int
  bits : Int
def gnv (g : GT) (a : Option Addr) (n c : Nat) : Value := .agg #[.int .i64 g.kind, .string g.text, .int .i64 g.addr, .int .i64 g.bits, .slice a n c]

theorem results_gn {fn : Func} {t : Tmp} (h : fn.results = #[.cell t 96]) (tmps : Array Value) (g : Nat) (ht : tmps.getD t undef = .pointer (some ⟨g, 0, none⟩)) (w : World) (c0 c1 c2 c3 c4 : Value)
    (hb : w.heap[g]? = some (.cells #[c0, c1, c2, c3, c4] 96 (0, 0))) : (results fn tmps).run Tryz.prog w = .ok (.agg #[c0, c1, c2, c3, c4]) w := by
  have d0 : w.cell? ⟨g, 0, none⟩ = some c0 := (cell_of_row _ g 0 _ 96 (0, 0) hb).trans rfl
  have d1 : w.cell? ⟨g, 1, none⟩ = some c1 := (cell_of_row _ g 1 _ 96 (0, 0) hb).trans rfl
  have d2 : w.cell? ⟨g, 2, none⟩ = some c2 := (cell_of_row _ g 2 _ 96 (0, 0) hb).trans rfl
  have d3 : w.cell? ⟨g, 3, none⟩ = some c3 := (cell_of_row _ g 3 _ 96 (0, 0) hb).trans rfl
  have d4 : w.cell? ⟨g, 4, none⟩ = some c4 := (cell_of_row _ g 4 _ 96 (0, 0) hb).trans rfl
  clear hb
  have ht' : tmps[t]?.getD undef = .pointer (some ⟨g, 0, none⟩) := by rw [← ht]; simp
  simp [results, h, go_sem, ht', d0, d1, d2, d3, d4]

set_option maxRecDepth 10000 in
set_option maxHeartbeats 1000000 in
theorem szGenName_any (g : GT) (a : Option Addr) (n c : Nat) (xs : List PT) (lf : Int) (w : World) (h : Pts w a n xs) (hg : g.text.size ≤ 9223372036854775807) (hl0 : 0 ≤ lf) (hl1 : lf ≤ 1048576) :
    Calls Tryz.prog 52 #[gnv g a n c, .int .i64 lf] w fun e w' => ∃ r, e = .returned (.int .i64 r) ∧ (r < 0 ∨ (0 ≤ r ∧ r ≤ 1048576 ∧ g.text.size ≤ 1048576 ∧ n ≤ 1048576 ∧ ∀ k, k < n → (xs.getD k default).val.size ≤ 1048576)) ∧ Below w.heap.size w w' := by
  unfold gnv
  have H0 : Hid (Pts w a n xs) := h
  clear h
  have hbl : Below w.heap.size w (w.alloc (.cells #[.int .i64 g.kind, .string g.text, .int .i64 g.addr, .int .i64 g.bits, .slice a n c] 93)) := (Below.refl _ _).alloc (Nat.le_refl _) _
  by_cases hlt : (g.text.size : Int) ≤ lf
  · go_enter Tryz.func52, Tryz.ntmps52
    go_wp2_with fail
    refine (szName_any a n c xs (lf - g.text.size) _ (H0.out.kept hbl) (by omega) (by omega)).mono ?_
    rintro e w1 ⟨r, rfl, hr, hb1⟩
    have B1 : Below w.heap.size w w1 := hbl.trans (hb1.mono hbl.size)
    by_cases hneg : r < 0
    · clear hr
      go_wp2
      go_ret
      exact ⟨_, rfl, .inl (by decide), B1⟩
    · have hr2 : 0 ≤ r ∧ r ≤ 1048576 := by omega
      have HR : Hid (n ≤ 1048576 ∧ ∀ k, k < n → (xs.getD k default).val.size ≤ 1048576) := by rcases hr with h | h; exact absurd h hneg; exact h.2.2
      clear hr
      go_wp2
      go_ret
      exact ⟨_, rfl, .inr ⟨hr2.1, hr2.2, by omega, HR.out.1, HR.out.2⟩, B1⟩
  · go_enter Tryz.func52, Tryz.ntmps52
    go_wp2
    go_ret
    exact ⟨_, rfl, .inl (by decide), hbl⟩

set_option maxRecDepth 10000 in
set_option maxHeartbeats 2000000 in
theorem toGenName_at (g : GT) (a : Option Addr) (n c : Nat) (xs : List PT) (w : World) (h : Pts w a n xs) (hn : n ≤ 1048576) :
    Calls Tryz.prog 55 #[gnv g a n c] w fun e w' => ∃ g', e = .returned (gnv g (some ⟨g', 0, none⟩) n n) ∧ w.heap.size < g' ∧ Pts w' (some ⟨g', 0, none⟩) n xs ∧ Below w.heap.size w w' := by
  have HK : Hid (Pts w a n xs) := h
  clear h
  unfold gnv
  go_enter Tryz.func55, Tryz.ntmps55
  go_wp2_with fail
  obtain ⟨W0, hW0⟩ : ∃ W0, W0 = (((w.alloc (.cells #[.int .i64 g.kind, .string g.text, .int .i64 g.addr, .int .i64 g.bits, .slice a n c] 93)).alloc (.cells #[.int .i64 0, .string ⟨#[]⟩, .int .i64 0, .int .i64 0, .slice none 0 0] 96)).alloc (.cells #[.int .i64 g.kind, .string g.text, .int .i64 g.addr, .int .i64 g.bits, .slice none 0 0] 96)) := ⟨_, rfl⟩
  have hB0 : Below w.heap.size w W0 := by rw [hW0]; exact three_below _ _ _ _
  have hS0 : W0.heap.size = w.heap.size + 3 := by rw [hW0]; simp
  obtain ⟨_, b1, b2⟩ := three_blocks' w (.cells #[.int .i64 g.kind, .string g.text, .int .i64 g.addr, .int .i64 g.bits, .slice a n c] 93) (.cells #[.int .i64 0, .string ⟨#[]⟩, .int .i64 0, .int .i64 0, .slice none 0 0] 96) (.cells #[.int .i64 g.kind, .string g.text, .int .i64 g.addr, .int .i64 g.bits, .slice none 0 0] 96)
  rw [← hW0] at b1 b2
  rw [← hW0]
  clear hW0
  refine (toName_at a n c xs _ (HK.out.kept hB0) hn).mono ?_
  rintro e w1 ⟨g1, rfl, hg1, ho1, hb1⟩
  have hs1 := hb1.size
  replace b1 := heap_kept' hb1 (by omega) b1
  replace b2 := heap_kept' hb1 (by omega) b2
  have hB1 : Below w.heap.size w w1 := hB0.trans (hb1.mono (by omega))
  have cr0 : w1.cell? ⟨w.heap.size + 1 + 1, 0, none⟩ = some (.int .i64 g.kind) := (cell_of_row _ (w.heap.size + 1 + 1) 0 _ 96 (0, 0) b2).trans rfl
  have cr1 : w1.cell? ⟨w.heap.size + 1 + 1, 1, none⟩ = some (.string g.text) := (cell_of_row _ (w.heap.size + 1 + 1) 1 _ 96 (0, 0) b2).trans rfl
  have cr2 : w1.cell? ⟨w.heap.size + 1 + 1, 2, none⟩ = some (.int .i64 g.addr) := (cell_of_row _ (w.heap.size + 1 + 1) 2 _ 96 (0, 0) b2).trans rfl
  have cr3 : w1.cell? ⟨w.heap.size + 1 + 1, 3, none⟩ = some (.int .i64 g.bits) := (cell_of_row _ (w.heap.size + 1 + 1) 3 _ 96 (0, 0) b2).trans rfl
  have cr4 : w1.cell? ⟨w.heap.size + 1 + 1, 4, none⟩ = some (.slice none 0 0) := (cell_of_row _ (w.heap.size + 1 + 1) 4 _ 96 (0, 0) b2).trans rfl
  have fr4 : w1.frozen? ⟨w.heap.size + 1 + 1, 4, none⟩ = false := frozen_of_row w1 (w.heap.size + 1 + 1) 4 _ 96 b2
  have cs0 : w1.cell? ⟨w.heap.size + 1, 0, none⟩ = some (.int .i64 0) := (cell_of_row _ (w.heap.size + 1) 0 _ 96 (0, 0) b1).trans rfl
  have cs1 : w1.cell? ⟨w.heap.size + 1, 1, none⟩ = some (.string ⟨#[]⟩) := (cell_of_row _ (w.heap.size + 1) 1 _ 96 (0, 0) b1).trans rfl
  have cs2 : w1.cell? ⟨w.heap.size + 1, 2, none⟩ = some (.int .i64 0) := (cell_of_row _ (w.heap.size + 1) 2 _ 96 (0, 0) b1).trans rfl
  have cs3 : w1.cell? ⟨w.heap.size + 1, 3, none⟩ = some (.int .i64 0) := (cell_of_row _ (w.heap.size + 1) 3 _ 96 (0, 0) b1).trans rfl
  have cs4 : w1.cell? ⟨w.heap.size + 1, 4, none⟩ = some (.slice none 0 0) := (cell_of_row _ (w.heap.size + 1) 4 _ 96 (0, 0) b1).trans rfl
  have fs0 : w1.frozen? ⟨w.heap.size + 1, 0, none⟩ = false := frozen_of_row w1 (w.heap.size + 1) 0 _ 96 b1
  have fs1 : w1.frozen? ⟨w.heap.size + 1, 1, none⟩ = false := frozen_of_row w1 (w.heap.size + 1) 1 _ 96 b1
  have fs2 : w1.frozen? ⟨w.heap.size + 1, 2, none⟩ = false := frozen_of_row w1 (w.heap.size + 1) 2 _ 96 b1
  have fs3 : w1.frozen? ⟨w.heap.size + 1, 3, none⟩ = false := frozen_of_row w1 (w.heap.size + 1) 3 _ 96 b1
  have fs4 : w1.frozen? ⟨w.heap.size + 1, 4, none⟩ = false := frozen_of_row w1 (w.heap.size + 1) 4 _ 96 b1
  have E1 : Hid (_ = _) := b1
  have OB : Hid (Pts w1 (some ⟨g1, 0, none⟩) n xs) := ho1
  have HB : Hid (Below w.heap.size w w1) := hB1
  have HG : Hid (w.heap.size + 3 ≤ g1) := by show _ ≤ _; omega
  have hsw : w.heap.size + 3 ≤ w1.heap.size := by omega
  clear b1 b2 ho1 hb1 hB0 hB1 hg1 hs1 hS0
  unfold nmv
  go_wp2
  have hgg := HG.out
  have q0 := heap_setCell_other w1 ⟨w.heap.size + 1 + 1, 4, none⟩ (w.heap.size + 1) (.slice (some ⟨g1, 0, none⟩) n n) (by simp)
  have q1 := heap_setCell_same _ (w.heap.size + 1) 0 _ 96 (.int .i64 g.kind) (q0.trans E1.out)
  have q2 := heap_setCell_same _ (w.heap.size + 1) 1 _ 96 (.string g.text) q1
  have q3 := heap_setCell_same _ (w.heap.size + 1) 2 _ 96 (.int .i64 g.addr) q2
  have q4 := heap_setCell_same _ (w.heap.size + 1) 3 _ 96 (.int .i64 g.bits) q3
  have q5 := heap_setCell_same _ (w.heap.size + 1) 4 _ 96 (.slice (some ⟨g1, 0, none⟩) n n) q4
  have tt : Touch (w.heap.size + 1) (w.heap.size + 3) w1 ((((((w1.setCell ⟨w.heap.size + 1 + 1, 4, none⟩ (.slice (some ⟨g1, 0, none⟩) n n)).setCell ⟨w.heap.size + 1, 0, none⟩ (.int .i64 g.kind)).setCell ⟨w.heap.size + 1, 1, none⟩ (.string g.text)).setCell ⟨w.heap.size + 1, 2, none⟩ (.int .i64 g.addr)).setCell ⟨w.heap.size + 1, 3, none⟩ (.int .i64 g.bits)).setCell ⟨w.heap.size + 1, 4, none⟩ (.slice (some ⟨g1, 0, none⟩) n n)) :=
    (((((touch_set' _ _ _ _ (by omega) (by omega)).trans (touch_set' _ _ _ _ (by omega) (by omega))).trans (touch_set' _ _ _ _ (by omega) (by omega))).trans (touch_set' _ _ _ _ (by omega) (by omega))).trans (touch_set' _ _ _ _ (by omega) (by omega))).trans (touch_set' _ _ _ _ (by omega) (by omega))
  try simp only [Exit.inBlock, Exit.then]
  refine bodyPost_ret (results_gn rfl _ (w.heap.size + 1) rfl _ _ _ _ _ _ q5) rfl ⟨_, rfl, by omega, OB.out.same ?_ (by simp), HB.out.trans (tt.below (by omega) (by omega))⟩
  exact (heap_setCell_other _ _ _ _ (by simp; omega)).trans ((heap_setCell_other _ _ _ _ (by simp; omega)).trans ((heap_setCell_other _ _ _ _ (by simp; omega)).trans ((heap_setCell_other _ _ _ _ (by simp; omega)).trans ((heap_setCell_other _ _ _ _ (by simp; omega)).trans (heap_setCell_other _ _ _ _ (by simp; omega))))))

theorem toGenName_any (g : GT) (a : Option Addr) (n c : Nat) (xs : List PT) (w : World) (h : Pts w a n xs) (hn : n ≤ 1048576) :
    Calls Tryz.prog 55 #[gnv g a n c] w fun e w' => ∃ a', e = .returned (gnv g a' n n) ∧ Pts w' a' n xs ∧ Below w.heap.size w w' :=
  (toGenName_at g a n c xs w h hn).mono fun _ _ ⟨_, h1, _, h3, h4⟩ => ⟨_, h1, h3, h4⟩

set_option maxRecDepth 10000 in
set_option maxHeartbeats 2000000 in
theorem eqGenName_same (g : GT) (a b : Option Addr) (n ca cb : Nat) (xs : List PT) (w : World) (h : Pts w a n xs) (h2 : Pts w b n xs) :
    Calls Tryz.prog 62 #[gnv g a n ca, gnv g b n cb] w fun e w' => e = .returned (.bool true) ∧ Below w.heap.size w w' := by
  have H1 : Hid (Pts w a n xs) := h
  have H2 : Hid (Pts w b n xs) := h2
  clear h h2
  unfold gnv
  have hbl : Below w.heap.size w ((w.alloc (.cells #[.int .i64 g.kind, .string g.text, .int .i64 g.addr, .int .i64 g.bits, .slice a n ca] 96)).alloc (.cells #[.int .i64 g.kind, .string g.text, .int .i64 g.addr, .int .i64 g.bits, .slice b n cb] 96)) := ((Below.refl _ _).alloc (Nat.le_refl _) _).alloc (by simp) _
  have t1 : (g.kind != g.kind) = false := by simp
  have t2 : (g.text.toList != g.text.toList) = false := by simp
  have t3 : (g.addr != g.addr) = false := by simp
  have t4 : (g.bits != g.bits) = false := by simp
  go_enter Tryz.func62, Tryz.ntmps62
  go_wp2_with fail
  first
    | (refine (eqName_same a b n ca cb xs _ (H1.out.kept hbl) (H2.out.kept hbl)).mono ?_
       rintro e w2 ⟨rfl, hb2⟩
       go_wp2
       go_ret
       exact ⟨rfl, hbl.trans (hb2.mono hbl.size)⟩)
    | skip

end Go.Proofs.YtkpabanjlhlmfaaGreatDoor
