import Derived.Test.YtbfjkmlmnhphoaaDoorBase
import Derived.Test.YtbfjkmlmnhphoaaDoorRK
import Derived.Test.YtbfjkmlmnhphoaaDoorN6
set_option linter.unusedVariables false
namespace Go.Proofs.YtbfjkmlmnhphoaaDoor
open Go.RowKit

/-- Below 0, 0, above 0. -/
def cmpI (a b : Int) : Int := if a < b then -1 else if b < a then 1 else 0
def orI (x y : Int) : Int := if x ≠ 0 then x else y
def ahI (s t : Int × Int × Int) : Int := orI (cmpI s.2.2 t.2.2) (cmpI s.2.1 t.2.1)
theorem ahI_neg (s t : Int × Int × Int) : ahI s t < 0 ↔ s.2.2 < t.2.2 ∨ (s.2.2 = t.2.2 ∧ s.2.1 < t.2.1) := by
  unfold ahI orI cmpI
  split <;> split <;> (try split) <;> (try split) <;> omega
theorem opw_buildSliceS {P : Program} {Q : Exit → Act → World → Prop} {o : Oper} {a : Act} {w : World} {K : Act → World → Prop} (t : TypeId) (n : Nat) (parts : Array (Nat × Operand)) (ho : o.op = .buildSlice t n parts) (vs : Array (Nat × Value)) (hvs : (parts.map fun p => (p.1, a.eval p.2)) = vs) (v : Value) (w' : World)
    (hr : (Instr.buildSlice t n vs).run P w = .ok v w') (h : K (a.put o.dst v) w') : o.wp P a w K Q := by
  refine opw_value v ?_ h
  have hvs' : (parts.map fun x : Nat × Operand => match x with | (i, x) => (i, a.eval x)) = vs := hvs
  unfold execOp
  simp only [ho]
  rw [hvs']
  simp [hr]

theorem isNaN_any (a : Int) (w : World) : Calls Tryd.prog 100 #[.int .i64 a] w fun e w' => e = .returned (.bool false) ∧ w = w' := by
  have hne : (a != a) = false := by simp
  go_enter Tryd.func100, Tryd.ntmps100
  go_wp2
  go_ret
  exact ⟨rfl, rfl⟩

set_option maxRecDepth 10000 in
set_option maxHeartbeats 1000000 in
theorem compare_any (a b : Int) (w : World) : Calls Tryd.prog 85 #[.int .i64 a, .int .i64 b] w fun e w' => e = .returned (.int .i64 (cmpI a b)) ∧ w = w' := by
  go_enter Tryd.func85, Tryd.ntmps85
  go_wp2_with fail
  refine (isNaN_any a _).mono ?_
  rintro e w1 ⟨rfl, hw1⟩
  subst hw1
  go_wp2_with fail
  refine (isNaN_any b _).mono ?_
  rintro e w1 ⟨rfl, hw1⟩
  subst hw1
  by_cases h1 : a < b
  · have HC : Hid (cmpI a b = -1) := if_pos h1
    go_wp2
    go_ret
    exact ⟨by rw [HC.out]; rfl, rfl⟩
  · by_cases h2 : b < a
    · have HC : Hid (cmpI a b = 1) := (if_neg h1).trans (if_pos h2)
      go_wp2
      go_ret
      exact ⟨by rw [HC.out]; rfl, rfl⟩
    · have HC : Hid (cmpI a b = 0) := (if_neg h1).trans (if_neg h2)
      go_wp2
      go_ret
      exact ⟨by rw [HC.out]; rfl, rfl⟩

def OrZ (x y : Int) (k : Nat) : Prop := (0 < k → x = 0) ∧ (1 < k → y = 0)

set_option maxRecDepth 10000 in
set_option maxHeartbeats 1000000 in
theorem or2_any (g : Nat) (x y : Int) (w : World) (h0 : w.cell? ⟨g, 0, none⟩ = some (.int .i64 x)) (h1 : w.cell? ⟨g, 1, none⟩ = some (.int .i64 y)) :
    Calls Tryd.prog 84 #[.slice (some ⟨g, 0, none⟩) 2 2] w fun e w' => e = .returned (.int .i64 (orI x y)) ∧ Below w.heap.size w w' := by
  have H0 : Hid (w.cell? ⟨g, 0, none⟩ = some (.int .i64 x)) := h0
  have H1 : Hid (w.cell? ⟨g, 1, none⟩ = some (.int .i64 y)) := h1
  have hg : g < w.heap.size := World.block_lt_of_cell? w _ h0
  clear h0 h1
  go_enter Tryd.func84, Tryd.ntmps84
  go_wp2
  go_loopw [8, 5] (fun i _ wr => ∃ k : Nat, k ≤ 2 ∧ i = .int .i64 k ∧ Hid (OrZ x y k) ∧ Below w.heap.size w wr) (fun i _ _ => 2 - (intOf i).toNat)
  case atStart => exact ⟨0, Nat.zero_le _, rfl, ⟨fun h => absurd h (by decide), fun h => absurd h (by decide)⟩, Below.refl _ _⟩
  case round =>
    obtain ⟨k, hk, rfl, HZ, hbr⟩ := hrel
    have c0 : wr.cell? ⟨g, 0, none⟩ = some (.int .i64 x) := (hbr.cell (p := ⟨g, 0, none⟩) hg).trans H0.out
    have c1 : wr.cell? ⟨g, 1, none⟩ = some (.int .i64 y) := (hbr.cell (p := ⟨g, 1, none⟩) hg).trans H1.out
    match k, hk with
    | 0, _ =>
      by_cases hx : x = 0
      · have HE : Hid (OrZ x y 1) := ⟨fun _ => hx, fun h => absurd h (by decide)⟩
        have hne : (x != 0) = false := by simp [hx]
        clear hx
        go_wp2
        go_roundw
        case rel => exact ⟨1, by decide, by go_num, HE, hbr⟩
        case measure => simp [intOf]
      · have HE : Hid (orI x y = x) := if_pos hx
        have hne : (x != 0) = true := by simp [hx]
        clear hx
        go_wp2
        go_ret
        exact ⟨by rw [HE.out]; rfl, hbr⟩
    | 1, _ =>
      have HX : Hid (x = 0) := HZ.out.1 (by decide)
      by_cases hx : y = 0
      · have HE : Hid (OrZ x y 2) := ⟨fun _ => HX.out, fun _ => hx⟩
        have hne : (y != 0) = false := by simp [hx]
        clear hx
        go_wp2
        go_roundw
        case rel => exact ⟨2, by decide, by go_num, HE, hbr⟩
        case measure => simp [intOf]
      · have HE : Hid (orI x y = y) := if_neg (by rw [HX.out]; decide)
        have hne : (y != 0) = true := by simp [hx]
        clear hx
        go_wp2
        go_ret
        exact ⟨by rw [HE.out]; rfl, hbr⟩
    | 2, _ =>
      have HE : Hid (orI x y = 0) := by
        have e0 := HZ.out.1 (by decide)
        have e1 := HZ.out.2 (by decide)
        show _ = _
        rw [e0, e1]; rfl
      go_wp2
      go_ret
      exact ⟨by rw [HE.out]; rfl, hbr⟩

/-- What is known of a region (RJ). -/
def ah1 (s t : Int × Int × Int) (G B : Nat) : RSpec where
  m := 13
  n := 15
  slots := [5, 6, 7, 8, 9, 10, 11, 12, 13, 14, 15, 16, 4, 100013, 100014]
  kills := [[], [], [], [], [], [], [], [], [], [], [], [], [], [], []]
  pres := [[], [], [], [], [], [], [], [], [], [], [], [], [], [], []]
  fact := fun k v w => match k with
    | 0 => v = .pointer (some ⟨G, 2, none⟩)
    | 1 => v = .int .i64 s.2.2
    | 2 => v = .pointer (some ⟨(G + 1), 2, none⟩)
    | 3 => v = .int .i64 t.2.2
    | 4 => v = .int .i64 (cmpI s.2.2 t.2.2)
    | 5 => v = .pointer (some ⟨G, 1, none⟩)
    | 6 => v = .int .i64 s.2.1
    | 7 => v = .pointer (some ⟨(G + 1), 1, none⟩)
    | 8 => v = .int .i64 t.2.1
    | 9 => v = .int .i64 (cmpI s.2.1 t.2.1)
    | 10 => ∃ gr, v = .slice (some ⟨gr, 0, none⟩) 2 2 ∧ w.heap[gr]? = some (.cells #[.int .i64 (cmpI s.2.2 t.2.2), .int .i64 (cmpI s.2.1 t.2.1)] 3 (0, 0))
    | 11 => v = .int .i64 (ahI s t)
    | 12 => v = .int .i64 (ahI s t)
    | 13 => w.heap[G]? = some (.cells #[.int .i64 s.1, .int .i64 s.2.1, .int .i64 s.2.2] 48 (0, 0))
    | _ => w.heap[(G + 1)]? = some (.cells #[.int .i64 t.1, .int .i64 t.2.1, .int .i64 t.2.2] 48 (0, 0))
set_option linter.unusedVariables false in
theorem ah1_stb (s t : Int × Int × Int) (G B : Nat) (k : Nat) (hk : k < 15) : StB ((ah1 s t G (B)).fact k) := by
  match k, hk with
  | 0, _ => exact fun _ _ _ h _ => h
  | 1, _ => exact fun _ _ _ h _ => h
  | 2, _ => exact fun _ _ _ h _ => h
  | 3, _ => exact fun _ _ _ h _ => h
  | 4, _ => exact fun _ _ _ h _ => h
  | 5, _ => exact fun _ _ _ h _ => h
  | 6, _ => exact fun _ _ _ h _ => h
  | 7, _ => exact fun _ _ _ h _ => h
  | 8, _ => exact fun _ _ _ h _ => h
  | 9, _ => exact fun _ _ _ h _ => h
  | 10, _ => exact fun _ _ _ ⟨gr, hv, q_0⟩ hb => ⟨gr, hv, below_kept q_0 hb⟩
  | 11, _ => exact fun _ _ _ h _ => h
  | 12, _ => exact fun _ _ _ h _ => h
  | 13, _ => exact fun _ _ _ q_0 hb => below_kept q_0 hb
  | 14, _ => exact fun _ _ _ q_0 hb => below_kept q_0 hb
  | k + 15, hk => omega

set_option maxRecDepth 10000 in
set_option maxHeartbeats 4000000 in
theorem ahead_any (s t : Int × Int × Int) (w : World) :
    Calls Tryd.prog 63 #[.agg #[.int .i64 s.1, .int .i64 s.2.1, .int .i64 s.2.2], .agg #[.int .i64 t.1, .int .i64 t.2.1, .int .i64 t.2.2]] w fun e w' => e = .returned (.int .i64 (ahI s t)) ∧ Below w.heap.size w w' := by
  obtain ⟨W0, hW0⟩ : ∃ W0, W0 = (w.alloc (.cells #[.int .i64 s.1, .int .i64 s.2.1, .int .i64 s.2.2] 48)).alloc (.cells #[.int .i64 t.1, .int .i64 t.2.1, .int .i64 t.2.2] 48) := ⟨_, rfl⟩
  have hB0 : Below w.heap.size w W0 := by rw [hW0]; exact two_below _ _ _
  have b0 := two_blocks w (.cells #[.int .i64 s.1, .int .i64 s.2.1, .int .i64 s.2.2] 48) (.cells #[.int .i64 t.1, .int .i64 t.2.1, .int .i64 t.2.2] 48)
  rw [← hW0] at b0
  have HW : Hid (_ = _) := hW0
  have HBB : w.heap.size ≤ W0.heap.size := hB0.size
  clear hW0
  go_enter Tryd.func63, Tryd.ntmps63
  go_upto_region 1 with fail
  rw [← HW.out]
  clear HW
  refine wp_region_ri (ah1 s t w.heap.size (w.heap.size)) [4, 5, 6, 7, 8, 9, 10, 11, 12, 13, 14, 15, 16] (w.heap.size) (fun a0 => a0.tmps.size = 17 ∧ aT a0 2 = .pointer (some ⟨w.heap.size, 0, none⟩) ∧ aT a0 3 = .pointer (some ⟨(w.heap.size + 1), 0, none⟩)) (by kernel_rfl) rfl (by kernel_rfl) rfl ⟨rfl, rfl, rfl⟩ (ah1_stb s t w.heap.size (w.heap.size)) ?_ ?_ ?_
  · intro k hk hk2
    match k, hk, hk2 with
    | 13, _, _ => exact b0.1
    | 14, _, _ => exact b0.2
    | 0, hk, _ => exact absurd hk (by show ¬ (13 ≤ 0); omega)
    | 1, hk, _ => exact absurd hk (by show ¬ (13 ≤ 1); omega)
    | 2, hk, _ => exact absurd hk (by show ¬ (13 ≤ 2); omega)
    | 3, hk, _ => exact absurd hk (by show ¬ (13 ≤ 3); omega)
    | 4, hk, _ => exact absurd hk (by show ¬ (13 ≤ 4); omega)
    | 5, hk, _ => exact absurd hk (by show ¬ (13 ≤ 5); omega)
    | 6, hk, _ => exact absurd hk (by show ¬ (13 ≤ 6); omega)
    | 7, hk, _ => exact absurd hk (by show ¬ (13 ≤ 7); omega)
    | 8, hk, _ => exact absurd hk (by show ¬ (13 ≤ 8); omega)
    | 9, hk, _ => exact absurd hk (by show ¬ (13 ≤ 9); omega)
    | 10, hk, _ => exact absurd hk (by show ¬ (13 ≤ 10); omega)
    | 11, hk, _ => exact absurd hk (by show ¬ (13 ≤ 11); omega)
    | 12, hk, _ => exact absurd hk (by show ¬ (13 ≤ 12); omega)
    | k + 15, _, hk2 => exact absurd hk2 (by show ¬ (k + 15 < 15); omega)
  · rintro a0 ⟨hz, g2, g3⟩
    refine StepsRI.cons ?_ (StepsRI.cons ?_ (StepsRI.cons ?_ (StepsRI.cons ?_ (StepsRI.cons ?_ (StepsRI.cons ?_ (StepsRI.cons ?_ (StepsRI.cons ?_ (StepsRI.cons ?_ (StepsRI.cons ?_ (StepsRI.cons ?_ (StepsRI.cons ?_ (StepsRI.cons ?_ (StepsRI.nil)))))))))))))
    · intro lQ b W hI hUN hED KQ hKQ
      exact opw_field 48 2 2 rfl _ ((hI.fr.same 2 (by decide)).trans g2) _ (by kernel_rfl) (hKQ.out _ _ (hI.put 0 5 rfl rfl (by rw [hz]; decide) rfl hUN rfl HBB (ah1_stb s t w.heap.size (w.heap.size)) (Below.refl _ _) rfl))
    · intro lQ b W hI hUN hED KQ hKQ
      have f := hI.got 0 (of_decide_eq_true rfl) (edge hED 0 (by kernel_rfl)) rfl
      have hg := (hI.vot 13 (of_decide_eq_true rfl) (of_decide_eq_true rfl) rfl)
      have hc : W.cell? ⟨w.heap.size, 2, none⟩ = some (.int .i64 s.2.2) := (cell_of_row _ _ 2 _ _ (0, 0) hg).trans rfl
      exact opw_load1 2 5 rfl _ f _ (by simp [Instr.loadAt, go_sem, hc]) (hKQ.out _ _ (hI.put 1 6 rfl rfl (by rw [hz]; decide) rfl hUN rfl HBB (ah1_stb s t w.heap.size (w.heap.size)) (Below.refl _ _) rfl))
    · intro lQ b W hI hUN hED KQ hKQ
      exact opw_field 48 3 2 rfl _ ((hI.fr.same 3 (by decide)).trans g3) _ (by kernel_rfl) (hKQ.out _ _ (hI.put 2 7 rfl rfl (by rw [hz]; decide) rfl hUN rfl HBB (ah1_stb s t w.heap.size (w.heap.size)) (Below.refl _ _) rfl))
    · intro lQ b W hI hUN hED KQ hKQ
      have f := hI.got 2 (of_decide_eq_true rfl) (edge hED 2 (by kernel_rfl)) rfl
      have hg := (hI.vot 14 (of_decide_eq_true rfl) (of_decide_eq_true rfl) rfl)
      have hc : W.cell? ⟨(w.heap.size + 1), 2, none⟩ = some (.int .i64 t.2.2) := (cell_of_row _ _ 2 _ _ (0, 0) hg).trans rfl
      exact opw_load1 2 7 rfl _ f _ (by simp [Instr.loadAt, go_sem, hc]) (hKQ.out _ _ (hI.put 3 8 rfl rfl (by rw [hz]; decide) rfl hUN rfl HBB (ah1_stb s t w.heap.size (w.heap.size)) (Below.refl _ _) rfl))
    · intro lQ b W hI hUN hED KQ hKQ
      have f0 := hI.got 1 (of_decide_eq_true rfl) (edge hED 1 (by kernel_rfl)) rfl
      replace f0 : aT b 6 = .int .i64 s.2.2 := f0
      have f1 := hI.got 3 (of_decide_eq_true rfl) (edge hED 3 (by kernel_rfl)) rfl
      replace f1 : aT b 8 = .int .i64 t.2.2 := f1
      refine opw_call 85 #[.tmp 6, .tmp 8] _ _ _ rfl Tryd.func85 (by kernel_rfl) rfl #[.int .i64 s.2.2, .int .i64 t.2.2] (by simp [ev, f0, f1]) ?_
      refine (compare_any s.2.2 t.2.2 W).mono ?_
      rintro e W2 ⟨rfl, rfl⟩
      exact ⟨_, rfl, hKQ.out _ _ (hI.put 4 9 rfl rfl (by rw [hz]; decide) rfl hUN rfl HBB (ah1_stb s t w.heap.size (w.heap.size)) (Below.refl _ _) rfl)⟩
    · intro lQ b W hI hUN hED KQ hKQ
      exact opw_field 48 2 1 rfl _ ((hI.fr.same 2 (by decide)).trans g2) _ (by kernel_rfl) (hKQ.out _ _ (hI.put 5 10 rfl rfl (by rw [hz]; decide) rfl hUN rfl HBB (ah1_stb s t w.heap.size (w.heap.size)) (Below.refl _ _) rfl))
    · intro lQ b W hI hUN hED KQ hKQ
      have f := hI.got 5 (of_decide_eq_true rfl) (edge hED 5 (by kernel_rfl)) rfl
      have hg := (hI.vot 13 (of_decide_eq_true rfl) (of_decide_eq_true rfl) rfl)
      have hc : W.cell? ⟨w.heap.size, 1, none⟩ = some (.int .i64 s.2.1) := (cell_of_row _ _ 1 _ _ (0, 0) hg).trans rfl
      exact opw_load1 2 10 rfl _ f _ (by simp [Instr.loadAt, go_sem, hc]) (hKQ.out _ _ (hI.put 6 11 rfl rfl (by rw [hz]; decide) rfl hUN rfl HBB (ah1_stb s t w.heap.size (w.heap.size)) (Below.refl _ _) rfl))
    · intro lQ b W hI hUN hED KQ hKQ
      exact opw_field 48 3 1 rfl _ ((hI.fr.same 3 (by decide)).trans g3) _ (by kernel_rfl) (hKQ.out _ _ (hI.put 7 12 rfl rfl (by rw [hz]; decide) rfl hUN rfl HBB (ah1_stb s t w.heap.size (w.heap.size)) (Below.refl _ _) rfl))
    · intro lQ b W hI hUN hED KQ hKQ
      have f := hI.got 7 (of_decide_eq_true rfl) (edge hED 7 (by kernel_rfl)) rfl
      have hg := (hI.vot 14 (of_decide_eq_true rfl) (of_decide_eq_true rfl) rfl)
      have hc : W.cell? ⟨(w.heap.size + 1), 1, none⟩ = some (.int .i64 t.2.1) := (cell_of_row _ _ 1 _ _ (0, 0) hg).trans rfl
      exact opw_load1 2 12 rfl _ f _ (by simp [Instr.loadAt, go_sem, hc]) (hKQ.out _ _ (hI.put 8 13 rfl rfl (by rw [hz]; decide) rfl hUN rfl HBB (ah1_stb s t w.heap.size (w.heap.size)) (Below.refl _ _) rfl))
    · intro lQ b W hI hUN hED KQ hKQ
      have f0 := hI.got 6 (of_decide_eq_true rfl) (edge hED 6 (by kernel_rfl)) rfl
      replace f0 : aT b 11 = .int .i64 s.2.1 := f0
      have f1 := hI.got 8 (of_decide_eq_true rfl) (edge hED 8 (by kernel_rfl)) rfl
      replace f1 : aT b 13 = .int .i64 t.2.1 := f1
      refine opw_call 85 #[.tmp 11, .tmp 13] _ _ _ rfl Tryd.func85 (by kernel_rfl) rfl #[.int .i64 s.2.1, .int .i64 t.2.1] (by simp [ev, f0, f1]) ?_
      refine (compare_any s.2.1 t.2.1 W).mono ?_
      rintro e W2 ⟨rfl, rfl⟩
      exact ⟨_, rfl, hKQ.out _ _ (hI.put 9 14 rfl rfl (by rw [hz]; decide) rfl hUN rfl HBB (ah1_stb s t w.heap.size (w.heap.size)) (Below.refl _ _) rfl)⟩
    · intro lQ b W hI hUN hED KQ hKQ
      have f0 := hI.got 4 (of_decide_eq_true rfl) (edge hED 4 (by kernel_rfl)) rfl
      have f1 := hI.got 9 (of_decide_eq_true rfl) (edge hED 9 (by kernel_rfl)) rfl
      replace f0 : aT b 9 = .int .i64 (cmpI s.2.2 t.2.2) := f0
      replace f1 : aT b 14 = .int .i64 (cmpI s.2.1 t.2.1) := f1
      refine opw_buildSliceS _ 2 _ rfl #[(0, .int .i64 (cmpI s.2.2 t.2.2)), (1, .int .i64 (cmpI s.2.1 t.2.1))] (by simp [ev, f0, f1]) (.slice (some ⟨W.heap.size, 0, none⟩) 2 2) (W.alloc (.cells #[.int .i64 (cmpI s.2.2 t.2.2), .int .i64 (cmpI s.2.1 t.2.1)] 3)) (by kernel_rfl) ?_
      exact hKQ.out _ _ (hI.put 10 15 rfl rfl (by rw [hz]; decide) rfl hUN rfl HBB (ah1_stb s t w.heap.size (w.heap.size)) ((Below.refl _ _).alloc (Nat.le_refl _) _) ⟨W.heap.size, rfl, heap_alloc_new W _⟩)
    · intro lQ b W hI hUN hED KQ hKQ
      have f0 := hI.got 10 (of_decide_eq_true rfl) (edge hED 10 (by kernel_rfl)) rfl
      obtain ⟨gr, f0, o0_0⟩ := f0
      replace f0 : aT b 15 = .slice (some ⟨gr, 0, none⟩) 2 2 := f0
      refine opw_call 84 #[.tmp 15] _ _ _ rfl Tryd.func84 (by kernel_rfl) rfl #[.slice (some ⟨gr, 0, none⟩) 2 2] (by simp [ev, f0]) ?_
      refine (or2_any gr (cmpI s.2.2 t.2.2) (cmpI s.2.1 t.2.1) W ((cell_of_row _ _ 0 _ _ (0, 0) o0_0).trans rfl) ((cell_of_row _ _ 1 _ _ (0, 0) o0_0).trans rfl)).mono ?_
      rintro e W2 ⟨rfl, hb⟩
      exact ⟨_, rfl, hKQ.out _ _ (hI.put 11 16 rfl rfl (by rw [hz]; decide) rfl hUN rfl HBB (ah1_stb s t w.heap.size (w.heap.size)) hb rfl)⟩
    · intro lQ b W hI hUN hED KQ hKQ
      have f := hI.got 11 (of_decide_eq_true rfl) (edge hED 11 (by kernel_rfl)) rfl
      exact opw_assign 16 rfl (hKQ.out _ _ (hI.put 12 4 rfl rfl (by rw [hz]; decide) rfl hUN rfl HBB (ah1_stb s t w.heap.size (w.heap.size)) (Below.refl _ _) f))
  · intro b W hf hb F
    have h4 : aT b 4 = _ := F 12 (of_decide_eq_true rfl) rfl
    rw [hf.eq]
    simp only [puts, Act.put, List.setIfInBounds_toArray, List.set_cons_zero, List.set_cons_succ]
    rw [h4]
    clear hf F h4
    go_wp2
    go_ret
    exact ⟨rfl, hB0.trans hb⟩

set_option maxRecDepth 10000 in
set_option maxHeartbeats 1000000 in
theorem eqStand_same (s : Int × Int × Int) (w : World) : Calls Tryd.prog 24 #[.agg #[.int .i64 s.1, .int .i64 s.2.1, .int .i64 s.2.2], .agg #[.int .i64 s.1, .int .i64 s.2.1, .int .i64 s.2.2]] w fun e w' => e = .returned (.bool true) ∧ Below w.heap.size w w' := by
  have e1 : (s.1 != s.1) = false := by simp
  have e2 : (s.2.1 != s.2.1) = false := by simp
  have e3 : (s.2.2 != s.2.2) = false := by simp
  have hb : Below w.heap.size w ((w.alloc (.cells #[.int .i64 s.1, .int .i64 s.2.1, .int .i64 s.2.2] 48)).alloc (.cells #[.int .i64 s.1, .int .i64 s.2.1, .int .i64 s.2.2] 48)) := two_below _ _ _
  have HB : Hid _ := hb
  clear hb
  go_enter Tryd.func24, Tryd.ntmps24
  go_wp2
  go_ret
  exact ⟨rfl, HB.out⟩

end Go.Proofs.YtbfjkmlmnhphoaaDoor
