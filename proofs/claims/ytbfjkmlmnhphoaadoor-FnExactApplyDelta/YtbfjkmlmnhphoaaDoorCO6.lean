import Derived.Test.YtbfjkmlmnhphoaaDoorGCO4CO5
import Derived.Test.YtbfjkmlmnhphoaaDoorRK
set_option linter.unusedVariables false
namespace Go.Proofs.YtbfjkmlmnhphoaaDoor
open Go.RowKit

variable {P : Program} {Q : Exit → Act → World → Prop}
theorem opw_shl1 {o : Oper} {a : Act} {w : World} {K : Act → World → Prop} (t t2 y : Nat) (ho : o.op = .binOp .shl t (.const (.int .i64 1)) (.tmp y) t2) (r : Int) (hy : aT a y = .int .i64 r) (hr : 1 ≤ r ∧ r ≤ 6) (h : K (a.put o.dst (.int .i64 (2 ^ r.toNat))) w) : o.wp P a w K Q := by
  refine opw_value _ ?_ h
  have hy' : a.eval (.tmp y) = .int .i64 r := hy
  have hc : a.eval (.const (.int .i64 1)) = .int .i64 1 := rfl
  rcases (by omega : r = 1 ∨ r = 2 ∨ r = 3 ∨ r = 4 ∨ r = 5 ∨ r = 6) with rfl | rfl | rfl | rfl | rfl | rfl <;> (unfold execOp; simp only [ho, hy', hc]; rfl)
theorem opw_and {o : Oper} {a : Act} {w : World} {K : Act → World → Prop} (t t2 x y : Nat) (ho : o.op = .binOp .and t (.tmp x) (.tmp y) t2) (p q : Int) (hx : aT a x = .int .i64 p) (hy : aT a y = .int .i64 q) (h : K (a.put o.dst (.int .i64 (bits BinOp.and IntKind.i64 p q))) w) : o.wp P a w K Q := by
  refine opw_value _ ?_ h
  have hx' : a.eval (.tmp x) = .int .i64 p := hx
  have hy' : a.eval (.tmp y) = .int .i64 q := hy
  unfold execOp
  simp only [ho, hx', hy']
  simp [go_sem]
theorem opw_neq0 {o : Oper} {a : Act} {w : World} {K : Act → World → Prop} (t t2 x : Nat) (ho : o.op = .binOp .neq t (.tmp x) (.const (.int .i64 0)) t2) (p : Int) (hx : aT a x = .int .i64 p) (h : K (a.put o.dst (.bool (p != 0))) w) : o.wp P a w K Q := by
  refine opw_value _ ?_ h
  have hx' : a.eval (.tmp x) = .int .i64 p := hx
  have hc : a.eval (.const (.int .i64 0)) = .int .i64 0 := rfl
  unfold execOp
  simp only [ho, hx', hc]
  simp [go_sem]
theorem shl_table : ((List.range 127).all fun v => (List.range 7).all fun r => (bits BinOp.and IntKind.i64 (v : Int) (2 ^ r) != 0) == decide ((v : Int) / 2 ^ r % 2 = 1)) = true := by decide +kernel
theorem shl_bits (s r : Int) (h0 : 2 ≤ s) (h1 : s ≤ 126) (hr : 1 ≤ r ∧ r ≤ 6) : (bits BinOp.and IntKind.i64 s (2 ^ r.toNat) != 0) = decide (s / 2 ^ r.toNat % 2 = 1) := by
  obtain ⟨k, rfl⟩ : ∃ k : Nat, s = k := ⟨s.toNat, by omega⟩
  have h2 := List.all_eq_true.1 shl_table k (List.mem_range.2 (by omega))
  exact beq_iff_eq.1 (List.all_eq_true.1 h2 r.toNat (List.mem_range.2 (by omega)))

/-- What is known of a region (RJ). -/
def rs3 (a1 : Option Addr) (n1 c1 : Nat) (a2 : Option Addr) (n2 c2 : Nat) (a3 : Option Addr) (n3 c3 : Nat) (x : CP) (r : Int) (G B : Nat) : RSpec where
  m := 11
  n := 12
  slots := [10, 11, 12, 13, 14, 15, 16, 17, 18, 19, 4, 100011]
  kills := [[], [], [], [], [], [], [], [], [], [], [], []]
  pres := [[], [], [], [], [], [], [], [], [], [], [], []]
  fact := fun k v w => match k with
    | 0 => v = .int .i64 r
    | 1 => v = .bool true
    | 2 => v = .bool true
    | 3 => v = .pointer (some ⟨G, 5, none⟩)
    | 4 => v = .int .i64 x.scope
    | 5 => v = .int .i64 r
    | 6 => v = .int .i64 (2 ^ r.toNat)
    | 7 => v = .int .i64 (bits BinOp.and IntKind.i64 x.scope (2 ^ r.toNat))
    | 8 => v = .bool (bits BinOp.and IntKind.i64 x.scope (2 ^ r.toNat) != 0)
    | 9 => v = .bool (bits BinOp.and IntKind.i64 x.scope (2 ^ r.toNat) != 0)
    | 10 => v = .bool (bits BinOp.and IntKind.i64 x.scope (2 ^ r.toNat) != 0)
    | _ => w.heap[G]? = some (.cells #[.slice a1 n1 c1, .int .i64 x.num, .int .i64 x.base, .int .i64 x.tm, .int .i64 x.next, .int .i64 x.scope, .bool x.ind, .slice a2 n2 c2, .slice a3 n3 c3] 36 (0, 0))
set_option linter.unusedVariables false in
theorem rs3_stb (a1 : Option Addr) (n1 c1 : Nat) (a2 : Option Addr) (n2 c2 : Nat) (a3 : Option Addr) (n3 c3 : Nat) (x : CP) (r : Int) (G B : Nat) (k : Nat) (hk : k < 12) : StB ((rs3 a1 n1 c1 a2 n2 c2 a3 n3 c3 x r G (B)).fact k) := by
  match k, hk with
  | 0, _ => exact fun _ _ _ h _ => h
  | 1, _ => exact fun _ _ _ h _ => h
  | 2, _ => exact fun _ _ _ h _ => h
  | 3, _ => exact fun _ _ _ h _ => h
  | 4, _ => exact fun _ _ _ h _ => h
  | 5, _ => exact fun _ _ _ h _ => h
  | 6, _ => exact fun _ _ _ h _ => h
  | 7, _ => exact fun _ _ _ h _ => h
  | 8, _ => exact fun _ _ _ h _ => h
  | 9, _ => exact fun _ _ _ h _ => h
  | 10, _ => exact fun _ _ _ h _ => h
  | 11, _ => exact fun _ _ _ q_0 hb => below_kept q_0 hb
  | k + 12, hk => omega
/-- What is known of a region (RJ). -/
def rs3f (a1 : Option Addr) (n1 c1 : Nat) (a2 : Option Addr) (n2 c2 : Nat) (a3 : Option Addr) (n3 c3 : Nat) (x : CP) (r : Int) (G B : Nat) : RSpec where
  m := 11
  n := 12
  slots := [10, 11, 12, 13, 14, 15, 16, 17, 18, 19, 4, 100011]
  kills := [[], [], [], [], [], [], [], [], [], [], [], []]
  pres := [[], [], [], [], [], [], [], [], [], [], [], []]
  fact := fun k v w => match k with
    | 0 => v = .int .i64 r
    | 1 => v = .bool false
    | 2 => v = .bool false
    | 3 => v = undef
    | 4 => v = undef
    | 5 => v = undef
    | 6 => v = undef
    | 7 => v = undef
    | 8 => v = undef
    | 9 => v = .bool false
    | 10 => v = .bool false
    | _ => w.heap[G]? = some (.cells #[.slice a1 n1 c1, .int .i64 x.num, .int .i64 x.base, .int .i64 x.tm, .int .i64 x.next, .int .i64 x.scope, .bool x.ind, .slice a2 n2 c2, .slice a3 n3 c3] 36 (0, 0))
set_option linter.unusedVariables false in
theorem rs3f_stb (a1 : Option Addr) (n1 c1 : Nat) (a2 : Option Addr) (n2 c2 : Nat) (a3 : Option Addr) (n3 c3 : Nat) (x : CP) (r : Int) (G B : Nat) (k : Nat) (hk : k < 12) : StB ((rs3f a1 n1 c1 a2 n2 c2 a3 n3 c3 x r G (B)).fact k) := by
  match k, hk with
  | 0, _ => exact fun _ _ _ h _ => h
  | 1, _ => exact fun _ _ _ h _ => h
  | 2, _ => exact fun _ _ _ h _ => h
  | 3, _ => exact fun _ _ _ h _ => h
  | 4, _ => exact fun _ _ _ h _ => h
  | 5, _ => exact fun _ _ _ h _ => h
  | 6, _ => exact fun _ _ _ h _ => h
  | 7, _ => exact fun _ _ _ h _ => h
  | 8, _ => exact fun _ _ _ h _ => h
  | 9, _ => exact fun _ _ _ h _ => h
  | 10, _ => exact fun _ _ _ h _ => h
  | 11, _ => exact fun _ _ _ q_0 hb => below_kept q_0 hb
  | k + 12, hk => omega

set_option maxRecDepth 10000 in
set_option maxHeartbeats 4000000 in
theorem reasonOk_any (a1 : Option Addr) (n1 c1 : Nat) (a2 : Option Addr) (n2 c2 : Nat) (a3 : Option Addr) (n3 c3 : Nat) (x : CP) (r : Int) (w : World) (hb : -1 ≤ x.base) (hs0 : 2 ≤ x.scope) (hs1 : x.scope ≤ 126) :
    Calls Tryd.prog 90 #[crv a1 n1 c1 a2 n2 c2 a3 n3 c3 x, .int .i64 r] w (Says (reaP x r) w) := by
  have HB : Hid (-1 ≤ x.base) := hb
  have HS : Hid (2 ≤ x.scope ∧ x.scope ≤ 126) := ⟨hs0, hs1⟩
  clear hb hs0 hs1
  have HF : Hid (∀ W, Calls Tryd.prog 46 #[crv a1 n1 c1 a2 n2 c2 a3 n3 c3 x] W fun e w' => e = .returned (.bool (x.base == -1)) ∧ Below W.heap.size W w') := fun W => isFull_any a1 n1 c1 a2 n2 c2 a3 n3 c3 x W
  unfold crv at HF ⊢
  obtain ⟨w0, hw0⟩ : ∃ w0, w0 = w.alloc (.cells #[.slice a1 n1 c1, .int .i64 x.num, .int .i64 x.base, .int .i64 x.tm, .int .i64 x.next, .int .i64 x.scope, .bool x.ind, .slice a2 n2 c2, .slice a3 n3 c3] 36) := ⟨_, rfl⟩
  have hB0 : Below w.heap.size w w0 := by rw [hw0]; exact (Below.refl _ _).alloc (Nat.le_refl _) _
  have hh0 : w0.heap[w.heap.size]? = some (.cells #[.slice a1 n1 c1, .int .i64 x.num, .int .i64 x.base, .int .i64 x.tm, .int .i64 x.next, .int .i64 x.scope, .bool x.ind, .slice a2 n2 c2, .slice a3 n3 c3] 36) := by rw [hw0]; exact heap_alloc_new w _
  have p0 : w0.cell? ⟨w.heap.size, 0, none⟩ = some (.slice a1 n1 c1) := (cell_of_row _ _ 0 _ 36 (0, 0) hh0).trans rfl
  have p1 : w0.cell? ⟨w.heap.size, 1, none⟩ = some (.int .i64 x.num) := (cell_of_row _ _ 1 _ 36 (0, 0) hh0).trans rfl
  have p2 : w0.cell? ⟨w.heap.size, 2, none⟩ = some (.int .i64 x.base) := (cell_of_row _ _ 2 _ 36 (0, 0) hh0).trans rfl
  have p3 : w0.cell? ⟨w.heap.size, 3, none⟩ = some (.int .i64 x.tm) := (cell_of_row _ _ 3 _ 36 (0, 0) hh0).trans rfl
  have p4 : w0.cell? ⟨w.heap.size, 4, none⟩ = some (.int .i64 x.next) := (cell_of_row _ _ 4 _ 36 (0, 0) hh0).trans rfl
  have p5 : w0.cell? ⟨w.heap.size, 5, none⟩ = some (.int .i64 x.scope) := (cell_of_row _ _ 5 _ 36 (0, 0) hh0).trans rfl
  have p6 : w0.cell? ⟨w.heap.size, 6, none⟩ = some (.bool x.ind) := (cell_of_row _ _ 6 _ 36 (0, 0) hh0).trans rfl
  have p7 : w0.cell? ⟨w.heap.size, 7, none⟩ = some (.slice a2 n2 c2) := (cell_of_row _ _ 7 _ 36 (0, 0) hh0).trans rfl
  have p8 : w0.cell? ⟨w.heap.size, 8, none⟩ = some (.slice a3 n3 c3) := (cell_of_row _ _ 8 _ 36 (0, 0) hh0).trans rfl
  have HH0 : Hid (w0.heap[w.heap.size]? = some (.cells #[.slice a1 n1 c1, .int .i64 x.num, .int .i64 x.base, .int .i64 x.tm, .int .i64 x.next, .int .i64 x.scope, .bool x.ind, .slice a2 n2 c2, .slice a3 n3 c3] 36)) := hh0
  have HW : Hid (_ = _) := hw0
  clear hw0 hh0
  go_enter Tryd.func90, Tryd.ntmps90
  go_upto_region 1 with fail
  rw [← HW.out]
  clear HW
  by_cases h7 : r = 7
  · subst h7
    go_wp2_with fail
    refine (HF.out _).mono ?_
    rintro e w1 ⟨rfl, hb1⟩
    have hB1 := hB0.trans (hb1.mono hB0.size)
    clear p0 p1 p2 p3 p4 p5 p6 p7 p8 HF
    by_cases hq : x.base = -1
    · have hq2 : (x.base == -1) = true := by simp [hq]
      have HN : Hid (¬ reaP x 7) := fun q => by rcases q with q | q <;> omega
      rw [hq2]
      clear hq hq2
      go_wp2
      go_ret
      exact says_f HN.out hB1
    · have hq2 : (x.base == -1) = false := by simp [hq]
      have HT : Hid (reaP x 7) := .inl ⟨rfl, by have := HB.out; omega⟩
      rw [hq2]
      clear hq hq2
      go_wp2
      go_ret
      exact says_t HT.out hB1
  · have q7 : (r == 7) = false := by simp [h7]
    clear p0 p1 p2 p3 p4 p6 p7 p8 HF
    by_cases hr : 1 ≤ r ∧ r ≤ 6
    · have hv := shl_bits x.scope r HS.out.1 HS.out.2 hr
      have HR : Hid (1 ≤ r ∧ r ≤ 6) := hr
      have HQ : Hid (¬ r = 7) := h7
      have HIB : Hid (∀ W : World, Calls Tryd.prog 36 #[.int .i64 r, .int .i64 1, .int .i64 6] W fun e w2 => e = .returned (.bool true) ∧ Below W.heap.size W w2) := fun W => (inBounds_any r 1 6 W).mono (fun e w2 q => ⟨by rw [q.1, decide_eq_true hr], by rw [← q.2]; exact Below.refl _ _⟩)
      clear hr h7 p5
      have HBB : w0.heap.size ≤ w0.heap.size := Nat.le_refl _
      go_upto_region 3 with fail
      refine wp_region_rk (rs3 a1 n1 c1 a2 n2 c2 a3 n3 c3 x r w.heap.size (w0.heap.size)) [4, 10, 11, 12, 13, 14, 15, 16, 17, 18, 19] (w0.heap.size) (fun a0 => a0.tmps.size = 20 ∧ aT a0 1 = .int .i64 r ∧ aT a0 2 = .pointer (some ⟨w.heap.size, 0, none⟩)) (by kernel_rfl) rfl (by kernel_rfl) rfl ⟨rfl, rfl, rfl⟩ (rs3_stb a1 n1 c1 a2 n2 c2 a3 n3 c3 x r w.heap.size (w0.heap.size)) ?_ ?_ ?_
      · intro k hk hk2
        match k, hk, hk2 with
        | 11, _, _ => exact HH0.out
        | 0, hk, _ => exact absurd hk (by show ¬ (11 ≤ 0); omega)
        | 1, hk, _ => exact absurd hk (by show ¬ (11 ≤ 1); omega)
        | 2, hk, _ => exact absurd hk (by show ¬ (11 ≤ 2); omega)
        | 3, hk, _ => exact absurd hk (by show ¬ (11 ≤ 3); omega)
        | 4, hk, _ => exact absurd hk (by show ¬ (11 ≤ 4); omega)
        | 5, hk, _ => exact absurd hk (by show ¬ (11 ≤ 5); omega)
        | 6, hk, _ => exact absurd hk (by show ¬ (11 ≤ 6); omega)
        | 7, hk, _ => exact absurd hk (by show ¬ (11 ≤ 7); omega)
        | 8, hk, _ => exact absurd hk (by show ¬ (11 ≤ 8); omega)
        | 9, hk, _ => exact absurd hk (by show ¬ (11 ≤ 9); omega)
        | 10, hk, _ => exact absurd hk (by show ¬ (11 ≤ 10); omega)
        | k + 12, _, hk2 => exact absurd hk2 (by show ¬ (k + 12 < 12); omega)
      · rintro a0 ⟨hz, g1, g2⟩
        refine StepsRK.cons ?_ (StepsRK.cons ?_ (StepsRK.cons ?_ (StepsRK.cons ?_ (StepsRK.cons ?_ (StepsRK.cons ?_ (StepsRK.cons ?_ (StepsRK.cons ?_ (StepsRK.cons ?_ (StepsRK.cons ?_ (StepsRK.cons ?_ (StepsRK.nil)))))))))))
        · intro lQ b W hI hUN hED KQ hKQ
          refine rk_plain rfl ?_
          exact opw_move 1 rfl (hKQ.out _ _ (hI.put 0 10 rfl rfl (by rw [hz]; decide) rfl hUN rfl HBB (rs3_stb a1 n1 c1 a2 n2 c2 a3 n3 c3 x r w.heap.size (w0.heap.size)) (Below.refl _ _) ((hI.fr.same 1 (by decide)).trans g1)))
        · intro lQ b W hI hUN hED KQ hKQ
          refine rk_plain rfl ?_
          have f0 := hI.got 0 (of_decide_eq_true rfl) (edge hED 0 (by kernel_rfl)) rfl
          replace f0 : aT b 10 = .int .i64 r := f0
          refine opw_call 36 #[.tmp 10, .const (.int .i64 1), .const (.int .i64 6)] _ _ _ rfl Tryd.func36 (by kernel_rfl) rfl #[.int .i64 r, .int .i64 1, .int .i64 6] (by simp [ev, evc, f0]) ?_
          refine (HIB.out W).mono ?_
          rintro e W2 ⟨rfl, hb⟩
          exact ⟨_, rfl, hKQ.out _ _ (hI.put 1 11 rfl rfl (by rw [hz]; decide) rfl hUN rfl HBB (rs3_stb a1 n1 c1 a2 n2 c2 a3 n3 c3 x r w.heap.size (w0.heap.size)) hb rfl)⟩
        · intro lQ b W hI hUN hED KQ hKQ
          refine rk_plain rfl ?_
          have f := hI.got 1 (of_decide_eq_true rfl) (edge hED 1 (by kernel_rfl)) rfl
          exact opw_move 11 rfl (hKQ.out _ _ (hI.put 2 12 rfl rfl (by rw [hz]; decide) rfl hUN rfl HBB (rs3_stb a1 n1 c1 a2 n2 c2 a3 n3 c3 x r w.heap.size (w0.heap.size)) (Below.refl _ _) f))
        · intro lQ b W hI hUN hED KQ hKQ
          refine rk_take 2 true 12 rfl rfl (hI.got 2 (of_decide_eq_true rfl) (edge hED 2 (by kernel_rfl)) rfl) ?_
          exact opw_field 36 2 5 rfl _ ((hI.fr.same 2 (by decide)).trans g2) _ (by kernel_rfl) (hKQ.out _ _ (hI.put 3 13 rfl rfl (by rw [hz]; decide) rfl hUN rfl HBB (rs3_stb a1 n1 c1 a2 n2 c2 a3 n3 c3 x r w.heap.size (w0.heap.size)) (Below.refl _ _) rfl))
        · intro lQ b W hI hUN hED KQ hKQ
          refine rk_take 2 true 12 rfl rfl (hI.got 2 (of_decide_eq_true rfl) (edge hED 2 (by kernel_rfl)) rfl) ?_
          have f := hI.got 3 (of_decide_eq_true rfl) (edge hED 3 (by kernel_rfl)) rfl
          have hg := (hI.vot 11 (of_decide_eq_true rfl) (of_decide_eq_true rfl) rfl)
          have hc : W.cell? ⟨w.heap.size, 5, none⟩ = some (.int .i64 x.scope) := (cell_of_row _ _ 5 _ _ (0, 0) hg).trans rfl
          exact opw_load1 2 13 rfl _ f _ (by simp [Instr.loadAt, go_sem, hc]) (hKQ.out _ _ (hI.put 4 14 rfl rfl (by rw [hz]; decide) rfl hUN rfl HBB (rs3_stb a1 n1 c1 a2 n2 c2 a3 n3 c3 x r w.heap.size (w0.heap.size)) (Below.refl _ _) rfl))
        · intro lQ b W hI hUN hED KQ hKQ
          refine rk_take 2 true 12 rfl rfl (hI.got 2 (of_decide_eq_true rfl) (edge hED 2 (by kernel_rfl)) rfl) ?_
          exact opw_move 1 rfl (hKQ.out _ _ (hI.put 5 15 rfl rfl (by rw [hz]; decide) rfl hUN rfl HBB (rs3_stb a1 n1 c1 a2 n2 c2 a3 n3 c3 x r w.heap.size (w0.heap.size)) (Below.refl _ _) ((hI.fr.same 1 (by decide)).trans g1)))
        · intro lQ b W hI hUN hED KQ hKQ
          refine rk_take 2 true 12 rfl rfl (hI.got 2 (of_decide_eq_true rfl) (edge hED 2 (by kernel_rfl)) rfl) ?_
          have f : aT b 15 = .int .i64 r := hI.got 5 (of_decide_eq_true rfl) (edge hED 5 (by kernel_rfl)) rfl
          exact opw_shl1 _ _ 15 rfl r f HR.out (hKQ.out _ _ (hI.put 6 16 rfl rfl (by rw [hz]; decide) rfl hUN rfl HBB (rs3_stb a1 n1 c1 a2 n2 c2 a3 n3 c3 x r w.heap.size (w0.heap.size)) (Below.refl _ _) rfl))
        · intro lQ b W hI hUN hED KQ hKQ
          refine rk_take 2 true 12 rfl rfl (hI.got 2 (of_decide_eq_true rfl) (edge hED 2 (by kernel_rfl)) rfl) ?_
          have f : aT b 14 = .int .i64 x.scope := hI.got 4 (of_decide_eq_true rfl) (edge hED 4 (by kernel_rfl)) rfl
          have f2 : aT b 16 = .int .i64 (2 ^ r.toNat) := hI.got 6 (of_decide_eq_true rfl) (edge hED 6 (by kernel_rfl)) rfl
          exact opw_and _ _ 14 16 rfl _ _ f f2 (hKQ.out _ _ (hI.put 7 17 rfl rfl (by rw [hz]; decide) rfl hUN rfl HBB (rs3_stb a1 n1 c1 a2 n2 c2 a3 n3 c3 x r w.heap.size (w0.heap.size)) (Below.refl _ _) rfl))
        · intro lQ b W hI hUN hED KQ hKQ
          refine rk_take 2 true 12 rfl rfl (hI.got 2 (of_decide_eq_true rfl) (edge hED 2 (by kernel_rfl)) rfl) ?_
          have f : aT b 17 = .int .i64 (bits BinOp.and IntKind.i64 x.scope (2 ^ r.toNat)) := hI.got 7 (of_decide_eq_true rfl) (edge hED 7 (by kernel_rfl)) rfl
          exact opw_neq0 _ _ 17 rfl _ f (hKQ.out _ _ (hI.put 8 18 rfl rfl (by rw [hz]; decide) rfl hUN rfl HBB (rs3_stb a1 n1 c1 a2 n2 c2 a3 n3 c3 x r w.heap.size (w0.heap.size)) (Below.refl _ _) rfl))
        · intro lQ b W hI hUN hED KQ hKQ
          refine rk_plain rfl ?_
          have fc : aT b 12 = .bool true := hI.got 2 (of_decide_eq_true rfl) (edge hED 2 (by kernel_rfl)) rfl
          have f := hI.got 8 (of_decide_eq_true rfl) (edge hED 8 (by kernel_rfl)) rfl
          replace f : aT b 18 = .bool (bits BinOp.and IntKind.i64 x.scope (2 ^ r.toNat) != 0) := f
          exact opw_pick_t 12 _ _ rfl fc _ f (hKQ.out _ _ (hI.put 9 19 rfl rfl (by rw [hz]; decide) rfl hUN rfl HBB (rs3_stb a1 n1 c1 a2 n2 c2 a3 n3 c3 x r w.heap.size (w0.heap.size)) (Below.refl _ _) rfl))
        · intro lQ b W hI hUN hED KQ hKQ
          refine rk_plain rfl ?_
          have f := hI.got 9 (of_decide_eq_true rfl) (edge hED 9 (by kernel_rfl)) rfl
          exact opw_assign 19 rfl (hKQ.out _ _ (hI.put 10 4 rfl rfl (by rw [hz]; decide) rfl hUN rfl HBB (rs3_stb a1 n1 c1 a2 n2 c2 a3 n3 c3 x r w.heap.size (w0.heap.size)) (Below.refl _ _) f))
      · intro b W hf hb F
        have e4 : aT b 4 = .bool (bits BinOp.and IntKind.i64 x.scope (2 ^ r.toNat) != 0) := F 10 (of_decide_eq_true rfl) rfl
        rw [hf.eq]
        simp only [puts, Act.put, List.setIfInBounds_toArray, List.set_cons_zero, List.set_cons_succ, e4, hv]
        clear hf F e4
        go_wp2
        go_ret
        exact ⟨_, rfl, ⟨fun q => .inr ⟨HR.out, of_decide_eq_true q⟩, fun q => decide_eq_true (q.elim (fun z => absurd z.1 HQ.out) (fun z => z.2))⟩, hB0.trans (hb.mono hB0.size)⟩
    · have HN : Hid (¬ reaP x r) := fun q => by rcases q with q | q <;> omega
      have HIB : Hid (∀ W : World, Calls Tryd.prog 36 #[.int .i64 r, .int .i64 1, .int .i64 6] W fun e w2 => e = .returned (.bool false) ∧ Below W.heap.size W w2) := fun W => (inBounds_any r 1 6 W).mono (fun e w2 q => ⟨by rw [q.1, decide_eq_false hr], by rw [← q.2]; exact Below.refl _ _⟩)
      clear hr h7 p5
      have HBB : w0.heap.size ≤ w0.heap.size := Nat.le_refl _
      go_upto_region 3 with fail
      refine wp_region_rk (rs3f a1 n1 c1 a2 n2 c2 a3 n3 c3 x r w.heap.size (w0.heap.size)) [4, 10, 11, 12, 13, 14, 15, 16, 17, 18, 19] (w0.heap.size) (fun a0 => a0.tmps.size = 20 ∧ aT a0 1 = .int .i64 r) (by kernel_rfl) rfl (by kernel_rfl) rfl ⟨rfl, rfl⟩ (rs3f_stb a1 n1 c1 a2 n2 c2 a3 n3 c3 x r w.heap.size (w0.heap.size)) ?_ ?_ ?_
      · intro k hk hk2
        match k, hk, hk2 with
        | 11, _, _ => exact HH0.out
        | 0, hk, _ => exact absurd hk (by show ¬ (11 ≤ 0); omega)
        | 1, hk, _ => exact absurd hk (by show ¬ (11 ≤ 1); omega)
        | 2, hk, _ => exact absurd hk (by show ¬ (11 ≤ 2); omega)
        | 3, hk, _ => exact absurd hk (by show ¬ (11 ≤ 3); omega)
        | 4, hk, _ => exact absurd hk (by show ¬ (11 ≤ 4); omega)
        | 5, hk, _ => exact absurd hk (by show ¬ (11 ≤ 5); omega)
        | 6, hk, _ => exact absurd hk (by show ¬ (11 ≤ 6); omega)
        | 7, hk, _ => exact absurd hk (by show ¬ (11 ≤ 7); omega)
        | 8, hk, _ => exact absurd hk (by show ¬ (11 ≤ 8); omega)
        | 9, hk, _ => exact absurd hk (by show ¬ (11 ≤ 9); omega)
        | 10, hk, _ => exact absurd hk (by show ¬ (11 ≤ 10); omega)
        | k + 12, _, hk2 => exact absurd hk2 (by show ¬ (k + 12 < 12); omega)
      · rintro a0 ⟨hz, g1⟩
        refine StepsRK.cons ?_ (StepsRK.cons ?_ (StepsRK.cons ?_ (StepsRK.cons ?_ (StepsRK.cons ?_ (StepsRK.cons ?_ (StepsRK.cons ?_ (StepsRK.cons ?_ (StepsRK.cons ?_ (StepsRK.cons ?_ (StepsRK.cons ?_ (StepsRK.nil)))))))))))
        · intro lQ b W hI hUN hED KQ hKQ
          refine rk_plain rfl ?_
          exact opw_move 1 rfl (hKQ.out _ _ (hI.put 0 10 rfl rfl (by rw [hz]; decide) rfl hUN rfl HBB (rs3f_stb a1 n1 c1 a2 n2 c2 a3 n3 c3 x r w.heap.size (w0.heap.size)) (Below.refl _ _) ((hI.fr.same 1 (by decide)).trans g1)))
        · intro lQ b W hI hUN hED KQ hKQ
          refine rk_plain rfl ?_
          have f0 := hI.got 0 (of_decide_eq_true rfl) (edge hED 0 (by kernel_rfl)) rfl
          replace f0 : aT b 10 = .int .i64 r := f0
          refine opw_call 36 #[.tmp 10, .const (.int .i64 1), .const (.int .i64 6)] _ _ _ rfl Tryd.func36 (by kernel_rfl) rfl #[.int .i64 r, .int .i64 1, .int .i64 6] (by simp [ev, evc, f0]) ?_
          refine (HIB.out W).mono ?_
          rintro e W2 ⟨rfl, hb⟩
          exact ⟨_, rfl, hKQ.out _ _ (hI.put 1 11 rfl rfl (by rw [hz]; decide) rfl hUN rfl HBB (rs3f_stb a1 n1 c1 a2 n2 c2 a3 n3 c3 x r w.heap.size (w0.heap.size)) hb rfl)⟩
        · intro lQ b W hI hUN hED KQ hKQ
          refine rk_plain rfl ?_
          have f := hI.got 1 (of_decide_eq_true rfl) (edge hED 1 (by kernel_rfl)) rfl
          exact opw_move 11 rfl (hKQ.out _ _ (hI.put 2 12 rfl rfl (by rw [hz]; decide) rfl hUN rfl HBB (rs3f_stb a1 n1 c1 a2 n2 c2 a3 n3 c3 x r w.heap.size (w0.heap.size)) (Below.refl _ _) f))
        · intro lQ b W hI hUN hED KQ hKQ
          exact rk_skip 2 true 12 (.bool false) rfl rfl (hI.got 2 (of_decide_eq_true rfl) (edge hED 2 (by kernel_rfl)) rfl) rfl (hKQ.out _ _ (hI.put 3 13 rfl rfl (by rw [hz]; decide) rfl hUN rfl HBB (rs3f_stb a1 n1 c1 a2 n2 c2 a3 n3 c3 x r w.heap.size (w0.heap.size)) (Below.refl _ _) rfl))
        · intro lQ b W hI hUN hED KQ hKQ
          exact rk_skip 2 true 12 (.bool false) rfl rfl (hI.got 2 (of_decide_eq_true rfl) (edge hED 2 (by kernel_rfl)) rfl) rfl (hKQ.out _ _ (hI.put 4 14 rfl rfl (by rw [hz]; decide) rfl hUN rfl HBB (rs3f_stb a1 n1 c1 a2 n2 c2 a3 n3 c3 x r w.heap.size (w0.heap.size)) (Below.refl _ _) rfl))
        · intro lQ b W hI hUN hED KQ hKQ
          exact rk_skip 2 true 12 (.bool false) rfl rfl (hI.got 2 (of_decide_eq_true rfl) (edge hED 2 (by kernel_rfl)) rfl) rfl (hKQ.out _ _ (hI.put 5 15 rfl rfl (by rw [hz]; decide) rfl hUN rfl HBB (rs3f_stb a1 n1 c1 a2 n2 c2 a3 n3 c3 x r w.heap.size (w0.heap.size)) (Below.refl _ _) rfl))
        · intro lQ b W hI hUN hED KQ hKQ
          exact rk_skip 2 true 12 (.bool false) rfl rfl (hI.got 2 (of_decide_eq_true rfl) (edge hED 2 (by kernel_rfl)) rfl) rfl (hKQ.out _ _ (hI.put 6 16 rfl rfl (by rw [hz]; decide) rfl hUN rfl HBB (rs3f_stb a1 n1 c1 a2 n2 c2 a3 n3 c3 x r w.heap.size (w0.heap.size)) (Below.refl _ _) rfl))
        · intro lQ b W hI hUN hED KQ hKQ
          exact rk_skip 2 true 12 (.bool false) rfl rfl (hI.got 2 (of_decide_eq_true rfl) (edge hED 2 (by kernel_rfl)) rfl) rfl (hKQ.out _ _ (hI.put 7 17 rfl rfl (by rw [hz]; decide) rfl hUN rfl HBB (rs3f_stb a1 n1 c1 a2 n2 c2 a3 n3 c3 x r w.heap.size (w0.heap.size)) (Below.refl _ _) rfl))
        · intro lQ b W hI hUN hED KQ hKQ
          exact rk_skip 2 true 12 (.bool false) rfl rfl (hI.got 2 (of_decide_eq_true rfl) (edge hED 2 (by kernel_rfl)) rfl) rfl (hKQ.out _ _ (hI.put 8 18 rfl rfl (by rw [hz]; decide) rfl hUN rfl HBB (rs3f_stb a1 n1 c1 a2 n2 c2 a3 n3 c3 x r w.heap.size (w0.heap.size)) (Below.refl _ _) rfl))
        · intro lQ b W hI hUN hED KQ hKQ
          refine rk_plain rfl ?_
          have fc : aT b 12 = .bool false := hI.got 2 (of_decide_eq_true rfl) (edge hED 2 (by kernel_rfl)) rfl
          exact opw_pick_f 12 _ _ rfl fc _ rfl (hKQ.out _ _ (hI.put 9 19 rfl rfl (by rw [hz]; decide) rfl hUN rfl HBB (rs3f_stb a1 n1 c1 a2 n2 c2 a3 n3 c3 x r w.heap.size (w0.heap.size)) (Below.refl _ _) rfl))
        · intro lQ b W hI hUN hED KQ hKQ
          refine rk_plain rfl ?_
          have f := hI.got 9 (of_decide_eq_true rfl) (edge hED 9 (by kernel_rfl)) rfl
          exact opw_assign 19 rfl (hKQ.out _ _ (hI.put 10 4 rfl rfl (by rw [hz]; decide) rfl hUN rfl HBB (rs3f_stb a1 n1 c1 a2 n2 c2 a3 n3 c3 x r w.heap.size (w0.heap.size)) (Below.refl _ _) f))
      · intro b W hf hb F
        have e4 : aT b 4 = .bool false := F 10 (of_decide_eq_true rfl) rfl
        rw [hf.eq]
        simp only [puts, Act.put, List.setIfInBounds_toArray, List.set_cons_zero, List.set_cons_succ, e4]
        clear hf F e4
        go_wp2
        go_ret
        exact says_f HN.out (hB0.trans (hb.mono hB0.size))

end Go.Proofs.YtbfjkmlmnhphoaaDoor
