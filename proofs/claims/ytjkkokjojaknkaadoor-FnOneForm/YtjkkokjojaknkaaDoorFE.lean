import Derived.Test.YtjkkokjojaknkaaDoorFD
import Derived.Deep.RegionHeldLaw
import Derived.Deep.AppendLies
namespace Go.Proofs.YtjkkokjojaknkaaDoor
open Go.RowKit

/-- The first byte without its tag. -/
def firstOf (cl : Int) (co : Bool) : Int := 64 * cl + if co then 32 else 0
def headL (x : It) (n : Nat) : List Int := (if x.tag < 31 then [firstOf x.cls x.cons + x.tag] else (firstOf x.cls x.cons + 31) :: putN x.tag.toNat) ++ lenL n

theorem lenL_len (n : Nat) : (lenL n).length ≤ 4 := by
  unfold lenL
  split
  · simp
  · split
    · simp
    · split <;> simp

theorem or8 (a t : Nat) (ha : a < 8) (ht : t < 32) : bits .or .u8 ((32 * a : Nat) : Int) (t : Int) = ((32 * a + t : Nat) : Int) := by
  rw [u8_or_nat (32 * a) t (by omega) (by omega), Nat.two_pow_add_eq_or_of_lt (i := 5) (b := t) (by omega) a]
theorem or8i (f t : Int) (h0 : 0 ≤ f) (h1 : f < 256) (hf : f % 32 = 0) (ht0 : 0 ≤ t) (ht : t < 32) : bits .or .u8 f t = f + t := by
  have e := or8 (f.toNat / 32) t.toNat (by omega) (by omega)
  rw [show ((32 * (f.toNat / 32) : Nat) : Int) = f by omega, show (t.toNat : Int) = t by omega] at e
  rw [e]
  omega
theorem or8c (cl : Int) (h0 : 0 ≤ cl) (h1 : cl ≤ 3) : bits .or .u8 (cl * 64) 32 = cl * 64 + 32 := by
  have hc : cl = 0 ∨ cl = 1 ∨ cl = 2 ∨ cl = 3 := by omega
  rcases hc with rfl | rfl | rfl | rfl <;> decide +kernel

/-- append as a step of a region: what is appended is whatever is read. -/
theorem step_append_row' {P : Program} {ops : Array Oper} {o : Oper} {a : Act} {w : World} {K : Act → World → Prop} {Q : Exit → Act → World → Prop} {E : Prop}
    (hg : o.guard = none) (s x : Operand) (t : TypeId) (hop : o.op = Op.call { callee := Callee.builtin Builtin.append, args := #[s, x], argTypes := #[t, t] })
    (base : Nat) (i : TypeInfo) (h1 : P.underlying t = some (.slice 5)) (h2 : P.info? 5 = some i) (h3 : i.zero = some (.int .u8 0)) (h4 : i.size = 1) (h5 : i.bytes = 1)
    (v : Value) (n : Nat) (xs : List Value) (hs : a.eval s = v) (hown : w.ownsRow base 5 1 v n xs)
    (ao : Option Addr) (m c : Nat) (ys : List Int) (hx : a.eval x = .slice ao m c) (hrow : Row w ao m ys) (hnil : ao = none → c = 0)
    (b1 : n + m ≤ 140737488355328) (b3 : base ≤ w.heap.size)
    (hK : ∀ v' w', w'.ownsRow base 5 1 v' (n + m) (xs ++ ys.map (Value.int .u8)) → w.grownBy w' v.ownBlock → K (a.put o.dst v') w') :
    if Region.wanted o (yielded ops a.tmps) = true then Oper.wp P o a w K Q else E := by
  have hw : Region.wanted o (yielded ops a.tmps) = true := by simp [Region.wanted, hg]
  rw [if_pos hw]
  cases ao with
  | some ad =>
    obtain ⟨v', w', hrun, r1, r2, _⟩ := run_append_own (P := P) w base t o.type 5 i (.int .u8 0) 1 1 h1 h2 h3 h4 h5 rfl (by decide) v n xs hown ad m c (ys.map (Value.int .u8)) (by rw [List.length_map, hrow.len, Nat.mul_one]) (row_cells hrow) (ints_oneCell _ _) (by unfold maxLen; omega) (by omega) b3
    unfold Oper.wp
    simp [execOp, hop, resolve, invoke, builtin, hs, hx, hrun, Result.andThen]
    exact hK v' w' r1 r2
  | none =>
    obtain ⟨rfl, rfl⟩ := row_none hrow
    obtain rfl := hnil rfl
    have hrun := run_append_owned_none (P := P) (w := w) base t o.type 5 i 1 h1 h2 v n xs hown
    unfold Oper.wp
    simp [execOp, hop, resolve, invoke, builtin, hs, hx, hrun, Result.andThen]
    exact hK v w (by simpa using hown) (World.grownBy.refl _ _)

set_option maxRecDepth 10000 in
set_option maxHeartbeats 1000000 in
theorem itemHead_any (x : It) (ab : Option Addr) (nb cb : Nat) (ak : Option Addr) (nk ck : Nat) (n : Nat) (w : World) (h1 : 0 ≤ x.cls ∧ x.cls ≤ 3) (h2 : 0 ≤ x.tag ∧ x.tag ≤ 268435455) (hn : n < 16777216) :
    Calls Tryd.prog 56 #[itv x ab nb cb ak nk ck, .int .i64 n] w fun e w' => ∃ a cap, e = .returned (.slice a (headL x n).length cap) ∧ Own w.heap.size w' a (headL x n).length cap (headL x n) ∧ Below w.heap.size w w' := by
  obtain ⟨i0, hi, hz0, hz1, hz2⟩ := info_parts Tryd.info5
  obtain ⟨cl, tg, co, bo, ks⟩ := x
  simp only [It.cls, It.tag, itv, It.cons] at h1 h2 ⊢
  obtain ⟨c0, c1⟩ := h1
  obtain ⟨t0, t1⟩ := h2
  have hbl : Below w.heap.size w (w.alloc (.cells #[.int .i64 cl, .int .i64 tg, .bool co, .slice ab nb cb, .slice ak nk ck] 26)) := (Below.refl _ _).alloc (Nat.le_refl _) _
  cases co with
  | true =>
    have hor := or8c cl c0 c1
    have hfo : firstOf cl true = cl * 64 + 32 := by simp [firstOf]; omega
    have hbc : (w.alloc (.cells #[.int .i64 cl, .int .i64 tg, .bool true, .slice ab nb cb, .slice ak nk ck] 26)).cell? ⟨w.heap.size, 1, none⟩ = some (.int .i64 tg) := by rw [cell_of_row _ w.heap.size 1 _ 26 (0, 0) (heap_alloc_new w _)]; rfl
    have hbs : (w.alloc (.cells #[.int .i64 cl, .int .i64 tg, .bool true, .slice ab nb cb, .slice ak nk ck] 26)).heap.size = w.heap.size + 1 := by simp
    have hkA : ∀ o : Obj, ((w.alloc (.cells #[.int .i64 cl, .int .i64 tg, .bool true, .slice ab nb cb, .slice ak nk ck] 26)).alloc o).cell? ⟨w.heap.size, 1, none⟩ = some (.int .i64 tg) := fun o => (((Below.refl (w.alloc (.cells #[.int .i64 cl, .int .i64 tg, .bool true, .slice ab nb cb, .slice ak nk ck] 26)).heap.size (w.alloc (.cells #[.int .i64 cl, .int .i64 tg, .bool true, .slice ab nb cb, .slice ak nk ck] 26))).alloc (Nat.le_refl _) o).cell (p := ⟨w.heap.size, 1, none⟩) (by simp)).trans hbc
    by_cases ht : tg < 31
    · have hft : bits .or .u8 (cl * 64 + 32) tg = cl * 64 + 32 + tg := or8i _ _ (by omega) (by omega) (by omega) t0 (by omega)
      have hwt : IntKind.u8.wrap tg = tg := by rw [IntKind.wrap_u8]; omega
      have el : headL (.mk cl tg true bo ks) n = [cl * 64 + 32 + tg] ++ lenL n := by show (if tg < 31 then [firstOf cl true + tg] else (firstOf cl true + 31) :: putN tg.toNat) ++ lenL n = _; rw [if_pos ht, hfo]
      have EL : Hid (_ = _) := el
      clear el hfo
      have HO : ∀ W : World, w.heap.size ≤ W.heap.size → ∀ g, W.heap.size = g → Hid (Own w.heap.size (W.alloc (.cells #[.int .u8 (cl * 64 + 32 + tg)] 5)) (some ⟨g, 0, none⟩) 1 1 [cl * 64 + 32 + tg]) := fun W h g hg => own_one w.heap.size W g hg h (cl * 64 + 32 + tg) (by omega)
      go_enter Tryd.func56, Tryd.ntmps56
      go_wp2_with fail
      go_region_held_law (fun w' => w'.cell? ⟨w.heap.size, 1, none⟩ = some (.int .i64 tg)) (first | assumption | exact hbc | exact hkA _ | exact hS3 | exact hS3a _ | exact hS5)
        (first
          | (go_at_call 74; refine (lengthBytes_any n _ hn).mono ?_; rintro e w3 ⟨a3, c3, rfl, ho3, hb3⟩; have hS3 : w3.cell? ⟨w.heap.size, 1, none⟩ = some (.int .i64 tg) := (hb3.cell (p := ⟨w.heap.size, 1, none⟩) (by simp <;> omega)).trans (by first | exact hbc | exact hkA _); have hS3a : ∀ o : Obj, (w3.alloc o).cell? ⟨w.heap.size, 1, none⟩ = some (.int .i64 tg) := fun o => (((Below.refl w3.heap.size w3).alloc (Nat.le_refl _) o).cell (p := ⟨w.heap.size, 1, none⟩) (by have := hb3.size; simp at this; show w.heap.size < _; omega)).trans hS3)
          | (have hOb := ((HO (w.alloc (.cells #[.int .i64 cl, .int .i64 tg, .bool true, .slice ab nb cb, .slice ak nk ck] 26)) (by simp) (w.heap.size + 1) (by simp)).out.drew.kept hb3); have hBb : Below w.heap.size w w3 := ((hbl.alloc (by simp) _).drew).trans (hb3.mono (by simp <;> omega)); refine step_append_row' rfl (.tmp 23) (.tmp 25) 22 rfl w.heap.size i0 Tryd.underlying22 hi hz0 hz1 hz2 _ _ _ rfl hOb.row a3 _ c3 (lenL n) rfl ho3.toRow ho3.nil (by have := lenL_len n; omega) hBb.size ?_; intro v5 w5 hv5 hg5; obtain ⟨a5, c5, rfl, ho5⟩ := own_appended (xs := [cl * 64 + 32 + tg]) (ys := lenL n) hv5 hOb.byte ho3.byte; have hB5 : Below w.heap.size w w5 := below_appended hBb hBb.size hOb.row hg5; have hS5 : w5.cell? ⟨w.heap.size, 1, none⟩ = some (.int .i64 tg) := (hg5.cell_far ⟨w.heap.size, 1, none⟩ (by have := hb3.size; simp at this; show w.heap.size < _; omega) (by show some w.heap.size ≠ some (w.heap.size + 1); simp)).trans hS3)
          | (have hOb := (HO w3 (by have := hb3.size; simp at this; omega) w3.heap.size rfl).out; have hBb : Below w.heap.size w (w3.alloc (.cells #[.int .u8 (cl * 64 + 32 + tg)] 5)) := (hbl.drew.trans (hb3.mono (by simp))).alloc (by have := hb3.size; simp at this; omega) _; have hor3 := ho3.toRow.kept ((Below.refl w3.heap.size w3).alloc (Nat.le_refl _) (.cells #[.int .u8 (cl * 64 + 32 + tg)] 5)); refine step_append_row' rfl (.tmp 23) (.tmp 25) 22 rfl w.heap.size i0 Tryd.underlying22 hi hz0 hz1 hz2 _ _ _ rfl hOb.row a3 _ c3 (lenL n) rfl hor3 ho3.nil (by have := lenL_len n; omega) hBb.size ?_; intro v5 w5 hv5 hg5; obtain ⟨a5, c5, rfl, ho5⟩ := own_appended (xs := [cl * 64 + 32 + tg]) (ys := lenL n) hv5 hOb.byte ho3.byte; have hB5 : Below w.heap.size w w5 := below_appended hBb hBb.size hOb.row hg5; have hS5 : w5.cell? ⟨w.heap.size, 1, none⟩ = some (.int .i64 tg) := (hg5.cell_far ⟨w.heap.size, 1, none⟩ (by have := hb3.size; simp at this; simp; omega) (by have := hb3.size; simp at this; show some w.heap.size ≠ some w3.heap.size; simp; omega)).trans (hS3a _)))
      all_goals (
        have HL : Hid (([cl * 64 + 32 + tg] ++ lenL n).length = 1 + (lenL n).length) := by show _ = _; rw [List.length_append]; rfl
        go_wp2
        go_ret
        exact ⟨a5, c5, by rw [EL.out, HL.out, Nat.add_comm 1]; simp [Array.getD], by rw [EL.out, HL.out]; exact ho5, hB5⟩)
    · have hf31 : bits .or .u8 (cl * 64 + 32) 31 = cl * 64 + 32 + 31 := or8i _ _ (by omega) (by omega) (by omega) (by decide) (by decide)
      have el : headL (.mk cl tg true bo ks) n = [cl * 64 + 32 + 31] ++ putN tg.toNat ++ lenL n := by show (if tg < 31 then [firstOf cl true + tg] else (firstOf cl true + 31) :: putN tg.toNat) ++ lenL n = _; rw [if_neg ht, hfo]; rfl
      have EL : Hid (_ = _) := el
      clear el hfo
      have HO := own_one w.heap.size (w.alloc (.cells #[.int .i64 cl, .int .i64 tg, .bool true, .slice ab nb cb, .slice ak nk ck] 26)) (w.heap.size + 1) (by simp) (by simp) (cl * 64 + 32 + 31) (by omega)
      have hB2 : Below w.heap.size w ((w.alloc (.cells #[.int .i64 cl, .int .i64 tg, .bool true, .slice ab nb cb, .slice ak nk ck] 26)).alloc (.cells #[.int .u8 (cl * 64 + 32 + 31)] 5)) := hbl.alloc (by simp) _
      have HO2 : Hid (Own w.heap.size ((w.alloc (.cells #[.int .i64 cl, .int .i64 tg, .bool true, .slice ab nb cb, .slice ak nk ck] 26)).alloc (.cells #[.int .u8 (cl * 64 + 32 + 31)] 5)) (some ⟨w.heap.size + 1, 0, none⟩) 1 1 [cl * 64 + 32 + 31]) := HO
      have hpu : putI tg = putN tg.toNat := by rw [putI, if_neg (by omega)]
      have HPU : Hid (putI tg = putN tg.toNat) := hpu
      have hpl : (putN tg.toNat).length ≤ 9 := by rw [putN, putL_len]; exact cnt_le _ (by omega)
      obtain ⟨m0, hm0⟩ : ∃ m0, m0 = (putN tg.toNat).length := ⟨_, rfl⟩
      rw [← hm0] at hpl
      have HM : Hid (m0 = (putN tg.toNat).length) := hm0
      clear HO hpu hm0
      go_enter Tryd.func56, Tryd.ntmps56
      go_wp2_with fail
      refine (implPutNum_any tg _ (by omega)).mono ?_
      rintro e w3 ⟨a3, c3, rfl, ho3, hb3⟩
      rw [HPU.out, ← HM.out] at ho3 ⊢
      have hO3 := HO2.out.kept hb3
      have hB3 : Below w.heap.size w w3 := hB2.trans (hb3.mono hB2.size)
      have hs3 := hB3.size
      go_wp2_with (at_builtin; refine wpList_append_row _ rfl (.tmp 29) (.tmp 32) 22 rfl w.heap.size i0 Tryd.underlying22 hi hz0 hz1 hz2 _ _ _ rfl hO3.row a3 m0 c3 (putN tg.toNat) rfl ho3.toRow ho3.nil (by omega) hs3 ?_; intro v4 w4 hv4 hg4; obtain ⟨a4, c4, rfl, ho4⟩ := own_appended (xs := [cl * 64 + 32 + 31]) (ys := putN tg.toNat) hv4 hO3.byte ho3.byte; have hB4 : Below w.heap.size w w4 := below_appended hB3 hs3 hO3.row hg4)
      refine (lengthBytes_any n _ hn).mono ?_
      rintro e w5 ⟨a5, c5, rfl, ho5, hb5⟩
      have hO5 := ho4.kept hb5
      have hB5 : Below w.heap.size w w5 := hB4.trans (hb5.mono hB4.size)
      have hs5 := hB5.size
      have hll := lenL_len n
      go_wp2_with (at_builtin; refine wpList_append_row _ rfl (.tmp 34) (.tmp 36) 22 rfl w.heap.size i0 Tryd.underlying22 hi hz0 hz1 hz2 _ _ _ rfl hO5.row a5 _ c5 (lenL n) rfl ho5.toRow ho5.nil (by omega) hs5 ?_; intro v6 w6 hv6 hg6)
      obtain ⟨a6, c6, rfl, ho6⟩ := own_appended (xs := [cl * 64 + 32 + 31] ++ putN tg.toNat) (ys := lenL n) hv6 hO5.byte ho5.byte
      have hB6 : Below w.heap.size w w6 := below_appended hB5 hs5 hO5.row hg6
      have HL : Hid (([cl * 64 + 32 + 31] ++ putN tg.toNat ++ lenL n).length = 1 + m0 + (lenL n).length) := by show _ = _; rw [List.length_append, List.length_append, HM.out]; rfl
      go_ret
      exact ⟨a6, c6, by rw [EL.out, HL.out]; rfl, by rw [EL.out, HL.out]; exact ho6, hB6⟩
  | false =>
    have hfo : firstOf cl false = cl * 64 := by simp [firstOf]; omega
    have hbc : (w.alloc (.cells #[.int .i64 cl, .int .i64 tg, .bool false, .slice ab nb cb, .slice ak nk ck] 26)).cell? ⟨w.heap.size, 1, none⟩ = some (.int .i64 tg) := by rw [cell_of_row _ w.heap.size 1 _ 26 (0, 0) (heap_alloc_new w _)]; rfl
    have hbs : (w.alloc (.cells #[.int .i64 cl, .int .i64 tg, .bool false, .slice ab nb cb, .slice ak nk ck] 26)).heap.size = w.heap.size + 1 := by simp
    have hkA : ∀ o : Obj, ((w.alloc (.cells #[.int .i64 cl, .int .i64 tg, .bool false, .slice ab nb cb, .slice ak nk ck] 26)).alloc o).cell? ⟨w.heap.size, 1, none⟩ = some (.int .i64 tg) := fun o => (((Below.refl (w.alloc (.cells #[.int .i64 cl, .int .i64 tg, .bool false, .slice ab nb cb, .slice ak nk ck] 26)).heap.size (w.alloc (.cells #[.int .i64 cl, .int .i64 tg, .bool false, .slice ab nb cb, .slice ak nk ck] 26))).alloc (Nat.le_refl _) o).cell (p := ⟨w.heap.size, 1, none⟩) (by simp)).trans hbc
    by_cases ht : tg < 31
    · have hft : bits .or .u8 (cl * 64) tg = cl * 64 + tg := or8i _ _ (by omega) (by omega) (by omega) t0 (by omega)
      have hwt : IntKind.u8.wrap tg = tg := by rw [IntKind.wrap_u8]; omega
      have el : headL (.mk cl tg false bo ks) n = [cl * 64 + tg] ++ lenL n := by show (if tg < 31 then [firstOf cl false + tg] else (firstOf cl false + 31) :: putN tg.toNat) ++ lenL n = _; rw [if_pos ht, hfo]
      have EL : Hid (_ = _) := el
      clear el hfo
      have HO : ∀ W : World, w.heap.size ≤ W.heap.size → ∀ g, W.heap.size = g → Hid (Own w.heap.size (W.alloc (.cells #[.int .u8 (cl * 64 + tg)] 5)) (some ⟨g, 0, none⟩) 1 1 [cl * 64 + tg]) := fun W h g hg => own_one w.heap.size W g hg h (cl * 64 + tg) (by omega)
      go_enter Tryd.func56, Tryd.ntmps56
      go_wp2_with fail
      go_region_held_law (fun w' => w'.cell? ⟨w.heap.size, 1, none⟩ = some (.int .i64 tg)) (first | assumption | exact hbc | exact hkA _ | exact hS3 | exact hS3a _ | exact hS5)
        (first
          | (go_at_call 74; refine (lengthBytes_any n _ hn).mono ?_; rintro e w3 ⟨a3, c3, rfl, ho3, hb3⟩; have hS3 : w3.cell? ⟨w.heap.size, 1, none⟩ = some (.int .i64 tg) := (hb3.cell (p := ⟨w.heap.size, 1, none⟩) (by simp <;> omega)).trans (by first | exact hbc | exact hkA _); have hS3a : ∀ o : Obj, (w3.alloc o).cell? ⟨w.heap.size, 1, none⟩ = some (.int .i64 tg) := fun o => (((Below.refl w3.heap.size w3).alloc (Nat.le_refl _) o).cell (p := ⟨w.heap.size, 1, none⟩) (by have := hb3.size; simp at this; show w.heap.size < _; omega)).trans hS3)
          | (have hOb := ((HO (w.alloc (.cells #[.int .i64 cl, .int .i64 tg, .bool false, .slice ab nb cb, .slice ak nk ck] 26)) (by simp) (w.heap.size + 1) (by simp)).out.drew.kept hb3); have hBb : Below w.heap.size w w3 := ((hbl.alloc (by simp) _).drew).trans (hb3.mono (by simp <;> omega)); refine step_append_row' rfl (.tmp 23) (.tmp 25) 22 rfl w.heap.size i0 Tryd.underlying22 hi hz0 hz1 hz2 _ _ _ rfl hOb.row a3 _ c3 (lenL n) rfl ho3.toRow ho3.nil (by have := lenL_len n; omega) hBb.size ?_; intro v5 w5 hv5 hg5; obtain ⟨a5, c5, rfl, ho5⟩ := own_appended (xs := [cl * 64 + tg]) (ys := lenL n) hv5 hOb.byte ho3.byte; have hB5 : Below w.heap.size w w5 := below_appended hBb hBb.size hOb.row hg5; have hS5 : w5.cell? ⟨w.heap.size, 1, none⟩ = some (.int .i64 tg) := (hg5.cell_far ⟨w.heap.size, 1, none⟩ (by have := hb3.size; simp at this; show w.heap.size < _; omega) (by show some w.heap.size ≠ some (w.heap.size + 1); simp)).trans hS3)
          | (have hOb := (HO w3 (by have := hb3.size; simp at this; omega) w3.heap.size rfl).out; have hBb : Below w.heap.size w (w3.alloc (.cells #[.int .u8 (cl * 64 + tg)] 5)) := (hbl.drew.trans (hb3.mono (by simp))).alloc (by have := hb3.size; simp at this; omega) _; have hor3 := ho3.toRow.kept ((Below.refl w3.heap.size w3).alloc (Nat.le_refl _) (.cells #[.int .u8 (cl * 64 + tg)] 5)); refine step_append_row' rfl (.tmp 23) (.tmp 25) 22 rfl w.heap.size i0 Tryd.underlying22 hi hz0 hz1 hz2 _ _ _ rfl hOb.row a3 _ c3 (lenL n) rfl hor3 ho3.nil (by have := lenL_len n; omega) hBb.size ?_; intro v5 w5 hv5 hg5; obtain ⟨a5, c5, rfl, ho5⟩ := own_appended (xs := [cl * 64 + tg]) (ys := lenL n) hv5 hOb.byte ho3.byte; have hB5 : Below w.heap.size w w5 := below_appended hBb hBb.size hOb.row hg5; have hS5 : w5.cell? ⟨w.heap.size, 1, none⟩ = some (.int .i64 tg) := (hg5.cell_far ⟨w.heap.size, 1, none⟩ (by have := hb3.size; simp at this; simp; omega) (by have := hb3.size; simp at this; show some w.heap.size ≠ some w3.heap.size; simp; omega)).trans (hS3a _)))
      all_goals (
        have HL : Hid (([cl * 64 + tg] ++ lenL n).length = 1 + (lenL n).length) := by show _ = _; rw [List.length_append]; rfl
        go_wp2
        go_ret
        exact ⟨a5, c5, by rw [EL.out, HL.out, Nat.add_comm 1]; simp [Array.getD], by rw [EL.out, HL.out]; exact ho5, hB5⟩)
    · have hf31 : bits .or .u8 (cl * 64) 31 = cl * 64 + 31 := or8i _ _ (by omega) (by omega) (by omega) (by decide) (by decide)
      have el : headL (.mk cl tg false bo ks) n = [cl * 64 + 31] ++ putN tg.toNat ++ lenL n := by show (if tg < 31 then [firstOf cl false + tg] else (firstOf cl false + 31) :: putN tg.toNat) ++ lenL n = _; rw [if_neg ht, hfo]; rfl
      have EL : Hid (_ = _) := el
      clear el hfo
      have HO := own_one w.heap.size (w.alloc (.cells #[.int .i64 cl, .int .i64 tg, .bool false, .slice ab nb cb, .slice ak nk ck] 26)) (w.heap.size + 1) (by simp) (by simp) (cl * 64 + 31) (by omega)
      have hB2 : Below w.heap.size w ((w.alloc (.cells #[.int .i64 cl, .int .i64 tg, .bool false, .slice ab nb cb, .slice ak nk ck] 26)).alloc (.cells #[.int .u8 (cl * 64 + 31)] 5)) := hbl.alloc (by simp) _
      have HO2 : Hid (Own w.heap.size ((w.alloc (.cells #[.int .i64 cl, .int .i64 tg, .bool false, .slice ab nb cb, .slice ak nk ck] 26)).alloc (.cells #[.int .u8 (cl * 64 + 31)] 5)) (some ⟨w.heap.size + 1, 0, none⟩) 1 1 [cl * 64 + 31]) := HO
      have hpu : putI tg = putN tg.toNat := by rw [putI, if_neg (by omega)]
      have HPU : Hid (putI tg = putN tg.toNat) := hpu
      have hpl : (putN tg.toNat).length ≤ 9 := by rw [putN, putL_len]; exact cnt_le _ (by omega)
      obtain ⟨m0, hm0⟩ : ∃ m0, m0 = (putN tg.toNat).length := ⟨_, rfl⟩
      rw [← hm0] at hpl
      have HM : Hid (m0 = (putN tg.toNat).length) := hm0
      clear HO hpu hm0
      go_enter Tryd.func56, Tryd.ntmps56
      go_wp2_with fail
      refine (implPutNum_any tg _ (by omega)).mono ?_
      rintro e w3 ⟨a3, c3, rfl, ho3, hb3⟩
      rw [HPU.out, ← HM.out] at ho3 ⊢
      have hO3 := HO2.out.kept hb3
      have hB3 : Below w.heap.size w w3 := hB2.trans (hb3.mono hB2.size)
      have hs3 := hB3.size
      go_wp2_with (at_builtin; refine wpList_append_row _ rfl (.tmp 29) (.tmp 32) 22 rfl w.heap.size i0 Tryd.underlying22 hi hz0 hz1 hz2 _ _ _ rfl hO3.row a3 m0 c3 (putN tg.toNat) rfl ho3.toRow ho3.nil (by omega) hs3 ?_; intro v4 w4 hv4 hg4; obtain ⟨a4, c4, rfl, ho4⟩ := own_appended (xs := [cl * 64 + 31]) (ys := putN tg.toNat) hv4 hO3.byte ho3.byte; have hB4 : Below w.heap.size w w4 := below_appended hB3 hs3 hO3.row hg4)
      refine (lengthBytes_any n _ hn).mono ?_
      rintro e w5 ⟨a5, c5, rfl, ho5, hb5⟩
      have hO5 := ho4.kept hb5
      have hB5 : Below w.heap.size w w5 := hB4.trans (hb5.mono hB4.size)
      have hs5 := hB5.size
      have hll := lenL_len n
      go_wp2_with (at_builtin; refine wpList_append_row _ rfl (.tmp 34) (.tmp 36) 22 rfl w.heap.size i0 Tryd.underlying22 hi hz0 hz1 hz2 _ _ _ rfl hO5.row a5 _ c5 (lenL n) rfl ho5.toRow ho5.nil (by omega) hs5 ?_; intro v6 w6 hv6 hg6)
      obtain ⟨a6, c6, rfl, ho6⟩ := own_appended (xs := [cl * 64 + 31] ++ putN tg.toNat) (ys := lenL n) hv6 hO5.byte ho5.byte
      have hB6 : Below w.heap.size w w6 := below_appended hB5 hs5 hO5.row hg6
      have HL : Hid (([cl * 64 + 31] ++ putN tg.toNat ++ lenL n).length = 1 + m0 + (lenL n).length) := by show _ = _; rw [List.length_append, List.length_append, HM.out]; rfl
      go_ret
      exact ⟨a6, c6, by rw [EL.out, HL.out]; rfl, by rw [EL.out, HL.out]; exact ho6, hB6⟩

end Go.Proofs.YtjkkokjojaknkaaDoor

namespace Go.Proofs.YtjkkokjojaknkaaDoor
open Go.RowKit

/-- The bytes of kids, one behind the other, up to 20000. -/
def encK (f : It → Option (List Int)) : List Int → List It → Option (List Int)
  | acc, [] => some acc
  | acc, x :: xs => match f x with
    | none => none
    | some p => if acc.length + p.length ≤ 20000 then encK f (acc ++ p) xs else none

/-- What stands behind an item's head. -/
def innerBy (f : It → Option (List Int)) (x : It) : Option (List Int) := if x.cons then encK f [] x.kids else if x.body.length ≤ 20000 then some x.body else none

/-- An item's bytes, r levels deep at most. -/
def enc : Nat → It → Option (List Int)
  | 0, _ => none
  | r + 1, x => if x.shape then
      match innerBy (enc r) x with
      | none => none
      | some inner => if (headL x inner.length ++ inner).length ≤ 20000 then some (headL x inner.length ++ inner) else none
    else none

theorem encK_len (f : It → Option (List Int)) (xs : List It) : ∀ acc l, acc.length ≤ 20000 → encK f acc xs = some l → l.length ≤ 20000 := by
  induction xs with
  | nil => intro acc l h e; simp [encK] at e; subst e; exact h
  | cons x xs ih =>
    intro acc l h e
    simp only [encK] at e
    split at e
    · cases e
    · split at e
      · exact ih _ _ (by rw [List.length_append]; assumption) e
      · cases e
theorem innerBy_len (f : It → Option (List Int)) (x : It) (l : List Int) (h : innerBy f x = some l) : l.length ≤ 20000 := by
  unfold innerBy at h
  split at h
  · exact encK_len f _ _ _ (by simp) h
  · split at h
    · simp at h; subst h; assumption
    · cases h
theorem enc_len (r : Nat) (x : It) (l : List Int) (h : enc r x = some l) : l.length ≤ 20000 := by
  cases r with
  | zero => simp [enc] at h
  | succ r =>
    simp only [enc] at h
    split at h
    · split at h
      · cases h
      · split at h
        · simp at h; subst h; assumption
        · cases h
    · cases h
theorem drop_get (xs : List It) (k : Nat) (h : k < xs.length) : xs.drop k = xs.getD k default :: xs.drop (k + 1) := by
  rw [List.drop_eq_getElem_cons h]
  simp [h]
theorem encK_next (f : It → Option (List Int)) (xs : List It) (k : Nat) (h : k < xs.length) (acc p : List Int) (hp : f (xs.getD k default) = some p) (hl : acc.length + p.length ≤ 20000) : encK f acc (xs.drop k) = encK f (acc ++ p) (xs.drop (k + 1)) := by
  rw [drop_get xs k h, encK, hp]
  simp [hl]
theorem encK_none (f : It → Option (List Int)) (xs : List It) (k : Nat) (h : k < xs.length) (acc : List Int) (hp : f (xs.getD k default) = none) : encK f acc (xs.drop k) = none := by
  rw [drop_get xs k h, encK, hp]
theorem encK_long (f : It → Option (List Int)) (xs : List It) (k : Nat) (h : k < xs.length) (acc p : List Int) (hp : f (xs.getD k default) = some p) (hl : ¬ acc.length + p.length ≤ 20000) : encK f acc (xs.drop k) = none := by
  rw [drop_get xs k h, encK, hp]
  simp only [if_neg hl]
theorem encK_end (f : It → Option (List Int)) (xs : List It) (k : Nat) (h : xs.length ≤ k) (acc : List Int) : encK f acc (xs.drop k) = some acc := by
  rw [List.drop_eq_nil_of_le h, encK]

theorem shape_bounds {x : It} (h : x.shape = true) : (0 ≤ x.cls ∧ x.cls ≤ 3) ∧ 0 ≤ x.tag ∧ x.tag ≤ 268435455 := by
  unfold It.shape at h
  simp only [Bool.and_eq_true, decide_eq_true_eq] at h
  omega

/-- An answer of bytes, or none. -/
def Ans (B : Nat) (o : Option (List Int)) (e : Ending) (w' : World) : Prop :=
  (∃ a n cap bs, e = .returned (.tuple #[.slice a n cap, .bool true]) ∧ Hid (o = some bs) ∧ Own B w' a n cap bs) ∨ (e = .returned (.tuple #[.slice none 0 0, .bool false]) ∧ Hid (o = none))

end Go.Proofs.YtjkkokjojaknkaaDoor
