import Derived.Test.YtjkkokjojaknkaaDoorFB
import Derived.Test.YtjkkokjojaknkaaDoorFC
namespace Go.Proofs.YtjkkokjojaknkaaDoor
open Go.RowKit

/-- Is what stands in the item itself right? -/
def It.shape (x : It) : Bool := decide (0 ≤ x.cls ∧ x.cls ≤ 3 ∧ 0 ≤ x.tag ∧ x.tag ≤ 268435455 ∧ ¬(x.cls = 0 ∧ x.tag = 0)) && (if x.cons then x.body.isEmpty else x.kids.isEmpty)

set_option maxRecDepth 10000 in
set_option maxHeartbeats 1000000 in
theorem shapeOk_any (x : It) (ab : Option Addr) (nb cb : Nat) (ak : Option Addr) (nk ck : Nat) (w : World) (hb : x.body.length = nb) (hk : x.kids.length = nk) :
    Calls Tryd.prog 54 #[itv x ab nb cb ak nk ck] w fun e w' => e = .returned (.bool x.shape) ∧ Below w.heap.size w w' := by
  have hbl : Below w.heap.size w (w.alloc (.cells #[.int .i64 x.cls, .int .i64 x.tag, .bool x.cons, .slice ab nb cb, .slice ak nk ck] 26)) := (Below.refl _ _).alloc (Nat.le_refl _) _
  have e1 : x.body.isEmpty = decide (nb = 0) := by rw [← hb]; cases x.body <;> simp
  have e2 : x.kids.isEmpty = decide (nk = 0) := by rw [← hk]; cases x.kids <;> simp
  have HS : Hid (x.shape = (decide (0 ≤ x.cls ∧ x.cls ≤ 3 ∧ 0 ≤ x.tag ∧ x.tag ≤ 268435455 ∧ ¬(x.cls = 0 ∧ x.tag = 0)) && (if x.cons then decide (nb = 0) else decide (nk = 0)))) := by show _ = _; rw [It.shape, e1, e2]
  clear e1 e2 hb hk
  obtain ⟨cl, hcl⟩ : ∃ cl, cl = x.cls := ⟨_, rfl⟩
  obtain ⟨tg, htg⟩ : ∃ tg, tg = x.tag := ⟨_, rfl⟩
  obtain ⟨co, hco⟩ : ∃ co, co = x.cons := ⟨_, rfl⟩
  unfold itv
  rw [← hcl, ← htg, ← hco] at HS hbl ⊢
  clear hcl htg hco
  by_cases hA : 0 ≤ cl ∧ cl ≤ 3 ∧ 0 ≤ tg ∧ tg ≤ 268435455
  · obtain ⟨p1, p2, p3, p4⟩ := hA
    by_cases hB : cl = 0 ∧ tg = 0
    · obtain ⟨rfl, rfl⟩ := hB
      go_enter Tryd.func54, Tryd.ntmps54
      go_wp2
      go_ret
      exact ⟨by rw [HS.out]; simp, hbl⟩
    · cases co with
      | true =>
        have HT : Hid (x.shape = ((nb : Int) == 0)) := by show _ = _; rw [HS.out, decide_eq_true ⟨p1, p2, p3, p4, hB⟩, Bool.eq_iff_iff]; simp
        clear HS
        by_cases hc : cl = 0
        · subst hc
          have ht : (tg == 0) = false := by simp; exact fun h => hB ⟨rfl, h⟩
          clear hB
          go_enter Tryd.func54, Tryd.ntmps54
          go_wp2
          go_ret
          exact ⟨by rw [HT.out]; rfl, hbl⟩
        · have hc' : (cl == 0) = false := by simp [hc]
          clear hB hc
          go_enter Tryd.func54, Tryd.ntmps54
          go_wp2
          go_ret
          exact ⟨by rw [HT.out]; rfl, hbl⟩
      | false =>
        have HT : Hid (x.shape = ((nk : Int) == 0)) := by show _ = _; rw [HS.out, decide_eq_true ⟨p1, p2, p3, p4, hB⟩, Bool.eq_iff_iff]; simp
        clear HS
        by_cases hc : cl = 0
        · subst hc
          have ht : (tg == 0) = false := by simp; exact fun h => hB ⟨rfl, h⟩
          clear hB
          go_enter Tryd.func54, Tryd.ntmps54
          go_wp2
          go_ret
          exact ⟨by rw [HT.out]; rfl, hbl⟩
        · have hc' : (cl == 0) = false := by simp [hc]
          clear hB hc
          go_enter Tryd.func54, Tryd.ntmps54
          go_wp2
          go_ret
          exact ⟨by rw [HT.out]; rfl, hbl⟩
  · have HT : Hid (x.shape = false) := by show _ = _; rw [HS.out, decide_eq_false (fun h => hA ⟨h.1, h.2.1, h.2.2.1, h.2.2.2.1⟩)]; rfl
    go_enter Tryd.func54, Tryd.ntmps54
    go_wp2
    all_goals (go_ret; exact ⟨by rw [HT.out]; rfl, hbl⟩)

set_option maxRecDepth 10000 in
set_option maxHeartbeats 400000 in
theorem l1In_any (x lo hi : Int) (w : World) : Calls Tryd.prog 57 #[.int .i64 x, .int .i64 lo, .int .i64 hi] w fun e w' => e = .returned (.bool (decide (lo ≤ x ∧ x ≤ hi))) ∧ w = w' := by
  by_cases h1 : lo ≤ x
  · by_cases h2 : x ≤ hi
    · go_enter Tryd.func57, Tryd.ntmps57
      go_wp2
      go_ret
      exact ⟨by rw [decide_eq_true ⟨h1, h2⟩]; simp [*], rfl⟩
    · go_enter Tryd.func57, Tryd.ntmps57
      go_wp2
      go_ret
      exact ⟨by rw [decide_eq_false (by omega)]; simp [*], rfl⟩
  · go_enter Tryd.func57, Tryd.ntmps57
    go_wp2
    go_ret
    exact ⟨by rw [decide_eq_false (by omega)]; simp [*], rfl⟩

end Go.Proofs.YtjkkokjojaknkaaDoor

namespace Go.Proofs.YtjkkokjojaknkaaDoor
open Go.RowKit

/-- The length as an item's head has it. -/
def lenL (n : Nat) : List Int := if n < 128 then [(n : Int)] else if n < 256 then [129, (n : Int)] else if n < 65536 then [130, (n : Int) / 256, (n : Int) % 256] else [131, (n : Int) / 65536, (n : Int) / 256 % 256, (n : Int) % 256]
theorem lenL_byte (n : Nat) (h : n < 16777216) : ∀ k, 0 ≤ (lenL n).getD k 0 ∧ (lenL n).getD k 0 ≤ 255 := by
  intro k
  unfold lenL
  split
  · match k with | 0 => simp; omega | k + 1 => simp
  · split
    · match k with | 0 => simp | 1 => simp; omega | k + 2 => simp
    · split
      · match k with | 0 => simp | 1 => simp; omega | 2 => simp; omega | k + 3 => simp
      · match k with | 0 => simp | 1 => simp; omega | 2 => simp; omega | 3 => simp; omega | k + 4 => simp

theorem eight_small (n : Nat) (h : n < 16777216) (x0 x1 x2 x3 x4 x5 x6 x7 : Int) (he : [x0, x1, x2, x3, x4, x5, x6, x7] = eight n) :
    x0 = 0 ∧ x1 = 0 ∧ x2 = 0 ∧ x3 = 0 ∧ x4 = 0 ∧ x5 = (n : Int) / 65536 ∧ x6 = (n : Int) / 256 % 256 ∧ x7 = (n : Int) % 256 := by
  simp only [eight, List.cons.injEq] at he
  omega

theorem own_one (B : Nat) (w : World) (g : Nat) (hg : w.heap.size = g) (h : B ≤ w.heap.size) (x : Int) (hx : 0 ≤ x ∧ x ≤ 255) : Own B (w.alloc (.cells #[.int .u8 x] 5)) (some ⟨g, 0, none⟩) 1 1 [x] := by
  subst hg
  exact ⟨World.ownsRow_lit w #[.int .u8 x] 1 h (by decide) rfl, fun k => by match k with | 0 => simpa using hx | k + 1 => simp⟩
theorem row_tail (w : World) (x0 x1 x2 x3 x4 x5 x6 x7 : Int) (t : TypeId) (o : Obj) (j m : Nat) (hj : j + m = 8) (bs : List Int) (hbs : bs = [x0, x1, x2, x3, x4, x5, x6, x7].drop j) (hb : ∀ k, 0 ≤ bs.getD k 0 ∧ bs.getD k 0 ≤ 255) :
    Row ((w.alloc (.cells #[.int .u8 x0, .int .u8 x1, .int .u8 x2, .int .u8 x3, .int .u8 x4, .int .u8 x5, .int .u8 x6, .int .u8 x7] t)).alloc o) (some ⟨w.heap.size, j, none⟩) m bs := by
  refine ⟨by rw [hbs]; simp; omega, fun k hk => ⟨_, _, rfl, by simp; omega, ?_⟩, hb⟩
  have e1 := ((Below.refl (w.alloc (.cells #[.int .u8 x0, .int .u8 x1, .int .u8 x2, .int .u8 x3, .int .u8 x4, .int .u8 x5, .int .u8 x6, .int .u8 x7] t)).heap.size (w.alloc (.cells #[.int .u8 x0, .int .u8 x1, .int .u8 x2, .int .u8 x3, .int .u8 x4, .int .u8 x5, .int .u8 x6, .int .u8 x7] t))).alloc (Nat.le_refl _) o).cell (p := ⟨w.heap.size, j + k, none⟩) (by simp)
  rw [e1, cell_of_row _ w.heap.size (j + k) _ t (0, 0) (heap_alloc_new w _), hbs]
  have hc : j + k < 8 := by omega
  have e2 : ([x0, x1, x2, x3, x4, x5, x6, x7].drop j).getD k 0 = [x0, x1, x2, x3, x4, x5, x6, x7].getD (j + k) 0 := by simp [List.getElem?_drop]
  rw [e2]
  obtain ⟨q, hq⟩ : ∃ q, q = j + k := ⟨_, rfl⟩
  rw [← hq] at hc ⊢
  have hc : q = 0 ∨ q = 1 ∨ q = 2 ∨ q = 3 ∨ q = 4 ∨ q = 5 ∨ q = 6 ∨ q = 7 := by omega
  rcases hc with rfl | rfl | rfl | rfl | rfl | rfl | rfl | rfl <;> rfl

set_option maxRecDepth 10000 in
set_option maxHeartbeats 1000000 in
theorem lengthBytes_any (n : Nat) (w : World) (h : n < 16777216) :
    Calls Tryd.prog 74 #[.int .i64 n] w fun e w' => ∃ a cap, e = .returned (.slice a (lenL n).length cap) ∧ Own w.heap.size w' a (lenL n).length cap (lenL n) ∧ Below w.heap.size w w' := by
  obtain ⟨i0, hi, hz0, hz1, hz2⟩ := info_parts Tryd.info5
  by_cases h1 : n < 128
  · have el : lenL n = [(n : Int)] := by rw [lenL, if_pos h1]
    rw [el]
    clear el
    have h1' : (n : Int) < 128 := by omega
    have hw : IntKind.u8.wrap (n : Int) = n := by rw [IntKind.wrap_u8]; omega
    go_enter Tryd.func74, Tryd.ntmps74
    go_wp2
    go_ret
    exact ⟨_, _, rfl, own_one _ w _ rfl (Nat.le_refl _) n (by omega), (Below.refl _ _).alloc (Nat.le_refl _) _⟩
  · have h1' : ¬ (n : Int) < 128 := by omega
    go_enter Tryd.func74, Tryd.ntmps74
    go_wp2_with fail
    refine (eight_any n _ (by omega)).mono ?_
    rintro e w1 ⟨x0, x1, x2, x3, x4, x5, x6, x7, rfl, he, hb1⟩
    obtain ⟨rfl, rfl, rfl, rfl, rfl, h5, h6, h7⟩ := eight_small n h _ _ _ _ _ _ _ _ he
    clear he
    have hs1 := hb1.size
    by_cases h2 : n < 256
    · have h5' : x5 = 0 := by omega
      have h6' : x6 = 0 := by omega
      have h7' : x7 = (n : Int) := by omega
      clear h5 h6 h7
      subst h5' h6' h7'
      have hne : ((n : Int) == 0) = false := by simp; omega
      have el : lenL n = [129, (n : Int)] := by rw [lenL, if_neg h1, if_pos h2]
      have HO : Hid (Own w.heap.size ((w1.alloc (.cells #[.int .u8 0, .int .u8 0, .int .u8 0, .int .u8 0, .int .u8 0, .int .u8 0, .int .u8 0, .int .u8 n] 86)).alloc (.cells #[.int .u8 129] 5)) (some ⟨w1.heap.size + 1, 0, none⟩) 1 1 [129]) := own_one w.heap.size (w1.alloc (.cells #[.int .u8 0, .int .u8 0, .int .u8 0, .int .u8 0, .int .u8 0, .int .u8 0, .int .u8 0, .int .u8 n] 86)) _ (by simp) (by simp; omega) 129 (by decide)
      have HR : Hid (Row ((w1.alloc (.cells #[.int .u8 0, .int .u8 0, .int .u8 0, .int .u8 0, .int .u8 0, .int .u8 0, .int .u8 0, .int .u8 n] 86)).alloc (.cells #[.int .u8 129] 5)) (some ⟨w1.heap.size, 7, none⟩) 1 [n]) := row_tail w1 (0) (0) (0) (0) (0) (0) (0) (n) 86 (.cells #[.int .u8 129] 5) 7 1 rfl [n] rfl (fun k => by match k with | 0 => simp; omega | k + 1 => simp)
      have hB2 : Below w.heap.size w ((w1.alloc (.cells #[.int .u8 0, .int .u8 0, .int .u8 0, .int .u8 0, .int .u8 0, .int .u8 0, .int .u8 0, .int .u8 n] 86)).alloc (.cells #[.int .u8 129] 5)) := (hb1.alloc hs1 _).alloc (by simp; omega) _
      have EL : Hid (lenL n = [129, (n : Int)]) := el
      clear el
      go_wp2
      refine wp_loop_rounds 9 ?_
      iterate 7 (rw [rounds_succ]; go_wp2)
      rw [rounds_succ]
      go_wp2_with (at_builtin; refine wpList_append_row _ rfl (.tmp 22) (.tmp 24) 22 rfl w.heap.size i0 Tryd.underlying22 hi hz0 hz1 hz2 _ _ _ rfl HO.out.row _ 1 1 [n] rfl HR.out (by simp) (by omega) (by simp; omega) ?_; intro v3 w3 hv3 hg3)
      obtain ⟨a3, c3, rfl, ho3⟩ := own_appended (xs := [129]) (ys := [n]) hv3 HO.out.byte HR.out.byte
      have hb3 : Below w.heap.size w w3 := below_appended hB2 (by simp; omega) HO.out.row hg3
      go_ret
      exact ⟨a3, c3, by rw [EL.out]; rfl, by rw [EL.out]; exact ho3, hb3⟩
    · by_cases h3 : n < 65536
      · have h5' : x5 = 0 := by omega
        have h6' : x6 = (n : Int) / 256 := by omega
        clear h5 h6
        subst h5'
        have hne : (x6 == 0) = false := by simp; omega
        have b6 : 0 ≤ x6 ∧ x6 ≤ 255 := by omega
        have b7 : 0 ≤ x7 ∧ x7 ≤ 255 := by omega
        have el : lenL n = [130, x6, x7] := by rw [lenL, if_neg h1, if_neg h2, if_pos h3, h6', h7]
        have HO : Hid (Own w.heap.size ((w1.alloc (.cells #[.int .u8 0, .int .u8 0, .int .u8 0, .int .u8 0, .int .u8 0, .int .u8 0, .int .u8 x6, .int .u8 x7] 86)).alloc (.cells #[.int .u8 130] 5)) (some ⟨w1.heap.size + 1, 0, none⟩) 1 1 [130]) := own_one w.heap.size (w1.alloc (.cells #[.int .u8 0, .int .u8 0, .int .u8 0, .int .u8 0, .int .u8 0, .int .u8 0, .int .u8 x6, .int .u8 x7] 86)) _ (by simp) (by simp; omega) 130 (by decide)
        have HR : Hid (Row ((w1.alloc (.cells #[.int .u8 0, .int .u8 0, .int .u8 0, .int .u8 0, .int .u8 0, .int .u8 0, .int .u8 x6, .int .u8 x7] 86)).alloc (.cells #[.int .u8 130] 5)) (some ⟨w1.heap.size, 6, none⟩) 2 [x6, x7]) := row_tail w1 (0) (0) (0) (0) (0) (0) (x6) (x7) 86 (.cells #[.int .u8 130] 5) 6 2 rfl [x6, x7] rfl (fun k => by match k with | 0 => simpa using b6 | 1 => simpa using b7 | k + 2 => simp)
        have hB2 : Below w.heap.size w ((w1.alloc (.cells #[.int .u8 0, .int .u8 0, .int .u8 0, .int .u8 0, .int .u8 0, .int .u8 0, .int .u8 x6, .int .u8 x7] 86)).alloc (.cells #[.int .u8 130] 5)) := (hb1.alloc hs1 _).alloc (by simp; omega) _
        have hx6 := h6'
        clear h6' h7 hx6
        have EL : Hid (lenL n = [130, x6, x7]) := el
        clear el
        go_wp2
        refine wp_loop_rounds 9 ?_
        iterate 6 (rw [rounds_succ]; go_wp2)
        rw [rounds_succ]
        go_wp2_with (at_builtin; refine wpList_append_row _ rfl (.tmp 22) (.tmp 24) 22 rfl w.heap.size i0 Tryd.underlying22 hi hz0 hz1 hz2 _ _ _ rfl HO.out.row _ 2 2 [x6, x7] rfl HR.out (by simp) (by omega) (by simp; omega) ?_; intro v3 w3 hv3 hg3)
        obtain ⟨a3, c3, rfl, ho3⟩ := own_appended (xs := [130]) (ys := [x6, x7]) hv3 HO.out.byte HR.out.byte
        have hb3 : Below w.heap.size w w3 := below_appended hB2 (by simp; omega) HO.out.row hg3
        go_ret
        exact ⟨a3, c3, by rw [EL.out]; rfl, by rw [EL.out]; exact ho3, hb3⟩
      · have h5' := h5
        have hne : (x5 == 0) = false := by simp; omega
        have b5 : 0 ≤ x5 ∧ x5 ≤ 255 := by omega
        have b6 : 0 ≤ x6 ∧ x6 ≤ 255 := by omega
        have b7 : 0 ≤ x7 ∧ x7 ≤ 255 := by omega
        have el : lenL n = [131, x5, x6, x7] := by rw [lenL, if_neg h1, if_neg h2, if_neg h3, h5, h6, h7]
        have HO : Hid (Own w.heap.size ((w1.alloc (.cells #[.int .u8 0, .int .u8 0, .int .u8 0, .int .u8 0, .int .u8 0, .int .u8 x5, .int .u8 x6, .int .u8 x7] 86)).alloc (.cells #[.int .u8 131] 5)) (some ⟨w1.heap.size + 1, 0, none⟩) 1 1 [131]) := own_one w.heap.size (w1.alloc (.cells #[.int .u8 0, .int .u8 0, .int .u8 0, .int .u8 0, .int .u8 0, .int .u8 x5, .int .u8 x6, .int .u8 x7] 86)) _ (by simp) (by simp; omega) 131 (by decide)
        have HR : Hid (Row ((w1.alloc (.cells #[.int .u8 0, .int .u8 0, .int .u8 0, .int .u8 0, .int .u8 0, .int .u8 x5, .int .u8 x6, .int .u8 x7] 86)).alloc (.cells #[.int .u8 131] 5)) (some ⟨w1.heap.size, 5, none⟩) 3 [x5, x6, x7]) := row_tail w1 (0) (0) (0) (0) (0) (x5) (x6) (x7) 86 (.cells #[.int .u8 131] 5) 5 3 rfl [x5, x6, x7] rfl (fun k => by match k with | 0 => simpa using b5 | 1 => simpa using b6 | 2 => simpa using b7 | k + 3 => simp)
        have hB2 : Below w.heap.size w ((w1.alloc (.cells #[.int .u8 0, .int .u8 0, .int .u8 0, .int .u8 0, .int .u8 0, .int .u8 x5, .int .u8 x6, .int .u8 x7] 86)).alloc (.cells #[.int .u8 131] 5)) := (hb1.alloc hs1 _).alloc (by simp; omega) _
        clear h5 h5' h6 h7
        have EL : Hid (lenL n = [131, x5, x6, x7]) := el
        clear el
        go_wp2
        refine wp_loop_rounds 9 ?_
        iterate 5 (rw [rounds_succ]; go_wp2)
        rw [rounds_succ]
        go_wp2_with (at_builtin; refine wpList_append_row _ rfl (.tmp 22) (.tmp 24) 22 rfl w.heap.size i0 Tryd.underlying22 hi hz0 hz1 hz2 _ _ _ rfl HO.out.row _ 3 3 [x5, x6, x7] rfl HR.out (by simp) (by omega) (by simp; omega) ?_; intro v3 w3 hv3 hg3)
        obtain ⟨a3, c3, rfl, ho3⟩ := own_appended (xs := [131]) (ys := [x5, x6, x7]) hv3 HO.out.byte HR.out.byte
        have hb3 : Below w.heap.size w w3 := below_appended hB2 (by simp; omega) HO.out.row hg3
        go_ret
        exact ⟨a3, c3, by rw [EL.out]; rfl, by rw [EL.out]; exact ho3, hb3⟩

end Go.Proofs.YtjkkokjojaknkaaDoor
