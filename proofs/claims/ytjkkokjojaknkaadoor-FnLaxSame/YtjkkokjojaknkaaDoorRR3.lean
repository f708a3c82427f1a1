import Derived.Test.YtjkkokjojaknkaaDoorFG
import Derived.Test.YtjkkokjojaknkaaDoorFM
import Derived.Deep.DeepCutAuto
namespace Go.Proofs.YtjkkokjojaknkaaDoor
open Go.RowKit

theorem tagR_no {lax : Bool} {bs : List Int} {p e c q : Nat} (hl : bs.getD p 0 % 32 = 31) (h : grpsR lax bs p e = .no c q) : tagR lax bs p e = .no c q := by
  unfold tagR
  rw [if_pos hl]
  unfold grpsR at h
  cases hg : grpR bs p e 6 0 (p + 1) with
  | no c2 q2 => rw [hg] at h; exact h
  | ok t q2 =>
    rw [hg] at h
    simp only at h ⊢
    split at h
    · rw [if_pos (.inl (by assumption))]; exact h
    · cases h
theorem tagR_grp {lax : Bool} {bs : List Int} {p e q : Nat} {t : Int} (hl : bs.getD p 0 % 32 = 31) (h : grpsR lax bs p e = .ok t q) : tagR lax bs p e = if 268435455 < t ∨ (clsN bs p = 0 ∧ t = 0) then .no 2 p else .ok t q := by
  unfold tagR
  rw [if_pos hl]
  unfold grpsR at h
  cases hg : grpR bs p e 6 0 (p + 1) with
  | no c2 q2 => rw [hg] at h; cases h
  | ok t2 q2 =>
    rw [hg] at h
    simp only at h ⊢
    split at h
    · cases h
    · rename_i hn
      cases h
      by_cases h2 : 268435455 < t ∨ (clsN bs p = 0 ∧ t = 0)
      · rw [if_pos (.inr h2), if_pos h2]
      · rw [if_neg (by intro h3; rcases h3 with h3 | h3; exact hn h3; exact h2 h3), if_neg h2]
theorem tagR_low {lax : Bool} {bs : List Int} {p e : Nat} (hl : ¬ bs.getD p 0 % 32 = 31) : tagR lax bs p e = if clsN bs p = 0 ∧ bs.getD p 0 % 32 = 0 then .no 2 p else .ok (bs.getD p 0 % 32) (p + 1) := by
  unfold tagR
  rw [if_neg hl]

theorem and32 (x : Int) (h0 : 0 ≤ x) (h1 : x ≤ 255) : (bits .and .u8 x 32 != 0) = decide (x / 32 % 2 = 1) := by
  have key : ∀ k : Fin 256, (bits .and .u8 ((k.val : Nat) : Int) 32 != 0) = decide (((k.val : Nat) : Int) / 32 % 2 = 1) := by decide +kernel
  have := key ⟨x.toNat, by omega⟩
  simp only [Int.toNat_of_nonneg h0] at this
  exact this
theorem and31 (x : Int) (h0 : 0 ≤ x) (h1 : x ≤ 255) : bits .and .u8 x 31 = x % 32 := by
  have key : ∀ k : Fin 256, bits .and .u8 ((k.val : Nat) : Int) 31 = ((k.val : Nat) : Int) % 32 := by decide +kernel
  have := key ⟨x.toNat, by omega⟩
  simp only [Int.toNat_of_nonneg h0] at this
  exact this

/-- An item's head as it is read. -/
def headIt (bs : List Int) (p : Nat) (t : Int) : It := .mk (clsN bs p) t (consN bs p) [] []

set_option maxRecDepth 10000 in
set_option maxHeartbeats 4000000 in
theorem readTag_any (a : Option Addr) (n cap : Nat) (lax : Bool) (bs : List Int) (p e : Nat) (w : World) (h : Row w a n bs) (hp : p < e) (he : e ≤ n) (hn : n ≤ 20000) :
    Calls Tryd.prog 77 #[.agg #[.slice a n cap, .bool lax], .int .i64 (p : Int), .int .i64 (e : Int)] w fun ev w' => Tells2 (tagR lax bs p e) (fun t nx => .tuple #[itv (headIt bs p t) none 0 0 none 0 0, .int .i64 (nx : Int)]) ev ∧ Below w.heap.size w w' := by
  have HR : Hid (Row w a n bs) := h
  obtain ⟨b, off, rfl, hb, hc⟩ := h.get p (by omega)
  have hby := h.byte p
  clear h
  obtain ⟨x, hx⟩ : ∃ x, x = bs.getD p 0 := ⟨_, rfl⟩
  rw [← hx] at hc hby
  have HX : Hid (x = bs.getD p 0) := hx
  obtain ⟨hx0, hx1⟩ := hby
  obtain ⟨cl, hcl⟩ : ∃ cl, cl = clsN bs p := ⟨_, rfl⟩
  obtain ⟨co, hco⟩ : ∃ co, co = consN bs p := ⟨_, rfl⟩
  have hcl' : x / 64 = cl := by rw [hcl, hx]; rfl
  have a31 := and31 x hx0 hx1
  have a32 : (bits .and .u8 x 32 != 0) = co := by rw [hco, and32 x hx0 hx1, hx]; rfl
  have HCL : Hid (cl = clsN bs p) := hcl
  have HCO : Hid (co = consN bs p) := hco
  have hcl0 : 0 ≤ cl := by omega
  have hcl3 : cl ≤ 3 := by omega
  have hpn : (p : Int) < (n : Int) := by omega
  obtain ⟨lo, hlo⟩ : ∃ lo, lo = x % 32 := ⟨_, rfl⟩
  rw [← hlo] at a31
  have HLO : Hid (lo = x % 32) := hlo
  have hlo0 : 0 ≤ lo := by omega
  have hlo1 : lo ≤ 31 := by omega
  clear hlo hx hcl hco
  obtain ⟨b0, b1, b2⟩ := three_blocks w (.cells #[.slice (some ⟨b, off, none⟩) n cap, .bool lax] 93) (.cells #[.int .i64 0, .int .i64 0, .bool false, .slice none 0 0, .slice none 0 0] 26) (.cells #[.int .i64 cl, .int .i64 lo, .bool co, .slice none 0 0, .slice none 0 0] 26)
  have hB0 : Below w.heap.size w (((w.alloc (.cells #[.slice (some ⟨b, off, none⟩) n cap, .bool lax] 93)).alloc (.cells #[.int .i64 0, .int .i64 0, .bool false, .slice none 0 0, .slice none 0 0] 26)).alloc (.cells #[.int .i64 cl, .int .i64 lo, .bool co, .slice none 0 0, .slice none 0 0] 26)) := (((Below.refl _ _).alloc (Nat.le_refl _) _).alloc (by simp) _).alloc (by simp; omega) _
  have hS0 : (((w.alloc (.cells #[.slice (some ⟨b, off, none⟩) n cap, .bool lax] 93)).alloc (.cells #[.int .i64 0, .int .i64 0, .bool false, .slice none 0 0, .slice none 0 0] 26)).alloc (.cells #[.int .i64 cl, .int .i64 lo, .bool co, .slice none 0 0, .slice none 0 0] 26)).heap.size = w.heap.size + 3 := by simp
  go_enter Tryd.func77, Tryd.ntmps77
  go_upto_region 4 with fail
  obtain ⟨W0, hW0⟩ : ∃ W0, W0 = (((w.alloc (.cells #[.slice (some ⟨b, off, none⟩) n cap, .bool lax] 93)).alloc (.cells #[.int .i64 0, .int .i64 0, .bool false, .slice none 0 0, .slice none 0 0] 26)).alloc (.cells #[.int .i64 cl, .int .i64 lo, .bool co, .slice none 0 0, .slice none 0 0] 26)) := ⟨_, rfl⟩
  rw [← hW0] at b0 b1 b2 hB0 hS0 ⊢
  clear hW0
  -- TAIL
  by_cases hl : lo = 31
  · have hl' : bs.getD p 0 % 32 = 31 := by rw [← HX.out, ← HLO.out]; exact hl
    subst hl
    have c2 : W0.cell? ⟨w.heap.size + 1 + 1, 1, none⟩ = some (.int .i64 31) := (cell_of_row _ (w.heap.size + 1 + 1) 1 _ 26 (0, 0) b2).trans rfl
    have c00 : W0.cell? ⟨w.heap.size, 0, none⟩ = some (.slice (some ⟨b, off, none⟩) n cap) := (cell_of_row _ w.heap.size 0 _ 93 (0, 0) b0).trans rfl
    have c01 : W0.cell? ⟨w.heap.size, 1, none⟩ = some (.bool lax) := (cell_of_row _ w.heap.size 1 _ 93 (0, 0) b0).trans rfl
    have HC := groups_any (some ⟨b, off, none⟩) n cap lax bs p e W0 (HR.out.kept hB0) hp he hn
    cases hg : grpsR lax bs p e with
    | no c q =>
      have hf : Hid (tagR lax bs p e = .no c q) := tagR_no hl' hg
      rw [hg] at HC
      go_wp2_with (go_at_call 84; refine HC.mono ?_; rintro ev w1 ⟨ht, hb1⟩; obtain rfl : ev = .panicked (gvUp c q) := ht)
      exact ⟨rfl, Tells2.no hf _, hB0.trans (hb1.mono (by omega))⟩
    | ok t q =>
      have HQ : Hid (tagR lax bs p e = if 268435455 < t ∨ (clsN bs p = 0 ∧ t = 0) then .no 2 p else .ok t q) := tagR_grp hl' hg
      rw [hg] at HC
      have HS0 : Hid (W0.heap.size = w.heap.size + 3) := hS0
      clear hS0
      go_upto_region 6 with (go_at_call 84; refine HC.mono ?_; rintro ev w1 ⟨ht, hb1⟩; obtain rfl : ev = .returned (.tuple #[.int .i64 t, .int .i64 (q : Int)]) := ht; have hsz := HS0.out; have g2 := heap_kept hb1 (by omega) b2; have cc2 : w1.cell? ⟨w.heap.size + 1 + 1, 1, none⟩ = some (.int .i64 31) := (cell_of_row _ (w.heap.size + 1 + 1) 1 _ 26 (0, 0) g2).trans rfl; have ff2 : w1.frozen? ⟨w.heap.size + 1 + 1, 1, none⟩ = false := frozen_of_row w1 (w.heap.size + 1 + 1) 1 _ 26 g2; clear hsz)
      have hs1 := hb1.size
      have hsz := HS0.out
      have g1 := heap_kept hb1 (by omega) b1
      have HB : Hid (Below w.heap.size w (w1.setCell ⟨w.heap.size + 1 + 1, 1, none⟩ (.int .i64 t))) := (hB0.trans (hb1.mono (by omega))).setCell (by simp; omega) _
      have E1 : Hid ((w1.setCell ⟨w.heap.size + 1 + 1, 1, none⟩ (.int .i64 t)).heap[w.heap.size + 1]? = some (.cells #[.int .i64 0, .int .i64 0, .bool false, .slice none 0 0, .slice none 0 0] 26 (0, 0))) := (heap_setCell_other w1 ⟨w.heap.size + 1 + 1, 1, none⟩ (w.heap.size + 1) (.int .i64 t) (by simp)).trans g1
      have E2 : Hid ((w1.setCell ⟨w.heap.size + 1 + 1, 1, none⟩ (.int .i64 t)).heap[w.heap.size + 1 + 1]? = some (.cells #[.int .i64 cl, .int .i64 t, .bool co, .slice none 0 0, .slice none 0 0] 26 (0, 0))) := (heap_setCell_same w1 (w.heap.size + 1 + 1) 1 _ 26 (.int .i64 t) g2).trans rfl
      have hw1 : w.heap.size + 3 ≤ (w1.setCell ⟨w.heap.size + 1 + 1, 1, none⟩ (.int .i64 t)).heap.size := by simp; omega
      obtain ⟨W1, hW1⟩ : ∃ W1, W1 = w1.setCell ⟨w.heap.size + 1 + 1, 1, none⟩ (.int .i64 t) := ⟨_, rfl⟩
      rw [← hW1] at HB E1 E2 hw1 ⊢
      clear hW1 cc2 ff2 g1 g2 c2 c00 c01 b0 b1 b2 hB0 hb1 hs1 hsz HS0 HC
      have c20 : W1.cell? ⟨w.heap.size + 1 + 1, 0, none⟩ = some (.int .i64 cl) := (cell_of_row _ (w.heap.size + 1 + 1) 0 _ 26 (0, 0) E2.out).trans rfl
      have c21 : W1.cell? ⟨w.heap.size + 1 + 1, 1, none⟩ = some (.int .i64 t) := (cell_of_row _ (w.heap.size + 1 + 1) 1 _ 26 (0, 0) E2.out).trans rfl
      have c22 : W1.cell? ⟨w.heap.size + 1 + 1, 2, none⟩ = some (.bool co) := (cell_of_row _ (w.heap.size + 1 + 1) 2 _ 26 (0, 0) E2.out).trans rfl
      have c23 : W1.cell? ⟨w.heap.size + 1 + 1, 3, none⟩ = some (.slice none 0 0) := (cell_of_row _ (w.heap.size + 1 + 1) 3 _ 26 (0, 0) E2.out).trans rfl
      have c24 : W1.cell? ⟨w.heap.size + 1 + 1, 4, none⟩ = some (.slice none 0 0) := (cell_of_row _ (w.heap.size + 1 + 1) 4 _ 26 (0, 0) E2.out).trans rfl
      have c10 : W1.cell? ⟨w.heap.size + 1, 0, none⟩ = some (.int .i64 0) := (cell_of_row _ (w.heap.size + 1) 0 _ 26 (0, 0) E1.out).trans rfl
      have f10 : W1.frozen? ⟨w.heap.size + 1, 0, none⟩ = false := frozen_of_row W1 (w.heap.size + 1) 0 _ 26 E1.out
      have c11 : W1.cell? ⟨w.heap.size + 1, 1, none⟩ = some (.int .i64 0) := (cell_of_row _ (w.heap.size + 1) 1 _ 26 (0, 0) E1.out).trans rfl
      have f11 : W1.frozen? ⟨w.heap.size + 1, 1, none⟩ = false := frozen_of_row W1 (w.heap.size + 1) 1 _ 26 E1.out
      have c12 : W1.cell? ⟨w.heap.size + 1, 2, none⟩ = some (.bool false) := (cell_of_row _ (w.heap.size + 1) 2 _ 26 (0, 0) E1.out).trans rfl
      have f12 : W1.frozen? ⟨w.heap.size + 1, 2, none⟩ = false := frozen_of_row W1 (w.heap.size + 1) 2 _ 26 E1.out
      have c13 : W1.cell? ⟨w.heap.size + 1, 3, none⟩ = some (.slice none 0 0) := (cell_of_row _ (w.heap.size + 1) 3 _ 26 (0, 0) E1.out).trans rfl
      have f13 : W1.frozen? ⟨w.heap.size + 1, 3, none⟩ = false := frozen_of_row W1 (w.heap.size + 1) 3 _ 26 E1.out
      have c14 : W1.cell? ⟨w.heap.size + 1, 4, none⟩ = some (.slice none 0 0) := (cell_of_row _ (w.heap.size + 1) 4 _ 26 (0, 0) E1.out).trans rfl
      have f14 : W1.frozen? ⟨w.heap.size + 1, 4, none⟩ = false := frozen_of_row W1 (w.heap.size + 1) 4 _ 26 E1.out
      by_cases k1 : 268435455 < t
      · have hf : Hid (tagR lax bs p e = .no 2 p) := by show _ = _; rw [HQ.out, if_pos (.inl k1)]
        go_wp2_with (go_at_call 63; refine (giveUp_any 2 p _).mono ?_; rintro e w1 ⟨rfl, rfl⟩)
        exact ⟨rfl, Tells2.no hf _, HB.out⟩
      · skip
        by_cases k2 : cl = 0
        · by_cases k3 : t = 0
          · have hf : Hid (tagR lax bs p e = .no 2 p) := by show _ = _; rw [HQ.out, if_pos (.inr ⟨HCL.out.symm.trans k2, k3⟩)]
            have HC0 : Hid (cl = clsN bs p) := HCL
            subst k2
            subst k3
            go_wp2_with (go_at_call 63; refine (giveUp_any 2 p _).mono ?_; rintro e w1 ⟨rfl, rfl⟩)
            exact ⟨rfl, Tells2.no hf _, HB.out⟩
          · have k3' : (t == 0) = false := by simp [k3]
            have hf : Hid (tagR lax bs p e = .ok t (q)) := by show _ = _; rw [HQ.out, if_neg (by intro h; rcases h with h | h; exact k1 h; exact k3 h.2)]
            subst k2
            go_wp2
            have q0 := heap_setCell_same (W1) (w.heap.size + 1) 0 _ 26 (.int .i64 0) E1.out
            have q1 := heap_setCell_same ((W1).setCell ⟨w.heap.size + 1, 0, none⟩ (.int .i64 0)) (w.heap.size + 1) 1 _ 26 (.int .i64 t) q0
            have q2 := heap_setCell_same (((W1).setCell ⟨w.heap.size + 1, 0, none⟩ (.int .i64 0)).setCell ⟨w.heap.size + 1, 1, none⟩ (.int .i64 t)) (w.heap.size + 1) 2 _ 26 (.bool co) q1
            have q3 := heap_setCell_same ((((W1).setCell ⟨w.heap.size + 1, 0, none⟩ (.int .i64 0)).setCell ⟨w.heap.size + 1, 1, none⟩ (.int .i64 t)).setCell ⟨w.heap.size + 1, 2, none⟩ (.bool co)) (w.heap.size + 1) 3 _ 26 (.slice none 0 0) q2
            have q4 := heap_setCell_same (((((W1).setCell ⟨w.heap.size + 1, 0, none⟩ (.int .i64 0)).setCell ⟨w.heap.size + 1, 1, none⟩ (.int .i64 t)).setCell ⟨w.heap.size + 1, 2, none⟩ (.bool co)).setCell ⟨w.heap.size + 1, 3, none⟩ (.slice none 0 0)) (w.heap.size + 1) 4 _ 26 (.slice none 0 0) q3
            have tt : Touch (w.heap.size + 1) (w.heap.size + 2) W1 ((((((W1).setCell ⟨w.heap.size + 1, 0, none⟩ (.int .i64 0)).setCell ⟨w.heap.size + 1, 1, none⟩ (.int .i64 t)).setCell ⟨w.heap.size + 1, 2, none⟩ (.bool co)).setCell ⟨w.heap.size + 1, 3, none⟩ (.slice none 0 0)).setCell ⟨w.heap.size + 1, 4, none⟩ (.slice none 0 0)) := ((((touch_set _ _ _ _ (by omega) (by omega)).trans (touch_set _ _ _ _ (by omega) (by omega))).trans (touch_set _ _ _ _ (by omega) (by omega))).trans (touch_set _ _ _ _ (by omega) (by omega))).trans (touch_set _ _ _ _ (by omega) (by omega))
            try simp only [Exit.inBlock, Exit.then]
            refine bodyPost_ret (results_item2 rfl _ (w.heap.size + 1) rfl _ _ _ _ _ _ q4) rfl ?_
            refine ⟨?_, HB.out.trans (tt.below (by omega) (by omega))⟩
            rw [hf.out]
            show Ending.returned (.tuple #[.agg #[.int .i64 0, .int .i64 t, .bool co, .slice none 0 0, .slice none 0 0], .int .i64 (q)]) = _
            show _ = Ending.returned (.tuple #[.agg #[.int .i64 (clsN bs p), .int .i64 t, .bool (consN bs p), .slice none 0 0, .slice none 0 0], .int .i64 _])
            rw [← HCL.out, ← HCO.out]
            try rfl
        · have k2' : (cl == 0) = false := by simp [k2]
          have hf : Hid (tagR lax bs p e = .ok t (q)) := by show _ = _; rw [HQ.out, if_neg (by intro h; rcases h with h | h; exact k1 h; exact k2 (HCL.out.trans h.1))]
          go_wp2
          have q0 := heap_setCell_same (W1) (w.heap.size + 1) 0 _ 26 (.int .i64 cl) E1.out
          have q1 := heap_setCell_same ((W1).setCell ⟨w.heap.size + 1, 0, none⟩ (.int .i64 cl)) (w.heap.size + 1) 1 _ 26 (.int .i64 t) q0
          have q2 := heap_setCell_same (((W1).setCell ⟨w.heap.size + 1, 0, none⟩ (.int .i64 cl)).setCell ⟨w.heap.size + 1, 1, none⟩ (.int .i64 t)) (w.heap.size + 1) 2 _ 26 (.bool co) q1
          have q3 := heap_setCell_same ((((W1).setCell ⟨w.heap.size + 1, 0, none⟩ (.int .i64 cl)).setCell ⟨w.heap.size + 1, 1, none⟩ (.int .i64 t)).setCell ⟨w.heap.size + 1, 2, none⟩ (.bool co)) (w.heap.size + 1) 3 _ 26 (.slice none 0 0) q2
          have q4 := heap_setCell_same (((((W1).setCell ⟨w.heap.size + 1, 0, none⟩ (.int .i64 cl)).setCell ⟨w.heap.size + 1, 1, none⟩ (.int .i64 t)).setCell ⟨w.heap.size + 1, 2, none⟩ (.bool co)).setCell ⟨w.heap.size + 1, 3, none⟩ (.slice none 0 0)) (w.heap.size + 1) 4 _ 26 (.slice none 0 0) q3
          have tt : Touch (w.heap.size + 1) (w.heap.size + 2) W1 ((((((W1).setCell ⟨w.heap.size + 1, 0, none⟩ (.int .i64 cl)).setCell ⟨w.heap.size + 1, 1, none⟩ (.int .i64 t)).setCell ⟨w.heap.size + 1, 2, none⟩ (.bool co)).setCell ⟨w.heap.size + 1, 3, none⟩ (.slice none 0 0)).setCell ⟨w.heap.size + 1, 4, none⟩ (.slice none 0 0)) := ((((touch_set _ _ _ _ (by omega) (by omega)).trans (touch_set _ _ _ _ (by omega) (by omega))).trans (touch_set _ _ _ _ (by omega) (by omega))).trans (touch_set _ _ _ _ (by omega) (by omega))).trans (touch_set _ _ _ _ (by omega) (by omega))
          try simp only [Exit.inBlock, Exit.then]
          refine bodyPost_ret (results_item2 rfl _ (w.heap.size + 1) rfl _ _ _ _ _ _ q4) rfl ?_
          refine ⟨?_, HB.out.trans (tt.below (by omega) (by omega))⟩
          rw [hf.out]
          show Ending.returned (.tuple #[.agg #[.int .i64 cl, .int .i64 t, .bool co, .slice none 0 0, .slice none 0 0], .int .i64 (q)]) = _
          show _ = Ending.returned (.tuple #[.agg #[.int .i64 (clsN bs p), .int .i64 t, .bool (consN bs p), .slice none 0 0, .slice none 0 0], .int .i64 _])
          rw [← HCL.out, ← HCO.out]
          try rfl
  · have hl' : ¬ bs.getD p 0 % 32 = 31 := by rw [← HX.out, ← HLO.out]; exact hl
    have HQ : Hid (tagR lax bs p e = if clsN bs p = 0 ∧ bs.getD p 0 % 32 = 0 then .no 2 p else .ok (bs.getD p 0 % 32) (p + 1)) := tagR_low hl'
    have hl31 : (lo == 31) = false := by simp [hl]
    have k1 : ¬ (268435455 : Int) < lo := by omega
    have HB : Hid (Below w.heap.size w W0) := hB0
    have E1 : Hid (_ = _) := b1
    have E2 : Hid (_ = _) := b2
    clear b0 b1 b2 hB0
    have c20 : W0.cell? ⟨w.heap.size + 1 + 1, 0, none⟩ = some (.int .i64 cl) := (cell_of_row _ (w.heap.size + 1 + 1) 0 _ 26 (0, 0) E2.out).trans rfl
    have c21 : W0.cell? ⟨w.heap.size + 1 + 1, 1, none⟩ = some (.int .i64 lo) := (cell_of_row _ (w.heap.size + 1 + 1) 1 _ 26 (0, 0) E2.out).trans rfl
    have c22 : W0.cell? ⟨w.heap.size + 1 + 1, 2, none⟩ = some (.bool co) := (cell_of_row _ (w.heap.size + 1 + 1) 2 _ 26 (0, 0) E2.out).trans rfl
    have c23 : W0.cell? ⟨w.heap.size + 1 + 1, 3, none⟩ = some (.slice none 0 0) := (cell_of_row _ (w.heap.size + 1 + 1) 3 _ 26 (0, 0) E2.out).trans rfl
    have c24 : W0.cell? ⟨w.heap.size + 1 + 1, 4, none⟩ = some (.slice none 0 0) := (cell_of_row _ (w.heap.size + 1 + 1) 4 _ 26 (0, 0) E2.out).trans rfl
    have c10 : W0.cell? ⟨w.heap.size + 1, 0, none⟩ = some (.int .i64 0) := (cell_of_row _ (w.heap.size + 1) 0 _ 26 (0, 0) E1.out).trans rfl
    have f10 : W0.frozen? ⟨w.heap.size + 1, 0, none⟩ = false := frozen_of_row W0 (w.heap.size + 1) 0 _ 26 E1.out
    have c11 : W0.cell? ⟨w.heap.size + 1, 1, none⟩ = some (.int .i64 0) := (cell_of_row _ (w.heap.size + 1) 1 _ 26 (0, 0) E1.out).trans rfl
    have f11 : W0.frozen? ⟨w.heap.size + 1, 1, none⟩ = false := frozen_of_row W0 (w.heap.size + 1) 1 _ 26 E1.out
    have c12 : W0.cell? ⟨w.heap.size + 1, 2, none⟩ = some (.bool false) := (cell_of_row _ (w.heap.size + 1) 2 _ 26 (0, 0) E1.out).trans rfl
    have f12 : W0.frozen? ⟨w.heap.size + 1, 2, none⟩ = false := frozen_of_row W0 (w.heap.size + 1) 2 _ 26 E1.out
    have c13 : W0.cell? ⟨w.heap.size + 1, 3, none⟩ = some (.slice none 0 0) := (cell_of_row _ (w.heap.size + 1) 3 _ 26 (0, 0) E1.out).trans rfl
    have f13 : W0.frozen? ⟨w.heap.size + 1, 3, none⟩ = false := frozen_of_row W0 (w.heap.size + 1) 3 _ 26 E1.out
    have c14 : W0.cell? ⟨w.heap.size + 1, 4, none⟩ = some (.slice none 0 0) := (cell_of_row _ (w.heap.size + 1) 4 _ 26 (0, 0) E1.out).trans rfl
    have f14 : W0.frozen? ⟨w.heap.size + 1, 4, none⟩ = false := frozen_of_row W0 (w.heap.size + 1) 4 _ 26 E1.out
    by_cases k2 : cl = 0
    · by_cases k3 : lo = 0
      · have hf : Hid (tagR lax bs p e = .no 2 p) := by show _ = _; rw [HQ.out, if_pos (⟨HCL.out.symm.trans k2, HX.out ▸ HLO.out ▸ k3⟩)]
        have HC0 : Hid (cl = clsN bs p) := HCL
        subst k2
        subst k3
        go_wp2_with (go_at_call 63; refine (giveUp_any 2 p _).mono ?_; rintro e w1 ⟨rfl, rfl⟩)
        exact ⟨rfl, Tells2.no hf _, HB.out⟩
      · have k3' : (lo == 0) = false := by simp [k3]
        have hf : Hid (tagR lax bs p e = .ok lo (p + 1)) := by show _ = _; rw [HQ.out, if_neg (by intro h; exact k3 (HLO.out.trans ((congrArg (· % 32) HX.out).trans h.2)))]; rw [← HX.out, ← HLO.out]
        subst k2
        go_wp2
        have q0 := heap_setCell_same (W0) (w.heap.size + 1) 0 _ 26 (.int .i64 0) E1.out
        have q1 := heap_setCell_same ((W0).setCell ⟨w.heap.size + 1, 0, none⟩ (.int .i64 0)) (w.heap.size + 1) 1 _ 26 (.int .i64 lo) q0
        have q2 := heap_setCell_same (((W0).setCell ⟨w.heap.size + 1, 0, none⟩ (.int .i64 0)).setCell ⟨w.heap.size + 1, 1, none⟩ (.int .i64 lo)) (w.heap.size + 1) 2 _ 26 (.bool co) q1
        have q3 := heap_setCell_same ((((W0).setCell ⟨w.heap.size + 1, 0, none⟩ (.int .i64 0)).setCell ⟨w.heap.size + 1, 1, none⟩ (.int .i64 lo)).setCell ⟨w.heap.size + 1, 2, none⟩ (.bool co)) (w.heap.size + 1) 3 _ 26 (.slice none 0 0) q2
        have q4 := heap_setCell_same (((((W0).setCell ⟨w.heap.size + 1, 0, none⟩ (.int .i64 0)).setCell ⟨w.heap.size + 1, 1, none⟩ (.int .i64 lo)).setCell ⟨w.heap.size + 1, 2, none⟩ (.bool co)).setCell ⟨w.heap.size + 1, 3, none⟩ (.slice none 0 0)) (w.heap.size + 1) 4 _ 26 (.slice none 0 0) q3
        have tt : Touch (w.heap.size + 1) (w.heap.size + 2) W0 ((((((W0).setCell ⟨w.heap.size + 1, 0, none⟩ (.int .i64 0)).setCell ⟨w.heap.size + 1, 1, none⟩ (.int .i64 lo)).setCell ⟨w.heap.size + 1, 2, none⟩ (.bool co)).setCell ⟨w.heap.size + 1, 3, none⟩ (.slice none 0 0)).setCell ⟨w.heap.size + 1, 4, none⟩ (.slice none 0 0)) := ((((touch_set _ _ _ _ (by omega) (by omega)).trans (touch_set _ _ _ _ (by omega) (by omega))).trans (touch_set _ _ _ _ (by omega) (by omega))).trans (touch_set _ _ _ _ (by omega) (by omega))).trans (touch_set _ _ _ _ (by omega) (by omega))
        try simp only [Exit.inBlock, Exit.then]
        refine bodyPost_ret (results_item2 rfl _ (w.heap.size + 1) rfl _ _ _ _ _ _ q4) rfl ?_
        refine ⟨?_, HB.out.trans (tt.below (by omega) (by omega))⟩
        rw [hf.out]
        show Ending.returned (.tuple #[.agg #[.int .i64 0, .int .i64 lo, .bool co, .slice none 0 0, .slice none 0 0], .int .i64 ((p : Int) + 1)]) = _
        show _ = Ending.returned (.tuple #[.agg #[.int .i64 (clsN bs p), .int .i64 lo, .bool (consN bs p), .slice none 0 0, .slice none 0 0], .int .i64 _])
        rw [← HCL.out, ← HCO.out]
        try rfl
    · have k2' : (cl == 0) = false := by simp [k2]
      have hf : Hid (tagR lax bs p e = .ok lo (p + 1)) := by show _ = _; rw [HQ.out, if_neg (by intro h; exact k2 (HCL.out.trans h.1))]; rw [← HX.out, ← HLO.out]
      go_wp2
      have q0 := heap_setCell_same (W0) (w.heap.size + 1) 0 _ 26 (.int .i64 cl) E1.out
      have q1 := heap_setCell_same ((W0).setCell ⟨w.heap.size + 1, 0, none⟩ (.int .i64 cl)) (w.heap.size + 1) 1 _ 26 (.int .i64 lo) q0
      have q2 := heap_setCell_same (((W0).setCell ⟨w.heap.size + 1, 0, none⟩ (.int .i64 cl)).setCell ⟨w.heap.size + 1, 1, none⟩ (.int .i64 lo)) (w.heap.size + 1) 2 _ 26 (.bool co) q1
      have q3 := heap_setCell_same ((((W0).setCell ⟨w.heap.size + 1, 0, none⟩ (.int .i64 cl)).setCell ⟨w.heap.size + 1, 1, none⟩ (.int .i64 lo)).setCell ⟨w.heap.size + 1, 2, none⟩ (.bool co)) (w.heap.size + 1) 3 _ 26 (.slice none 0 0) q2
      have q4 := heap_setCell_same (((((W0).setCell ⟨w.heap.size + 1, 0, none⟩ (.int .i64 cl)).setCell ⟨w.heap.size + 1, 1, none⟩ (.int .i64 lo)).setCell ⟨w.heap.size + 1, 2, none⟩ (.bool co)).setCell ⟨w.heap.size + 1, 3, none⟩ (.slice none 0 0)) (w.heap.size + 1) 4 _ 26 (.slice none 0 0) q3
      have tt : Touch (w.heap.size + 1) (w.heap.size + 2) W0 ((((((W0).setCell ⟨w.heap.size + 1, 0, none⟩ (.int .i64 cl)).setCell ⟨w.heap.size + 1, 1, none⟩ (.int .i64 lo)).setCell ⟨w.heap.size + 1, 2, none⟩ (.bool co)).setCell ⟨w.heap.size + 1, 3, none⟩ (.slice none 0 0)).setCell ⟨w.heap.size + 1, 4, none⟩ (.slice none 0 0)) := ((((touch_set _ _ _ _ (by omega) (by omega)).trans (touch_set _ _ _ _ (by omega) (by omega))).trans (touch_set _ _ _ _ (by omega) (by omega))).trans (touch_set _ _ _ _ (by omega) (by omega))).trans (touch_set _ _ _ _ (by omega) (by omega))
      try simp only [Exit.inBlock, Exit.then]
      refine bodyPost_ret (results_item2 rfl _ (w.heap.size + 1) rfl _ _ _ _ _ _ q4) rfl ?_
      refine ⟨?_, HB.out.trans (tt.below (by omega) (by omega))⟩
      rw [hf.out]
      show Ending.returned (.tuple #[.agg #[.int .i64 cl, .int .i64 lo, .bool co, .slice none 0 0, .slice none 0 0], .int .i64 ((p : Int) + 1)]) = _
      show _ = Ending.returned (.tuple #[.agg #[.int .i64 (clsN bs p), .int .i64 lo, .bool (consN bs p), .slice none 0 0, .slice none 0 0], .int .i64 _])
      rw [← HCL.out, ← HCO.out]
      try rfl

end Go.Proofs.YtjkkokjojaknkaaDoor
