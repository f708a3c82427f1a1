import Derived.Test.YtjkkokjojaknkaaDoorRR16
import Derived.Great.BuildSlice
namespace Go.Proofs.YtjkkokjojaknkaaDoor
open Go.RowKit

set_option maxRecDepth 10000 in
set_option maxHeartbeats 16000000 in
theorem sitemC_k3 (RB : Nat) (lax : Bool) (bs : List Int) (n cap : Nat) (a : Option Addr) (hn : n ≤ 20000) (_hcap : n ≤ cap) (r : Nat) (hr : r + 1 ≤ 12) (IH : SItemC RB lax bs n cap a r) :
    ∀ (p e : Nat) (pl : Int) (w : World), kindI lax bs p e = 3 → Row w a n bs → In a n 0 RB → RBox RB w a n cap lax 0 pl → p ≤ e → e ≤ n →
    Calls Tryd.prog 44 #[.pointer (some ⟨RB, 0, none⟩), .int .i64 (p : Int), .int .i64 (e : Int), .int .i64 (13 - ((r + 1 : Nat) : Int))] w fun ev w' => SItPost RB (r + 1) n cap a lax pl (itemR lax bs (r + 1) p e) w ev w'  := by
  intro p e pl w hk h hin hbx hpe0 he
  have HK : Hid (kindI lax bs p e = 3) := hk
  clear hk
  obtain ⟨i0, hi, hz0, hz1, hz2⟩ := info_parts Tryd.infoItem
  obtain ⟨i5, hi5, hz50, hz51, hz52⟩ := info_parts Tryd.info5
  have HI : Hid (_ ∧ _ ∧ _ ∧ _) := ⟨hi, hz0, hz1, hz2⟩
  have HI5 : Hid (_ ∧ _ ∧ _ ∧ _) := ⟨hi5, hz50, hz51, hz52⟩
  clear hi hz0 hz1 hz2 hi5 hz50 hz51 hz52
  have hRBw := hbx.lt
  obtain ⟨D, hD⟩ : ∃ D : Int, D = 13 - ((r + 1 : Nat) : Int) := ⟨_, rfl⟩
  rw [← hD]
  have hd1 : ¬ (12 : Int) < D := by omega
  have hd0 : 0 ≤ D := by omega
  have HD : Hid (D + 1 = 13 - (r : Int)) := by show _ = _; omega
  clear hD
  obtain ⟨b0, b1⟩ := two_blocks w (.cells #[.int .i64 0, .int .i64 0, .bool false, .slice none 0 0, .slice none 0 0] 26) (.cells #[.int .i64 0, .int .i64 0, .bool false, .slice none 0 0, .slice none 0 0] 26)
  have hB0 : Below w.heap.size w ((w.alloc (.cells #[.int .i64 0, .int .i64 0, .bool false, .slice none 0 0, .slice none 0 0] 26)).alloc (.cells #[.int .i64 0, .int .i64 0, .bool false, .slice none 0 0, .slice none 0 0] 26)) := ((Below.refl _ _).alloc (Nat.le_refl _) _).alloc (by simp) _
  have hS0 : ((w.alloc (.cells #[.int .i64 0, .int .i64 0, .bool false, .slice none 0 0, .slice none 0 0] 26)).alloc (.cells #[.int .i64 0, .int .i64 0, .bool false, .slice none 0 0, .slice none 0 0] 26)).heap.size = w.heap.size + 2 := by simp
  have hbx0 := hbx.kept hB0
  have hrow0 := h.kept hB0
  have HROWw : Hid (Row w a n bs) := h
  clear h hbx
  obtain ⟨R, hR⟩ : ∃ R, R = itemR lax bs (r + 1) p e := ⟨_, rfl⟩
  rw [← hR]
  have HRR : Hid (R = itemR lax bs (r + 1) p e) := hR
  clear hR
  go_enter Tryd.func44, Tryd.ntmps44
  go_upto_region 5 with fail
  obtain ⟨W, hW⟩ : ∃ W, W = ((w.alloc (.cells #[.int .i64 0, .int .i64 0, .bool false, .slice none 0 0, .slice none 0 0] 26)).alloc (.cells #[.int .i64 0, .int .i64 0, .bool false, .slice none 0 0, .slice none 0 0] 26)) := ⟨_, rfl⟩
  rw [← hW] at b0 b1 hB0 hS0 hbx0 hrow0 ⊢
  clear hW
  have TW : Hid (Touch RB (RB + 1) w W) := Touch.of_below hB0
  by_cases hpe : p = e
  · subst hpe
    exact absurd ((kind_pe lax bs p).symm.trans HK.out) (show ¬ (0 : Nat) = 3 by decide)
  have hge : ¬ (e : Int) ≤ (p : Int) := by omega
  have HRR2 : Hid (R = match tagR lax bs p e with
     | .no c q => .no c q
     | .ok t q => bodyR (itemR lax bs r) bs p e t (lenR lax (consN bs p) bs q e)) := by
    show _ = _
    rw [HRR.out, itemR, if_neg hpe]
    rfl
  clear HRR
  obtain ⟨b, off, rfl, hb, hc⟩ := hrow0.get p (by omega)
  have hbRB : b < RB := (hin b off rfl (by omega)).2
  have hby := hrow0.byte p
  obtain ⟨x, hx⟩ : ∃ x, x = bs.getD p 0 := ⟨_, rfl⟩
  rw [← hx] at hc hby
  obtain ⟨hx0, hx1⟩ := hby
  obtain ⟨cl, hcl⟩ : ∃ cl, cl = clsN bs p := ⟨_, rfl⟩
  obtain ⟨co, hco⟩ : ∃ co, co = consN bs p := ⟨_, rfl⟩
  have hcl' : x / 64 = cl := by rw [hcl, hx]; rfl
  have a32 : (bits .and .u8 x 32 != 0) = co := by rw [hco, and32 x hx0 hx1, hx]; rfl
  have HCL : Hid (cl = clsN bs p) := hcl
  have HCO : Hid (co = consN bs p) := hco
  have hcl0 : 0 ≤ cl := by omega
  have hcl3 : cl ≤ 3 := by omega
  have hpn : (p : Int) < (n : Int) := by omega
  clear hx hcl hco
  obtain ⟨bc0, bc1, bc2, bc3⟩ := hbx0.cells
  have HB0 : Hid (Below w.heap.size w W) := hB0
  have HBX0 : Hid (RBox RB W _ n cap lax 0 pl) := hbx0
  have HROW0 : Hid (Row W _ n bs) := hrow0
  have E8_0 : Hid (W.heap[w.heap.size]? = _) := b0
  have EG_0 : Hid (W.heap[w.heap.size + 1]? = _) := b1
  have gc0 : W.cell? ⟨w.heap.size + 1, 0, none⟩ = some (.int .i64 0) := (cell_of_row _ (w.heap.size + 1) 0 _ 26 (0, 0) b1).trans rfl
  have gf0 : W.frozen? ⟨w.heap.size + 1, 0, none⟩ = false := frozen_of_row W (w.heap.size + 1) 0 _ 26 b1
  have gc1 : W.cell? ⟨w.heap.size + 1, 1, none⟩ = some (.int .i64 0) := (cell_of_row _ (w.heap.size + 1) 1 _ 26 (0, 0) b1).trans rfl
  have gf1 : W.frozen? ⟨w.heap.size + 1, 1, none⟩ = false := frozen_of_row W (w.heap.size + 1) 1 _ 26 b1
  have gc2 : W.cell? ⟨w.heap.size + 1, 2, none⟩ = some (.bool false) := (cell_of_row _ (w.heap.size + 1) 2 _ 26 (0, 0) b1).trans rfl
  have gf2 : W.frozen? ⟨w.heap.size + 1, 2, none⟩ = false := frozen_of_row W (w.heap.size + 1) 2 _ 26 b1
  have gc3 : W.cell? ⟨w.heap.size + 1, 3, none⟩ = some (.slice none 0 0) := (cell_of_row _ (w.heap.size + 1) 3 _ 26 (0, 0) b1).trans rfl
  have gf3 : W.frozen? ⟨w.heap.size + 1, 3, none⟩ = false := frozen_of_row W (w.heap.size + 1) 3 _ 26 b1
  have gc4 : W.cell? ⟨w.heap.size + 1, 4, none⟩ = some (.slice none 0 0) := (cell_of_row _ (w.heap.size + 1) 4 _ 26 (0, 0) b1).trans rfl
  have gf4 : W.frozen? ⟨w.heap.size + 1, 4, none⟩ = false := frozen_of_row W (w.heap.size + 1) 4 _ 26 b1
  clear b0 b1 hB0 hbx0 hrow0
  go_upto_region 9 with fail
  have tS1 : Touch (w.heap.size + 1) (w.heap.size + 2) W (W.setCell ⟨w.heap.size + 1, 0, none⟩ (.int .i64 cl)) := touch_set _ _ _ _ (Nat.le_refl _) (by omega)
  have g1 : (W.setCell ⟨w.heap.size + 1, 0, none⟩ (.int .i64 cl)).heap[w.heap.size + 1]? = some (.cells #[.int .i64 cl, .int .i64 0, .bool false, .slice none 0 0, .slice none 0 0] 26 (0, 0)) := (heap_setCell_same W (w.heap.size + 1) 0 _ 26 _ EG_0.out).trans rfl
  obtain ⟨W1, hW1⟩ : ∃ W1, W1 = W.setCell ⟨w.heap.size + 1, 0, none⟩ (.int .i64 cl) := ⟨_, rfl⟩
  rw [← hW1] at tS1 g1 ⊢
  clear hW1 bc0 bc1 bc2 bc3 gc0 gc1 gc2 gc3 gc4 gf0 gf1 gf2 gf3 gf4
  have hc1 : W1.cell? ⟨b, off + p, none⟩ = some (.int .u8 x) := (World.cell?_of_block (a := ⟨b, off + p, none⟩) (tS1.block b hb (.inl (by omega)))).trans hc
  have hbx1 : RBox RB W1 _ n cap lax 0 pl := (tS1.block RB (by omega) (.inl (by omega))).trans HBX0.out
  obtain ⟨bc0, bc1, bc2, bc3⟩ := hbx1.cells
  have gc0 : W1.cell? ⟨w.heap.size + 1, 0, none⟩ = some (.int .i64 cl) := (cell_of_row _ (w.heap.size + 1) 0 _ 26 (0, 0) g1).trans rfl
  have gf0 : W1.frozen? ⟨w.heap.size + 1, 0, none⟩ = false := frozen_of_row W1 (w.heap.size + 1) 0 _ 26 g1
  have gc1 : W1.cell? ⟨w.heap.size + 1, 1, none⟩ = some (.int .i64 0) := (cell_of_row _ (w.heap.size + 1) 1 _ 26 (0, 0) g1).trans rfl
  have gf1 : W1.frozen? ⟨w.heap.size + 1, 1, none⟩ = false := frozen_of_row W1 (w.heap.size + 1) 1 _ 26 g1
  have gc2 : W1.cell? ⟨w.heap.size + 1, 2, none⟩ = some (.bool false) := (cell_of_row _ (w.heap.size + 1) 2 _ 26 (0, 0) g1).trans rfl
  have gf2 : W1.frozen? ⟨w.heap.size + 1, 2, none⟩ = false := frozen_of_row W1 (w.heap.size + 1) 2 _ 26 g1
  have gc3 : W1.cell? ⟨w.heap.size + 1, 3, none⟩ = some (.slice none 0 0) := (cell_of_row _ (w.heap.size + 1) 3 _ 26 (0, 0) g1).trans rfl
  have gf3 : W1.frozen? ⟨w.heap.size + 1, 3, none⟩ = false := frozen_of_row W1 (w.heap.size + 1) 3 _ 26 g1
  have gc4 : W1.cell? ⟨w.heap.size + 1, 4, none⟩ = some (.slice none 0 0) := (cell_of_row _ (w.heap.size + 1) 4 _ 26 (0, 0) g1).trans rfl
  have gf4 : W1.frozen? ⟨w.heap.size + 1, 4, none⟩ = false := frozen_of_row W1 (w.heap.size + 1) 4 _ 26 g1
  have E8_1 : Hid (W1.heap[w.heap.size]? = _) := (tS1.block _ (by omega) (.inl (by omega))).trans E8_0.out
  clear hc
  go_upto_region 10 with fail
  have tS2 : Touch (w.heap.size + 1) (w.heap.size + 2) W (W1.setCell ⟨w.heap.size + 1, 2, none⟩ (.bool co)) := tS1.trans (touch_set _ _ _ _ (Nat.le_refl _) (by omega))
  have g2 : (W1.setCell ⟨w.heap.size + 1, 2, none⟩ (.bool co)).heap[w.heap.size + 1]? = some (.cells #[.int .i64 cl, .int .i64 0, .bool co, .slice none 0 0, .slice none 0 0] 26 (0, 0)) := (heap_setCell_same W1 (w.heap.size + 1) 2 _ 26 _ g1).trans rfl
  obtain ⟨W2, hW2⟩ : ∃ W2, W2 = W1.setCell ⟨w.heap.size + 1, 2, none⟩ (.bool co) := ⟨_, rfl⟩
  rw [← hW2] at tS2 g2 ⊢
  clear hW2 bc0 bc1 bc2 bc3 gc0 gc1 gc2 gc3 gc4 gf0 gf1 gf2 gf3 gf4 hc1 g1 tS1 hbx1 a32 hcl'
  have hs2 := tS2.size
  have EB2 : Hid (RBox RB W2 _ n cap lax 0 pl) := (tS2.block RB (by omega) (.inl (by omega))).trans HBX0.out
  have TW2 : Hid (Touch RB (RB + 1) w W2) := TW.out.news tS2 (by omega)
  have E8_2 : Hid (W2.heap[w.heap.size]? = some (.cells #[.int .i64 0, .int .i64 0, .bool false, .slice none 0 0, .slice none 0 0] 26 (0, 0))) := (tS2.block _ (by omega) (.inl (by omega))).trans E8_0.out
  have EG_2 : Hid (_ = _) := g2
  have hrow2 : Row W2 _ n bs := HROW0.out.touch hin (.inl (by omega)) tS2
  have HT := stag_any RB (some ⟨b, off, none⟩) n cap lax pl bs p e W2 hrow2 EB2.out (by omega) he hn
  have hts := tagR_stag lax bs p e
  clear tS2 g2 E8_0 EG_0 E8_1 HBX0 HB0 TW
  cases hst : stagR lax bs p e with
  | no c q =>
    rw [hst] at HT hts
    exact absurd ((kind_no hts).symm.trans HK.out) (show ¬ (0 : Nat) = 3 by decide)
  | ok t q =>
    rw [hst] at HT hts
    have hq := stagR_place (by omega) hst
    clear hst
    go_upto_region 13 with (go_at_call 71; refine HT.mono ?_; rintro ev w3 ⟨t3, rfl, hbx3⟩; obtain ⟨d0, d1, d2, d3⟩ := RBox.cells hbx3)
    have hs3 := t3.size
    have x8 := (t3.block _ (by omega) (.inr (by omega))).trans E8_2.out
    have xG := (t3.block _ (by omega) (.inr (by omega))).trans EG_2.out
    have gc0 : w3.cell? ⟨w.heap.size + 1, 0, none⟩ = some (.int .i64 cl) := (cell_of_row _ (w.heap.size + 1) 0 _ 26 (0, 0) xG).trans rfl
    have gf0 : w3.frozen? ⟨w.heap.size + 1, 0, none⟩ = false := frozen_of_row w3 (w.heap.size + 1) 0 _ 26 xG
    have gc1 : w3.cell? ⟨w.heap.size + 1, 1, none⟩ = some (.int .i64 0) := (cell_of_row _ (w.heap.size + 1) 1 _ 26 (0, 0) xG).trans rfl
    have gf1 : w3.frozen? ⟨w.heap.size + 1, 1, none⟩ = false := frozen_of_row w3 (w.heap.size + 1) 1 _ 26 xG
    have gc2 : w3.cell? ⟨w.heap.size + 1, 2, none⟩ = some (.bool co) := (cell_of_row _ (w.heap.size + 1) 2 _ 26 (0, 0) xG).trans rfl
    have gf2 : w3.frozen? ⟨w.heap.size + 1, 2, none⟩ = false := frozen_of_row w3 (w.heap.size + 1) 2 _ 26 xG
    have gc3 : w3.cell? ⟨w.heap.size + 1, 3, none⟩ = some (.slice none 0 0) := (cell_of_row _ (w.heap.size + 1) 3 _ 26 (0, 0) xG).trans rfl
    have gf3 : w3.frozen? ⟨w.heap.size + 1, 3, none⟩ = false := frozen_of_row w3 (w.heap.size + 1) 3 _ 26 xG
    have gc4 : w3.cell? ⟨w.heap.size + 1, 4, none⟩ = some (.slice none 0 0) := (cell_of_row _ (w.heap.size + 1) 4 _ 26 (0, 0) xG).trans rfl
    have gf4 : w3.frozen? ⟨w.heap.size + 1, 4, none⟩ = false := frozen_of_row w3 (w.heap.size + 1) 4 _ 26 xG
    go_upto_region 14 with fail
    have tS4 : Touch (w.heap.size + 1) (w.heap.size + 2) w3 (w3.setCell ⟨w.heap.size + 1, 1, none⟩ (.int .i64 t)) := touch_set _ _ _ _ (Nat.le_refl _) (by omega)
    have g4 : (w3.setCell ⟨w.heap.size + 1, 1, none⟩ (.int .i64 t)).heap[w.heap.size + 1]? = some (.cells #[.int .i64 cl, .int .i64 t, .bool co, .slice none 0 0, .slice none 0 0] 26 (0, 0)) := (heap_setCell_same w3 (w.heap.size + 1) 1 _ 26 _ xG).trans rfl
    obtain ⟨W4, hW4⟩ : ∃ W4, W4 = w3.setCell ⟨w.heap.size + 1, 1, none⟩ (.int .i64 t) := ⟨_, rfl⟩
    rw [← hW4] at tS4 g4 ⊢
    clear hW4 d0 d1 d2 d3 gc0 gc1 gc2 gc3 gc4 gf0 gf1 gf2 gf3 gf4
    have hs4 := tS4.size
    have EB4 : Hid (RBox RB W4 _ n cap lax 0 pl) := (tS4.block RB (by omega) (.inl (by omega))).trans hbx3
    have TW4 : Hid (Touch RB (RB + 1) w W4) := (TW2.out.trans t3).news tS4 (by omega)
    have E8_4 : Hid (W4.heap[w.heap.size]? = some (.cells #[.int .i64 0, .int .i64 0, .bool false, .slice none 0 0, .slice none 0 0] 26 (0, 0))) := (tS4.block _ (by omega) (.inl (by omega))).trans x8
    have EG_4 : Hid (_ = _) := g4
    have hrow4 : Hid (Row W4 _ n bs) := (hrow2.touch hin (.inl (Nat.le_refl _)) t3).touch hin (.inl (by omega)) tS4
    clear tS4 g4 x8 xG hbx3 t3 hrow2 HT E8_2 EG_2 EB2 TW2
    have gc0 : W4.cell? ⟨w.heap.size + 1, 0, none⟩ = some (.int .i64 cl) := (cell_of_row _ (w.heap.size + 1) 0 _ 26 (0, 0) EG_4.out).trans rfl
    have gf0 : W4.frozen? ⟨w.heap.size + 1, 0, none⟩ = false := frozen_of_row W4 (w.heap.size + 1) 0 _ 26 EG_4.out
    have gc1 : W4.cell? ⟨w.heap.size + 1, 1, none⟩ = some (.int .i64 t) := (cell_of_row _ (w.heap.size + 1) 1 _ 26 (0, 0) EG_4.out).trans rfl
    have gf1 : W4.frozen? ⟨w.heap.size + 1, 1, none⟩ = false := frozen_of_row W4 (w.heap.size + 1) 1 _ 26 EG_4.out
    have gc2 : W4.cell? ⟨w.heap.size + 1, 2, none⟩ = some (.bool co) := (cell_of_row _ (w.heap.size + 1) 2 _ 26 (0, 0) EG_4.out).trans rfl
    have gf2 : W4.frozen? ⟨w.heap.size + 1, 2, none⟩ = false := frozen_of_row W4 (w.heap.size + 1) 2 _ 26 EG_4.out
    have gc3 : W4.cell? ⟨w.heap.size + 1, 3, none⟩ = some (.slice none 0 0) := (cell_of_row _ (w.heap.size + 1) 3 _ 26 (0, 0) EG_4.out).trans rfl
    have gf3 : W4.frozen? ⟨w.heap.size + 1, 3, none⟩ = false := frozen_of_row W4 (w.heap.size + 1) 3 _ 26 EG_4.out
    have gc4 : W4.cell? ⟨w.heap.size + 1, 4, none⟩ = some (.slice none 0 0) := (cell_of_row _ (w.heap.size + 1) 4 _ 26 (0, 0) EG_4.out).trans rfl
    have gf4 : W4.frozen? ⟨w.heap.size + 1, 4, none⟩ = false := frozen_of_row W4 (w.heap.size + 1) 4 _ 26 EG_4.out
    have hts2 : tagR lax bs p e = if clsN bs p = 0 ∧ t = 0 then .no 2 p else .ok t q := hts
    clear hts
    by_cases hct : cl = 0 ∧ t = 0
    · exact absurd ((kind_no (hts2.trans (if_pos ⟨HCL.out.symm.trans hct.1, hct.2⟩))).symm.trans HK.out) (show ¬ (0 : Nat) = 3 by decide)
    have HKL : Hid (kindL co e (lenR lax co bs q e) = 3) := by show _ = _; rw [HCO.out, ← kind_ok hpe (hts2.trans (if_neg (fun h => hct ⟨HCL.out.trans h.1, h.2⟩)))]; exact HK.out
    have HR2 : Hid (R = bodyR (itemR lax bs r) bs p e t (lenR lax co bs q e)) := by show _ = _; rw [HRR2.out, hts2, if_neg (fun h => hct ⟨HCL.out.trans h.1, h.2⟩), HCO.out]
    clear hts2 HRR2
    go_cut [73] (fun v wx => v = .bool false ∧ W4 = wx)
    case first =>
      by_cases k2 : cl = 0
      · have k3 : (t == 0) = false := by simp; intro h; exact hct ⟨k2, h⟩
        have HCT : Hid (_) := hct
        clear hct HCL
        subst k2
        go_wp2_with fail
        go_meet
        exact ⟨rfl, rfl⟩
      · have k2' : (cl == 0) = false := by simp [k2]
        clear hct
        go_wp2_with fail
        go_meet
        exact ⟨rfl, rfl⟩
    case rest =>
    obtain ⟨rfl, rfl⟩ := hcut
    have HCT : Hid (_) := hct
    clear hct
    have HL := slength_any RB (some ⟨b, off, none⟩) n cap lax co pl bs q e W4 hrow4.out EB4.out hq.2 he hn
    cases hl : lenR lax co bs q e with
    | no c q2 => exact absurd (by have h9 := HKL.out; rw [hl] at h9; exact h9) (show ¬ (0 : Nat) = 3 by decide)
    | ok o q2 =>
      rw [hl] at HL
      have hq2 := lenR_place hq.2 hl
      have HR3 : Hid (R = bodyR (itemR lax bs r) bs p e t (.ok o q2)) := by show _ = _; rw [HR2.out, hl]
      clear HR2
      cases o with
      | none => exact absurd (by have h9 := HKL.out; rw [hl] at h9; exact h9) (show ¬ (1 : Nat) = 3 by decide)
      | some m =>
        have HKM : Hid ((if co = true ∧ ¬ e < q2 + m then 3 else 2) = 3) := by show _ = _; have h9 := HKL.out; rw [hl] at h9; exact h9
        have HR4 : Hid (R = if e < q2 + m then .no 1 e else if co = true then boxR cl t (closedR (fun i => itemR lax bs r i (q2 + m)) (q2 + m) m [] q2) (some (q2 + m)) else .ok (.mk cl t false ((bs.drop q2).take m) []) (q2 + m)) := by show _ = _; rw [HR3.out, HCL.out, HCO.out]; rfl
        have hm32 := lenR_small hrow4.out.byte (by rw [hrow4.out.len]; exact he) hl
        clear hl HR3
        go_upto_region 22 with (go_at_call 72; refine HL.mono ?_; rintro ev w5 ⟨t5, hev, hbx5⟩; obtain rfl : ev = .returned (.tuple #[.int .i64 (m : Int), .int .i64 (q2 : Int)]) := hev; obtain ⟨d0, d1, d2, d3⟩ := RBox.cells hbx5)
        have hs5 := t5.size
        have TX : Hid (Touch RB (RB + 1) w w5) := TW4.out.trans t5
        have E8_5 : Hid (_ = _) := (t5.block _ (by omega) (.inr (by omega))).trans E8_4.out
        have xG := (t5.block _ (by omega) (.inr (by omega))).trans EG_4.out
        have EG_5 : Hid (_ = _) := xG
        have EB5 : Hid (RBox RB w5 _ n cap lax 0 pl) := hbx5
        have hrow5 : Hid (Row w5 _ n bs) := hrow4.out.touch hin (.inl (Nat.le_refl _)) t5
        clear gc0 gc1 gc2 gc3 gc4 gf0 gf1 gf2 gf3 gf4 HL hbx5 t5 E8_4 EG_4 EB4 TW4 hrow4
        by_cases hem : e < q2 + m
        · exact absurd HKM.out (by rw [if_neg (fun h => h.2 hem)]; decide)
        have hemi : ¬ (e : Int) < (q2 : Int) + (m : Int) := by omega
        have HR5 : Hid (R = if co = true then boxR cl t (closedR (fun i => itemR lax bs r i (q2 + m)) (q2 + m) m [] q2) (some (q2 + m)) else .ok (.mk cl t false ((bs.drop q2).take m) []) (q2 + m)) := by show _ = _; rw [HR4.out, if_neg hem]
        clear HR4
        have gc0 : w5.cell? ⟨w.heap.size + 1, 0, none⟩ = some (.int .i64 cl) := (cell_of_row _ (w.heap.size + 1) 0 _ 26 (0, 0) xG).trans rfl
        have gf0 : w5.frozen? ⟨w.heap.size + 1, 0, none⟩ = false := frozen_of_row w5 (w.heap.size + 1) 0 _ 26 xG
        have gc1 : w5.cell? ⟨w.heap.size + 1, 1, none⟩ = some (.int .i64 t) := (cell_of_row _ (w.heap.size + 1) 1 _ 26 (0, 0) xG).trans rfl
        have gf1 : w5.frozen? ⟨w.heap.size + 1, 1, none⟩ = false := frozen_of_row w5 (w.heap.size + 1) 1 _ 26 xG
        have gc2 : w5.cell? ⟨w.heap.size + 1, 2, none⟩ = some (.bool co) := (cell_of_row _ (w.heap.size + 1) 2 _ 26 (0, 0) xG).trans rfl
        have gf2 : w5.frozen? ⟨w.heap.size + 1, 2, none⟩ = false := frozen_of_row w5 (w.heap.size + 1) 2 _ 26 xG
        have gc3 : w5.cell? ⟨w.heap.size + 1, 3, none⟩ = some (.slice none 0 0) := (cell_of_row _ (w.heap.size + 1) 3 _ 26 (0, 0) xG).trans rfl
        have gf3 : w5.frozen? ⟨w.heap.size + 1, 3, none⟩ = false := frozen_of_row w5 (w.heap.size + 1) 3 _ 26 xG
        have gc4 : w5.cell? ⟨w.heap.size + 1, 4, none⟩ = some (.slice none 0 0) := (cell_of_row _ (w.heap.size + 1) 4 _ 26 (0, 0) xG).trans rfl
        have gf4 : w5.frozen? ⟨w.heap.size + 1, 4, none⟩ = false := frozen_of_row w5 (w.heap.size + 1) 4 _ 26 xG
        clear xG
        cases co with
        | true =>
          have HR6 : Hid (R = boxR cl t (closedR (fun i => itemR lax bs r i (q2 + m)) (q2 + m) m [] q2) (some (q2 + m))) := by show _ = _; rw [HR5.out, if_pos rfl]
          clear HR5
          obtain ⟨f, hf⟩ : ∃ f : Nat → Rs It, f = fun i => itemR lax bs r i (q2 + m) := ⟨_, rfl⟩
          rw [← hf] at HR6
          have HF : Hid (f = fun i => itemR lax bs r i (q2 + m)) := hf
          clear hf
          obtain ⟨R2, hR2⟩ : ∃ R2, R2 = closedR f (q2 + m) m [] q2 := ⟨_, rfl⟩
          rw [← hR2] at HR6
          have HR2 : Hid (R2 = closedR f (q2 + m) m [] q2) := hR2
          clear hR2
          obtain ⟨hi, hz0, hz1, hz2⟩ := HI.out
          have enx : Hid ((q2 : Int) + (m : Int) = ((q2 + m : Nat) : Int)) := by show _ = _; omega
          have hd2 : D ≤ 12 := by omega
          go_upto_region 28 with fail
          clear d0 d1 d2 d3 gc0 gc1 gc2 gc3 gc4 gf0 gf1 gf2 gf3 gf4
          go_wp2_with fail
          go_loopw [12] (fun i wr => ∃ (j q' : Nat) (a2 : Option Addr) (k c : Nat) (xs : List It) (vs : List Value), i = .int .i64 (q' : Int) ∧ q' ≤ q2 + m ∧ q2 + m ≤ q' + j ∧ k ≤ q' ∧ KidsAt r (w.heap.size + 2) wr a2 k c xs vs ∧ wr.heap[w.heap.size + 1]? = some (.cells #[.int .i64 cl, .int .i64 t, .bool true, .slice none 0 0, .slice a2 k c] 26 (0, 0)) ∧ wr.heap[w.heap.size]? = some (.cells #[.int .i64 0, .int .i64 0, .bool false, .slice none 0 0, .slice none 0 0] 26 (0, 0)) ∧ RBox RB wr (some ⟨b, off, none⟩) n cap lax 0 pl ∧ Touch RB (RB + 1) w wr ∧ w.heap.size + 2 ≤ wr.heap.size ∧ R2 = closedR f (q2 + m) j xs q') (fun i _ => q2 + m - (intOf i).toNat)
          case atStart => exact ⟨m, q2, none, 0, 0, [], [], rfl, by omega, by omega, by omega, kidsAt_nil _ _ _, EG_5.out, E8_5.out, EB5.out, TX.out, by omega, HR2.out⟩
          case round =>
            obtain ⟨j, q', a2, k, c, xs, vs, rfl, hqe, hem2, hkq, hka, hg1, hg0, hbox, htw, hsr, hRq⟩ := hrel
            have EG : Hid (_ = _) := hg1
            have E8 : Hid (_ = _) := hg0
            have EB : Hid (RBox RB wr _ n cap lax 0 pl) := hbox
            have TWr : Hid (Touch RB (RB + 1) w wr) := htw
            have HRQ : Hid (R2 = closedR f (q2 + m) j xs q') := hRq
            have HKA : Hid (_) := hka
            have hrow : Hid (Row wr _ n bs) := HROWw.out.touch hin (.inl (Nat.le_refl _)) htw
            obtain ⟨bc0, bc1, bc2, bc3⟩ := hbox.cells
            clear hg0 hg1 hbox htw hRq hka
            have FX : ∀ w1, Touch RB (RB + 1) wr w1 → Hid (w1.heap[w.heap.size]? = some (.cells #[.int .i64 0, .int .i64 0, .bool false, .slice none 0 0, .slice none 0 0] 26 (0, 0)) ∧ w1.heap[w.heap.size + 1]? = some (.cells #[.int .i64 cl, .int .i64 t, .bool true, .slice none 0 0, .slice a2 k c] 26 (0, 0))) := fun w1 t1 => ⟨(t1.block _ (by omega) (.inr (by omega))).trans E8.out, (t1.block _ (by omega) (.inr (by omega))).trans EG.out⟩
            by_cases hlt : q' < q2 + m
            · have hlti : (q' : Int) < (q2 : Int) + (m : Int) := by omega
              obtain ⟨j, rfl⟩ : ∃ j2, j = j2 + 1 := ⟨j - 1, by omega⟩
              have HC := IH q' (q2 + m) pl wr hrow.out hin EB.out hqe (by omega)
              rw [← HD.out, ← enx.out] at HC
              cases hit : itemR lax bs r q' (q2 + m) with
              | no c2 p2 =>
                rw [hit] at HC
                have hfq : f q' = .no c2 p2 := by rw [HF.out]; exact hit
                have hfin : Hid (R = .no c2 p2) := by show _ = _; rw [HR6.out, HRQ.out, closedR_no hlt hfq]; rfl
                have hcode := itemR_code r q' (q2 + m) hqe hit
                have hne : ((c2 : Int) != 0) = true := by simp; omega
                clear hit hfq HRQ
                go_upto_region 32 with (go_at_call 44; refine HC.mono ?_; rintro ev w3 ⟨t3, ⟨v, u, rfl, i2, j2, b2, a3, n3, c3, a4, n4, c4, rfl⟩, hbx3⟩; have hsw3 := t3.size; have hRB3 : RB < w3.heap.size := (by omega); obtain ⟨d0, d1, d2, d3⟩ := RBox.cells hbx3)
                have ht3 := TWr.out.trans t3
                obtain ⟨x3, x4⟩ := (FX w3 t3).out
                have hal : Below w3.heap.size w3 (w3.alloc (.cells #[.int .i64 i2, .int .i64 j2, .bool b2, .slice a3 n3 c3, .slice a4 n4 c4] 26)) := (Below.refl _ _).alloc (Nat.le_refl _) _
                have hsa : (w3.alloc (.cells #[.int .i64 i2, .int .i64 j2, .bool b2, .slice a3 n3 c3, .slice a4 n4 c4] 26)).heap.size = w3.heap.size + 1 := by simp
                obtain ⟨W4x, hW4x⟩ : ∃ W4x, W4x = w3.alloc (.cells #[.int .i64 i2, .int .i64 j2, .bool b2, .slice a3 n3 c3, .slice a4 n4 c4] 26) := ⟨_, rfl⟩
                rw [← hW4x] at hal hsa ⊢
                clear hW4x
                have hbx4 : Hid (RBox RB W4x _ n cap lax c2 p2) := hbx3.kept hal
                have X8 : Hid (_ = _) := heap_kept hal (by omega) x3
                have XG : Hid (_ = _) := heap_kept hal (by omega) x4
                have T4 : Hid (Touch RB (RB + 1) w W4x) := ⟨hal.os.trans ht3.os, hal.tape.trans ht3.tape, hal.output.trans ht3.output, Nat.le_trans ht3.size hal.size, fun k hk ho => (hal.block k (Nat.lt_of_lt_of_le hk ht3.size)).trans (ht3.block k hk ho)⟩
                clear x3 x4 hbx3 ht3 t3 hal bc0 bc1 bc2 bc3 d0 d1 d2 d3
                go_wp2_with (first | (refine wpList_load_row rfl 26 _ rfl (w.heap.size + 1) rfl 26 #[.int .i64 cl, .int .i64 t, .bool true, .slice none 0 0, .slice a2 k c] (0, 0) _ XG.out Tryd.underlying26 rfl infoSizeIt ?_) | (refine wpList_store_rowTo rfl 26 _ _ rfl rfl (w.heap.size) #[.int .i64 cl, .int .i64 t, .bool true, .slice none 0 0, .slice a2 k c] rfl rfl 26 #[.int .i64 0, .int .i64 0, .bool false, .slice none 0 0, .slice none 0 0] X8.out infoSizeIt rfl (by simp [Value.oneCell']) ?_))
                have q4 := setRow_heap W4x (w.heap.size) _ #[.int .i64 cl, .int .i64 t, .bool true, .slice none 0 0, .slice a2 k c] 26 (0, 0) X8.out
                have tt : Touch (w.heap.size) (w.heap.size + 1) W4x (W4x.setRow (w.heap.size) #[.int .i64 cl, .int .i64 t, .bool true, .slice none 0 0, .slice a2 k c]) := touch_setRow16 _ _ _
                have tse : (W4x.setRow (w.heap.size) #[.int .i64 cl, .int .i64 t, .bool true, .slice none 0 0, .slice a2 k c]).heap.size = W4x.heap.size := by simp
                try simp only [Exit.inBlock, Exit.then]
                refine bodyPost_ret (results_item2 rfl _ (w.heap.size) rfl _ _ _ _ _ _ q4) rfl ?_
                refine ⟨T4.out.news tt (by omega), ?_⟩
                rw [hfin.out]
                exact ⟨⟨_, _, rfl, _, _, _, _, _, _, _, _, _, rfl⟩, (tt.block RB (by omega) (.inl (by omega))).trans hbx4.out⟩
              | ok x nx =>
                rw [hit] at HC
                have hfq : f q' = .ok x nx := by rw [HF.out]; exact hit
                have hnx := itemR_place r q' (q2 + m) hqe hit
                have hnext : Hid (R2 = closedR f (q2 + m) j (xs ++ [x]) nx) := by show _ = _; rw [HRQ.out, closedR_next hlt hfq]
                clear hit hfq HRQ
                go_upto_region 33 with (go_at_call 44; refine HC.mono ?_; rintro ev w3 ⟨t3, ⟨ab, nb, cb, ak, nk, ck, M, rfl, m1, m2, ob, ok⟩, hbx3⟩; have hsw3 := t3.size; have hRB3 : RB < w3.heap.size := (by omega); obtain ⟨d0, d1, d2, d3⟩ := RBox.cells hbx3; unfold itv)
                have hs3 := t3.size
                obtain ⟨x3, x4⟩ := (FX w3 t3).out
                clear d0 d1 d2 d3
                have hal : Below w3.heap.size w3 (w3.alloc (.cells #[.int .i64 x.cls, .int .i64 x.tag, .bool x.cons, .slice ab nb cb, .slice ak nk ck] 26)) := (Below.refl _ _).alloc (Nat.le_refl _) _
                have hsa : (w3.alloc (.cells #[.int .i64 x.cls, .int .i64 x.tag, .bool x.cons, .slice ab nb cb, .slice ak nk ck] 26)).heap.size = w3.heap.size + 1 := by simp
                have gk := heap_alloc_new w3 (.cells #[.int .i64 x.cls, .int .i64 x.tag, .bool x.cons, .slice ab nb cb, .slice ak nk ck] 26)
                obtain ⟨W4x, hW4x⟩ : ∃ W4x, W4x = w3.alloc (.cells #[.int .i64 x.cls, .int .i64 x.tag, .bool x.cons, .slice ab nb cb, .slice ak nk ck] 26) := ⟨_, rfl⟩
                rw [← hW4x] at hal hsa gk ⊢
                clear hW4x
                have hbx4 := hbx3.kept hal
                have X3 := heap_kept hal (by omega) x3
                have X4 := heap_kept hal (by omega) x4
                have tW4 : Touch RB (RB + 1) wr W4x := ⟨hal.os.trans t3.os, hal.tape.trans t3.tape, hal.output.trans t3.output, Nat.le_trans t3.size hal.size, fun k hk ho => (hal.block k (Nat.lt_of_lt_of_le hk t3.size)).trans (t3.block k hk ho)⟩
                have ob4 := ob.kept hal
                have ok4 := ok.kept hal
                have hal5 : Below W4x.heap.size W4x (W4x.alloc (.cells #[.int .i64 x.cls, .int .i64 x.tag, .bool x.cons, .slice ab nb cb, .slice ak nk ck] 26)) := (Below.refl _ _).alloc (Nat.le_refl _) _
                have hsz5 : (W4x.alloc (.cells #[.int .i64 x.cls, .int .i64 x.tag, .bool x.cons, .slice ab nb cb, .slice ak nk ck] 26)).heap.size = w3.heap.size + 1 + 1 := by simp; omega
                have tW5 : Touch RB (RB + 1) wr (W4x.alloc (.cells #[.int .i64 x.cls, .int .i64 x.tag, .bool x.cons, .slice ab nb cb, .slice ak nk ck] 26)) := ⟨hal5.os.trans tW4.os, hal5.tape.trans tW4.tape, hal5.output.trans tW4.output, Nat.le_trans tW4.size hal5.size, fun k hk ho => (hal5.block k (Nat.lt_of_lt_of_le hk tW4.size)).trans (tW4.block k hk ho)⟩
                have hka5 := HKA.out.touch tW5 (by omega)
                have hnews := cells_new W4x #[.int .i64 x.cls, .int .i64 x.tag, .bool x.cons, .slice ab nb cb, .slice ak nk ck] 26
                rw [hsa] at hnews
                have X35 := heap_kept hal5 (by omega) X3
                have X45 := heap_kept hal5 (by omega) X4
                have hbx5 := hbx4.kept hal5
                have ob5 := ob4.kept hal5
                have ok5 := ok4.kept hal5
                have kc0 : W4x.cell? ⟨w3.heap.size, 0, none⟩ = some (.int .i64 x.cls) := (cell_of_row _ w3.heap.size 0 _ 26 (0, 0) gk).trans rfl
                have kc1 : W4x.cell? ⟨w3.heap.size, 1, none⟩ = some (.int .i64 x.tag) := (cell_of_row _ w3.heap.size 1 _ 26 (0, 0) gk).trans rfl
                have kc2 : W4x.cell? ⟨w3.heap.size, 2, none⟩ = some (.bool x.cons) := (cell_of_row _ w3.heap.size 2 _ 26 (0, 0) gk).trans rfl
                have kc3 : W4x.cell? ⟨w3.heap.size, 3, none⟩ = some (.slice ab nb cb) := (cell_of_row _ w3.heap.size 3 _ 26 (0, 0) gk).trans rfl
                have kc4 : W4x.cell? ⟨w3.heap.size, 4, none⟩ = some (.slice ak nk ck) := (cell_of_row _ w3.heap.size 4 _ 26 (0, 0) gk).trans rfl
                have gc4 : W4x.cell? ⟨w.heap.size + 1, 4, none⟩ = some (.slice a2 k c) := (cell_of_row _ (w.heap.size + 1) 4 _ 26 (0, 0) X4).trans rfl
                have HAL : Hid (_ ∧ _ ∧ _ ∧ _ ∧ _ ∧ _ ∧ _) := ⟨tW5, hka5, X35, X45, hbx5, ob5, ok5⟩
                have hka5r := hka5.row
                clear tW5 hka5 X35 X45 hbx5 ob5 ok5 hal5 ob4 ok4 tW4 X3 X4 hbx4 gk hal hbx3 x3 x4 ob ok bc0 bc1 bc2 bc3 HC
                go_wp2_with (at_builtin; refine wpList_append_lies _ rfl (.tmp 155) (.tmp 157) 24 rfl (w.heap.size + 2) 26 i0 _ 5 72 Tryd.underlying24 hi hz0 hz1 hz2 rfl (by decide) _ k vs rfl hka5r ⟨w3.heap.size + 1, 0, none⟩ 1 1 [.int .i64 x.cls, .int .i64 x.tag, .bool x.cons, .slice ab nb cb, .slice ak nk ck] rfl rfl hnews (by intro u hu; simp only [List.mem_cons, List.not_mem_nil, or_false] at hu; rcases hu with rfl | rfl | rfl | rfl | rfl <;> rfl) (by decide) (by unfold maxLen; omega) (by omega) (by omega) (w3.heap.size + 1 + 1) hsz5 ?_; intro g5 c5 w5x hown5 hg5 hlies5 hlt5; have y3 := (hg5.block (w.heap.size + 1) (by omega) (fun e => by have := HAL.out.2.1.block _ e.symm; omega)).trans HAL.out.2.2.2.1; have yc4 : w5x.cell? ⟨w.heap.size + 1, 4, none⟩ = some (.slice a2 k c) := (cell_of_row _ (w.heap.size + 1) 4 _ 26 (0, 0) y3).trans rfl; have yf4 : w5x.frozen? ⟨w.heap.size + 1, 4, none⟩ = false := frozen_of_row w5x (w.heap.size + 1) 4 _ 26 y3)
                obtain ⟨tW5, hka5, X35, X45, hbx5, ob5, ok5⟩ := HAL.out
                have hka6 := HKA.out.more2 (by omega) tW5 (by omega) m1 m2 (by omega) ob5 ok5 hown5 hg5 (by rw [hsz5]; exact hlies5)
                have tW6 := hka5.grew (TWr.out.trans tW5) (by omega) hg5
                have y4 := (hg5.block w.heap.size (by omega) (fun e => by have := hka5.block _ e.symm; omega)).trans X35
                have hs5x := hg5.size
                have hbx6 : RBox RB w5x _ n cap lax 0 pl := (hg5.block RB (by omega) (fun e => by have := hka5.block _ e.symm; omega)).trans hbx5
                have tS : Touch (w.heap.size + 1) (w.heap.size + 2) w5x (w5x.setCell ⟨w.heap.size + 1, 4, none⟩ (.slice (some ⟨g5, 0, none⟩) (k + 1) c5)) := touch_set _ _ _ _ (Nat.le_refl _) (by omega)
                have z3 : (w5x.setCell ⟨w.heap.size + 1, 4, none⟩ (.slice (some ⟨g5, 0, none⟩) (k + 1) c5)).heap[w.heap.size + 1]? = some (.cells #[.int .i64 cl, .int .i64 t, .bool true, .slice none 0 0, .slice (some ⟨g5, 0, none⟩) (k + 1) c5] 26 (0, 0)) := (heap_setCell_same w5x (w.heap.size + 1) 4 _ 26 _ y3).trans rfl
                have z4 := (tS.block w.heap.size (by omega) (.inl (by omega))).trans y4
                have hbx7 : RBox RB _ _ n cap lax 0 pl := (tS.block RB (by omega) (.inl (by omega))).trans hbx6
                have hka7 := hka6.touch tS (by omega)
                have tW7 := tW6.news tS (by omega)
                have hs7 := tS.size
                have HFIN : Hid (_ ∧ _ ∧ _ ∧ _ ∧ _) := ⟨hka7, z3, z4, hbx7, tW7⟩
                clear hka7 z3 z4 hbx7 tW7 hka6 tW6 y4 hbx6 tS tW5 hka5 X35 X45 hbx5 ob5 ok5 hown5 hg5 hlies5 hlt5 y3 yc4 yf4
                go_roundw
                case rel => exact ⟨j, nx, some ⟨g5, 0, none⟩, k + 1, c5, xs ++ [x], _, rfl, hnx.2, by omega, by omega, HFIN.out.1, HFIN.out.2.1, HFIN.out.2.2.1, HFIN.out.2.2.2.1, HFIN.out.2.2.2.2, by omega, hnext.out⟩
                case measure => simp [intOf]; omega
            · obtain rfl : q' = q2 + m := by omega
              have hlti : ¬ ((q2 + m : Nat) : Int) < (q2 : Int) + (m : Int) := by omega
              have hfin : Hid (R = .ok (.mk cl t true [] xs) (q2 + m)) := by show _ = _; rw [HR6.out, HRQ.out, closedR_end (by omega)]; rfl
              go_wp2_with (first | (refine wpList_load_row rfl 26 _ rfl (w.heap.size + 1) rfl 26 #[.int .i64 cl, .int .i64 t, .bool true, .slice none 0 0, .slice a2 k c] (0, 0) _ EG.out Tryd.underlying26 rfl infoSizeIt ?_) | (refine wpList_store_rowTo rfl 26 _ _ rfl rfl (w.heap.size) #[.int .i64 cl, .int .i64 t, .bool true, .slice none 0 0, .slice a2 k c] rfl rfl 26 #[.int .i64 0, .int .i64 0, .bool false, .slice none 0 0, .slice none 0 0] E8.out infoSizeIt rfl (by simp [Value.oneCell']) ?_))
              have q4 := setRow_heap wr (w.heap.size) _ #[.int .i64 cl, .int .i64 t, .bool true, .slice none 0 0, .slice a2 k c] 26 (0, 0) E8.out
              have tt : Touch (w.heap.size) (w.heap.size + 1) wr (wr.setRow (w.heap.size) #[.int .i64 cl, .int .i64 t, .bool true, .slice none 0 0, .slice a2 k c]) := touch_setRow16 _ _ _
              have tse : (wr.setRow (w.heap.size) #[.int .i64 cl, .int .i64 t, .bool true, .slice none 0 0, .slice a2 k c]).heap.size = wr.heap.size := by simp
              try simp only [Exit.inBlock, Exit.then]
              refine bodyPost_ret (results_item2 rfl _ (w.heap.size) rfl _ _ _ _ _ _ q4) rfl ?_
              refine ⟨TWr.out.news tt (by omega), ?_⟩
              rw [hfin.out]
              refine ⟨⟨none, 0, 0, a2, k, c, w.heap.size + 2, rfl, by omega, by rw [tse]; exact hsr, ownB_nil16 _ _ _, ?_⟩, (tt.block RB (by omega) (.inl (by omega))).trans EB.out⟩
              exact (HKA.out.touch tt (by omega)).kids (by omega)
        | false => exact absurd HKM.out (by rw [if_neg (fun h => by cases h.1)]; decide)

end Go.Proofs.YtjkkokjojaknkaaDoor
