import Derived.Test.YtjkkokjojaknkaaDoorRR16
import Derived.Great.BuildSlice
namespace Go.Proofs.YtjkkokjojaknkaaDoor
open Go.RowKit

set_option maxRecDepth 10000 in
set_option maxHeartbeats 16000000 in
theorem sitemC_k0 (RB : Nat) (lax : Bool) (bs : List Int) (n cap : Nat) (a : Option Addr) (hn : n ≤ 20000) (_hcap : n ≤ cap) (r : Nat) (hr : r + 1 ≤ 12) (IH : SItemC RB lax bs n cap a r) :
    ∀ (p e : Nat) (pl : Int) (w : World), kindI lax bs p e = 0 → Row w a n bs → In a n 0 RB → RBox RB w a n cap lax 0 pl → p ≤ e → e ≤ n →
    Calls Tryd.prog 44 #[.pointer (some ⟨RB, 0, none⟩), .int .i64 (p : Int), .int .i64 (e : Int), .int .i64 (13 - ((r + 1 : Nat) : Int))] w fun ev w' => SItPost RB (r + 1) n cap a lax pl (itemR lax bs (r + 1) p e) w ev w'  := by
  intro p e pl w hk h hin hbx hpe0 he
  have HK : Hid (kindI lax bs p e = 0) := hk
  clear hk
  obtain ⟨i0, hi, hz0, hz1, hz2⟩ := info_parts Tryd.infoItem
  obtain ⟨i5, hi5, hz50, hz51, hz52⟩ := info_parts Tryd.info5
  have HI : Hid (_ ∧ _ ∧ _ ∧ _) := ⟨hi, hz0, hz1, hz2⟩
  have HI5 : Hid (_ ∧ _ ∧ _ ∧ _) := ⟨hi5, hz50, hz51, hz52⟩
  clear hi hz0 hz1 hz2 hi5 hz50 hz51 hz52
  have hRBw := hbx.lt
  obtain ⟨D, hD⟩ : ∃ D : Int, D = 13 - ((r + 1 : Nat) : Int) := ⟨_, rfl⟩
  rw [← hD]
  have hd1 : ¬ (12 : Int) < D := by omega
  have hd0 : 0 ≤ D := by omega
  have HD : Hid (D + 1 = 13 - (r : Int)) := by show _ = _; omega
  clear hD
  obtain ⟨b0, b1⟩ := two_blocks w (.cells #[.int .i64 0, .int .i64 0, .bool false, .slice none 0 0, .slice none 0 0] 26) (.cells #[.int .i64 0, .int .i64 0, .bool false, .slice none 0 0, .slice none 0 0] 26)
  have hB0 : Below w.heap.size w ((w.alloc (.cells #[.int .i64 0, .int .i64 0, .bool false, .slice none 0 0, .slice none 0 0] 26)).alloc (.cells #[.int .i64 0, .int .i64 0, .bool false, .slice none 0 0, .slice none 0 0] 26)) := ((Below.refl _ _).alloc (Nat.le_refl _) _).alloc (by simp) _
  have hS0 : ((w.alloc (.cells #[.int .i64 0, .int .i64 0, .bool false, .slice none 0 0, .slice none 0 0] 26)).alloc (.cells #[.int .i64 0, .int .i64 0, .bool false, .slice none 0 0, .slice none 0 0] 26)).heap.size = w.heap.size + 2 := by simp
  have hbx0 := hbx.kept hB0
  have hrow0 := h.kept hB0
  have HROWw : Hid (Row w a n bs) := h
  clear h hbx
  obtain ⟨R, hR⟩ : ∃ R, R = itemR lax bs (r + 1) p e := ⟨_, rfl⟩
  rw [← hR]
  have HRR : Hid (R = itemR lax bs (r + 1) p e) := hR
  clear hR
  go_enter Tryd.func44, Tryd.ntmps44
  go_upto_region 5 with fail
  obtain ⟨W, hW⟩ : ∃ W, W = ((w.alloc (.cells #[.int .i64 0, .int .i64 0, .bool false, .slice none 0 0, .slice none 0 0] 26)).alloc (.cells #[.int .i64 0, .int .i64 0, .bool false, .slice none 0 0, .slice none 0 0] 26)) := ⟨_, rfl⟩
  rw [← hW] at b0 b1 hB0 hS0 hbx0 hrow0 ⊢
  clear hW
  have TW : Hid (Touch RB (RB + 1) w W) := Touch.of_below hB0
  by_cases hpe : p = e
  · subst hpe
    have hf : Hid (R = .no 1 p) := by show _ = _; rw [HRR.out, itemR, if_pos rfl]
    have hge : (p : Int) ≤ (p : Int) := by omega
    have FA : ∀ (c p : Int), Hid (Calls Tryd.prog 45 #[.pointer (some ⟨RB, 0, none⟩), .int .i64 c, .int .i64 p] W fun e w' => e = .returned (.tuple #[]) ∧ RBox RB w' a n cap lax c p ∧ Touch RB (RB + 1) W w') := fun c p => fail_any RB a n cap lax pl c p W hbx0
    have FX : ∀ w1, Touch RB (RB + 1) W w1 → Hid (w1.heap[w.heap.size]? = some (.cells #[.int .i64 0, .int .i64 0, .bool false, .slice none 0 0, .slice none 0 0] 26 (0, 0)) ∧ w1.heap[w.heap.size + 1]? = some (.cells #[.int .i64 0, .int .i64 0, .bool false, .slice none 0 0, .slice none 0 0] 26 (0, 0))) := fun w1 t1 => ⟨(t1.block _ (by omega) (.inr (by omega))).trans b0, (t1.block _ (by omega) (.inr (by omega))).trans b1⟩
    go_upto_region 7 with (go_at_call 45; refine (FA 1 (p : Int)).out.mono ?_; rintro e w9 ⟨rfl, hbx9, t9⟩)
    obtain ⟨x8, xG⟩ := (FX w9 t9).out
    have hs9 := t9.size
    have X8 : Hid (_ = _) := x8
    have XG : Hid (_ = _) := xG
    have TX : Hid (Touch RB (RB + 1) w w9) := TW.out.trans t9
    clear x8 xG
    go_wp2_with (first | (refine wpList_load_row rfl 26 _ rfl (w.heap.size + 1) rfl 26 #[.int .i64 0, .int .i64 0, .bool false, .slice none 0 0, .slice none 0 0] (0, 0) _ XG.out Tryd.underlying26 rfl infoSizeIt ?_) | (refine wpList_store_rowTo rfl 26 _ _ rfl rfl (w.heap.size) #[.int .i64 0, .int .i64 0, .bool false, .slice none 0 0, .slice none 0 0] rfl rfl 26 #[.int .i64 0, .int .i64 0, .bool false, .slice none 0 0, .slice none 0 0] X8.out infoSizeIt rfl (by simp [Value.oneCell']) ?_))
    have q4 := setRow_heap w9 (w.heap.size) _ #[.int .i64 0, .int .i64 0, .bool false, .slice none 0 0, .slice none 0 0] 26 (0, 0) X8.out
    have tt : Touch (w.heap.size) (w.heap.size + 1) w9 (w9.setRow (w.heap.size) #[.int .i64 0, .int .i64 0, .bool false, .slice none 0 0, .slice none 0 0]) := touch_setRow16 _ _ _
    have tse : (w9.setRow (w.heap.size) #[.int .i64 0, .int .i64 0, .bool false, .slice none 0 0, .slice none 0 0]).heap.size = w9.heap.size := by simp
    try simp only [Exit.inBlock, Exit.then]
    refine bodyPost_ret (results_item2 rfl _ (w.heap.size) rfl _ _ _ _ _ _ q4) rfl ?_
    refine ⟨TX.out.news tt (by omega), ?_⟩
    rw [hf.out]
    exact ⟨⟨_, _, rfl, _, _, _, _, _, _, _, _, _, rfl⟩, (tt.block RB (by omega) (.inl (by omega))).trans hbx9⟩
  have hge : ¬ (e : Int) ≤ (p : Int) := by omega
  have HRR2 : Hid (R = match tagR lax bs p e with
     | .no c q => .no c q
     | .ok t q => bodyR (itemR lax bs r) bs p e t (lenR lax (consN bs p) bs q e)) := by
    show _ = _
    rw [HRR.out, itemR, if_neg hpe]
    rfl
  clear HRR
  obtain ⟨b, off, rfl, hb, hc⟩ := hrow0.get p (by omega)
  have hbRB : b < RB := (hin b off rfl (by omega)).2
  have hby := hrow0.byte p
  obtain ⟨x, hx⟩ : ∃ x, x = bs.getD p 0 := ⟨_, rfl⟩
  rw [← hx] at hc hby
  obtain ⟨hx0, hx1⟩ := hby
  obtain ⟨cl, hcl⟩ : ∃ cl, cl = clsN bs p := ⟨_, rfl⟩
  obtain ⟨co, hco⟩ : ∃ co, co = consN bs p := ⟨_, rfl⟩
  have hcl' : x / 64 = cl := by rw [hcl, hx]; rfl
  have a32 : (bits .and .u8 x 32 != 0) = co := by rw [hco, and32 x hx0 hx1, hx]; rfl
  have HCL : Hid (cl = clsN bs p) := hcl
  have HCO : Hid (co = consN bs p) := hco
  have hcl0 : 0 ≤ cl := by omega
  have hcl3 : cl ≤ 3 := by omega
  have hpn : (p : Int) < (n : Int) := by omega
  clear hx hcl hco
  obtain ⟨bc0, bc1, bc2, bc3⟩ := hbx0.cells
  have HB0 : Hid (Below w.heap.size w W) := hB0
  have HBX0 : Hid (RBox RB W _ n cap lax 0 pl) := hbx0
  have HROW0 : Hid (Row W _ n bs) := hrow0
  have E8_0 : Hid (W.heap[w.heap.size]? = _) := b0
  have EG_0 : Hid (W.heap[w.heap.size + 1]? = _) := b1
  have gc0 : W.cell? ⟨w.heap.size + 1, 0, none⟩ = some (.int .i64 0) := (cell_of_row _ (w.heap.size + 1) 0 _ 26 (0, 0) b1).trans rfl
  have gf0 : W.frozen? ⟨w.heap.size + 1, 0, none⟩ = false := frozen_of_row W (w.heap.size + 1) 0 _ 26 b1
  have gc1 : W.cell? ⟨w.heap.size + 1, 1, none⟩ = some (.int .i64 0) := (cell_of_row _ (w.heap.size + 1) 1 _ 26 (0, 0) b1).trans rfl
  have gf1 : W.frozen? ⟨w.heap.size + 1, 1, none⟩ = false := frozen_of_row W (w.heap.size + 1) 1 _ 26 b1
  have gc2 : W.cell? ⟨w.heap.size + 1, 2, none⟩ = some (.bool false) := (cell_of_row _ (w.heap.size + 1) 2 _ 26 (0, 0) b1).trans rfl
  have gf2 : W.frozen? ⟨w.heap.size + 1, 2, none⟩ = false := frozen_of_row W (w.heap.size + 1) 2 _ 26 b1
  have gc3 : W.cell? ⟨w.heap.size + 1, 3, none⟩ = some (.slice none 0 0) := (cell_of_row _ (w.heap.size + 1) 3 _ 26 (0, 0) b1).trans rfl
  have gf3 : W.frozen? ⟨w.heap.size + 1, 3, none⟩ = false := frozen_of_row W (w.heap.size + 1) 3 _ 26 b1
  have gc4 : W.cell? ⟨w.heap.size + 1, 4, none⟩ = some (.slice none 0 0) := (cell_of_row _ (w.heap.size + 1) 4 _ 26 (0, 0) b1).trans rfl
  have gf4 : W.frozen? ⟨w.heap.size + 1, 4, none⟩ = false := frozen_of_row W (w.heap.size + 1) 4 _ 26 b1
  clear b0 b1 hB0 hbx0 hrow0
  go_upto_region 9 with fail
  have tS1 : Touch (w.heap.size + 1) (w.heap.size + 2) W (W.setCell ⟨w.heap.size + 1, 0, none⟩ (.int .i64 cl)) := touch_set _ _ _ _ (Nat.le_refl _) (by omega)
  have g1 : (W.setCell ⟨w.heap.size + 1, 0, none⟩ (.int .i64 cl)).heap[w.heap.size + 1]? = some (.cells #[.int .i64 cl, .int .i64 0, .bool false, .slice none 0 0, .slice none 0 0] 26 (0, 0)) := (heap_setCell_same W (w.heap.size + 1) 0 _ 26 _ EG_0.out).trans rfl
  obtain ⟨W1, hW1⟩ : ∃ W1, W1 = W.setCell ⟨w.heap.size + 1, 0, none⟩ (.int .i64 cl) := ⟨_, rfl⟩
  rw [← hW1] at tS1 g1 ⊢
  clear hW1 bc0 bc1 bc2 bc3 gc0 gc1 gc2 gc3 gc4 gf0 gf1 gf2 gf3 gf4
  have hc1 : W1.cell? ⟨b, off + p, none⟩ = some (.int .u8 x) := (World.cell?_of_block (a := ⟨b, off + p, none⟩) (tS1.block b hb (.inl (by omega)))).trans hc
  have hbx1 : RBox RB W1 _ n cap lax 0 pl := (tS1.block RB (by omega) (.inl (by omega))).trans HBX0.out
  obtain ⟨bc0, bc1, bc2, bc3⟩ := hbx1.cells
  have gc0 : W1.cell? ⟨w.heap.size + 1, 0, none⟩ = some (.int .i64 cl) := (cell_of_row _ (w.heap.size + 1) 0 _ 26 (0, 0) g1).trans rfl
  have gf0 : W1.frozen? ⟨w.heap.size + 1, 0, none⟩ = false := frozen_of_row W1 (w.heap.size + 1) 0 _ 26 g1
  have gc1 : W1.cell? ⟨w.heap.size + 1, 1, none⟩ = some (.int .i64 0) := (cell_of_row _ (w.heap.size + 1) 1 _ 26 (0, 0) g1).trans rfl
  have gf1 : W1.frozen? ⟨w.heap.size + 1, 1, none⟩ = false := frozen_of_row W1 (w.heap.size + 1) 1 _ 26 g1
  have gc2 : W1.cell? ⟨w.heap.size + 1, 2, none⟩ = some (.bool false) := (cell_of_row _ (w.heap.size + 1) 2 _ 26 (0, 0) g1).trans rfl
  have gf2 : W1.frozen? ⟨w.heap.size + 1, 2, none⟩ = false := frozen_of_row W1 (w.heap.size + 1) 2 _ 26 g1
  have gc3 : W1.cell? ⟨w.heap.size + 1, 3, none⟩ = some (.slice none 0 0) := (cell_of_row _ (w.heap.size + 1) 3 _ 26 (0, 0) g1).trans rfl
  have gf3 : W1.frozen? ⟨w.heap.size + 1, 3, none⟩ = false := frozen_of_row W1 (w.heap.size + 1) 3 _ 26 g1
  have gc4 : W1.cell? ⟨w.heap.size + 1, 4, none⟩ = some (.slice none 0 0) := (cell_of_row _ (w.heap.size + 1) 4 _ 26 (0, 0) g1).trans rfl
  have gf4 : W1.frozen? ⟨w.heap.size + 1, 4, none⟩ = false := frozen_of_row W1 (w.heap.size + 1) 4 _ 26 g1
  have E8_1 : Hid (W1.heap[w.heap.size]? = _) := (tS1.block _ (by omega) (.inl (by omega))).trans E8_0.out
  clear hc
  go_upto_region 10 with fail
  have tS2 : Touch (w.heap.size + 1) (w.heap.size + 2) W (W1.setCell ⟨w.heap.size + 1, 2, none⟩ (.bool co)) := tS1.trans (touch_set _ _ _ _ (Nat.le_refl _) (by omega))
  have g2 : (W1.setCell ⟨w.heap.size + 1, 2, none⟩ (.bool co)).heap[w.heap.size + 1]? = some (.cells #[.int .i64 cl, .int .i64 0, .bool co, .slice none 0 0, .slice none 0 0] 26 (0, 0)) := (heap_setCell_same W1 (w.heap.size + 1) 2 _ 26 _ g1).trans rfl
  obtain ⟨W2, hW2⟩ : ∃ W2, W2 = W1.setCell ⟨w.heap.size + 1, 2, none⟩ (.bool co) := ⟨_, rfl⟩
  rw [← hW2] at tS2 g2 ⊢
  clear hW2 bc0 bc1 bc2 bc3 gc0 gc1 gc2 gc3 gc4 gf0 gf1 gf2 gf3 gf4 hc1 g1 tS1 hbx1 a32 hcl'
  have hs2 := tS2.size
  have EB2 : Hid (RBox RB W2 _ n cap lax 0 pl) := (tS2.block RB (by omega) (.inl (by omega))).trans HBX0.out
  have TW2 : Hid (Touch RB (RB + 1) w W2) := TW.out.news tS2 (by omega)
  have E8_2 : Hid (W2.heap[w.heap.size]? = some (.cells #[.int .i64 0, .int .i64 0, .bool false, .slice none 0 0, .slice none 0 0] 26 (0, 0))) := (tS2.block _ (by omega) (.inl (by omega))).trans E8_0.out
  have EG_2 : Hid (_ = _) := g2
  have hrow2 : Row W2 _ n bs := HROW0.out.touch hin (.inl (by omega)) tS2
  have HT := stag_any RB (some ⟨b, off, none⟩) n cap lax pl bs p e W2 hrow2 EB2.out (by omega) he hn
  have hts := tagR_stag lax bs p e
  clear tS2 g2 E8_0 EG_0 E8_1 HBX0 HB0 TW
  cases hst : stagR lax bs p e with
  | no c q =>
    rw [hst] at HT hts
    have hf : Hid (R = .no c q) := by show _ = _; rw [HRR2.out, hts]
    have hcode := stagR_code hst
    have hne : ((c : Int) != 0) = true := by simp; omega
    clear hst hts HRR2
    go_upto_region 12 with (go_at_call 71; refine HT.mono ?_; rintro ev w3 ⟨t3, v, rfl, ⟨i2, j2, rfl⟩, hbx3⟩; obtain ⟨d0, d1, d2, d3⟩ := RBox.cells hbx3)
    have hs3 := t3.size
    have TX : Hid (Touch RB (RB + 1) w w3) := TW2.out.trans t3
    have X8 : Hid (_ = _) := (t3.block _ (by omega) (.inr (by omega))).trans E8_2.out
    have XG : Hid (_ = _) := (t3.block _ (by omega) (.inr (by omega))).trans EG_2.out
    go_wp2_with (first | (refine wpList_load_row rfl 26 _ rfl (w.heap.size + 1) rfl 26 #[.int .i64 cl, .int .i64 0, .bool co, .slice none 0 0, .slice none 0 0] (0, 0) _ XG.out Tryd.underlying26 rfl infoSizeIt ?_) | (refine wpList_store_rowTo rfl 26 _ _ rfl rfl (w.heap.size) #[.int .i64 cl, .int .i64 0, .bool co, .slice none 0 0, .slice none 0 0] rfl rfl 26 #[.int .i64 0, .int .i64 0, .bool false, .slice none 0 0, .slice none 0 0] X8.out infoSizeIt rfl (by simp [Value.oneCell']) ?_))
    have q4 := setRow_heap w3 (w.heap.size) _ #[.int .i64 cl, .int .i64 0, .bool co, .slice none 0 0, .slice none 0 0] 26 (0, 0) X8.out
    have tt : Touch (w.heap.size) (w.heap.size + 1) w3 (w3.setRow (w.heap.size) #[.int .i64 cl, .int .i64 0, .bool co, .slice none 0 0, .slice none 0 0]) := touch_setRow16 _ _ _
    have tse : (w3.setRow (w.heap.size) #[.int .i64 cl, .int .i64 0, .bool co, .slice none 0 0, .slice none 0 0]).heap.size = w3.heap.size := by simp
    try simp only [Exit.inBlock, Exit.then]
    refine bodyPost_ret (results_item2 rfl _ (w.heap.size) rfl _ _ _ _ _ _ q4) rfl ?_
    refine ⟨TX.out.news tt (by omega), ?_⟩
    rw [hf.out]
    exact ⟨⟨_, _, rfl, _, _, _, _, _, _, _, _, _, rfl⟩, (tt.block RB (by omega) (.inl (by omega))).trans hbx3⟩
  | ok t q =>
    rw [hst] at HT hts
    have hq := stagR_place (by omega) hst
    clear hst
    go_upto_region 13 with (go_at_call 71; refine HT.mono ?_; rintro ev w3 ⟨t3, rfl, hbx3⟩; obtain ⟨d0, d1, d2, d3⟩ := RBox.cells hbx3)
    have hs3 := t3.size
    have x8 := (t3.block _ (by omega) (.inr (by omega))).trans E8_2.out
    have xG := (t3.block _ (by omega) (.inr (by omega))).trans EG_2.out
    have gc0 : w3.cell? ⟨w.heap.size + 1, 0, none⟩ = some (.int .i64 cl) := (cell_of_row _ (w.heap.size + 1) 0 _ 26 (0, 0) xG).trans rfl
    have gf0 : w3.frozen? ⟨w.heap.size + 1, 0, none⟩ = false := frozen_of_row w3 (w.heap.size + 1) 0 _ 26 xG
    have gc1 : w3.cell? ⟨w.heap.size + 1, 1, none⟩ = some (.int .i64 0) := (cell_of_row _ (w.heap.size + 1) 1 _ 26 (0, 0) xG).trans rfl
    have gf1 : w3.frozen? ⟨w.heap.size + 1, 1, none⟩ = false := frozen_of_row w3 (w.heap.size + 1) 1 _ 26 xG
    have gc2 : w3.cell? ⟨w.heap.size + 1, 2, none⟩ = some (.bool co) := (cell_of_row _ (w.heap.size + 1) 2 _ 26 (0, 0) xG).trans rfl
    have gf2 : w3.frozen? ⟨w.heap.size + 1, 2, none⟩ = false := frozen_of_row w3 (w.heap.size + 1) 2 _ 26 xG
    have gc3 : w3.cell? ⟨w.heap.size + 1, 3, none⟩ = some (.slice none 0 0) := (cell_of_row _ (w.heap.size + 1) 3 _ 26 (0, 0) xG).trans rfl
    have gf3 : w3.frozen? ⟨w.heap.size + 1, 3, none⟩ = false := frozen_of_row w3 (w.heap.size + 1) 3 _ 26 xG
    have gc4 : w3.cell? ⟨w.heap.size + 1, 4, none⟩ = some (.slice none 0 0) := (cell_of_row _ (w.heap.size + 1) 4 _ 26 (0, 0) xG).trans rfl
    have gf4 : w3.frozen? ⟨w.heap.size + 1, 4, none⟩ = false := frozen_of_row w3 (w.heap.size + 1) 4 _ 26 xG
    go_upto_region 14 with fail
    have tS4 : Touch (w.heap.size + 1) (w.heap.size + 2) w3 (w3.setCell ⟨w.heap.size + 1, 1, none⟩ (.int .i64 t)) := touch_set _ _ _ _ (Nat.le_refl _) (by omega)
    have g4 : (w3.setCell ⟨w.heap.size + 1, 1, none⟩ (.int .i64 t)).heap[w.heap.size + 1]? = some (.cells #[.int .i64 cl, .int .i64 t, .bool co, .slice none 0 0, .slice none 0 0] 26 (0, 0)) := (heap_setCell_same w3 (w.heap.size + 1) 1 _ 26 _ xG).trans rfl
    obtain ⟨W4, hW4⟩ : ∃ W4, W4 = w3.setCell ⟨w.heap.size + 1, 1, none⟩ (.int .i64 t) := ⟨_, rfl⟩
    rw [← hW4] at tS4 g4 ⊢
    clear hW4 d0 d1 d2 d3 gc0 gc1 gc2 gc3 gc4 gf0 gf1 gf2 gf3 gf4
    have hs4 := tS4.size
    have EB4 : Hid (RBox RB W4 _ n cap lax 0 pl) := (tS4.block RB (by omega) (.inl (by omega))).trans hbx3
    have TW4 : Hid (Touch RB (RB + 1) w W4) := (TW2.out.trans t3).news tS4 (by omega)
    have E8_4 : Hid (W4.heap[w.heap.size]? = some (.cells #[.int .i64 0, .int .i64 0, .bool false, .slice none 0 0, .slice none 0 0] 26 (0, 0))) := (tS4.block _ (by omega) (.inl (by omega))).trans x8
    have EG_4 : Hid (_ = _) := g4
    have hrow4 : Hid (Row W4 _ n bs) := (hrow2.touch hin (.inl (Nat.le_refl _)) t3).touch hin (.inl (by omega)) tS4
    clear tS4 g4 x8 xG hbx3 t3 hrow2 HT E8_2 EG_2 EB2 TW2
    have gc0 : W4.cell? ⟨w.heap.size + 1, 0, none⟩ = some (.int .i64 cl) := (cell_of_row _ (w.heap.size + 1) 0 _ 26 (0, 0) EG_4.out).trans rfl
    have gf0 : W4.frozen? ⟨w.heap.size + 1, 0, none⟩ = false := frozen_of_row W4 (w.heap.size + 1) 0 _ 26 EG_4.out
    have gc1 : W4.cell? ⟨w.heap.size + 1, 1, none⟩ = some (.int .i64 t) := (cell_of_row _ (w.heap.size + 1) 1 _ 26 (0, 0) EG_4.out).trans rfl
    have gf1 : W4.frozen? ⟨w.heap.size + 1, 1, none⟩ = false := frozen_of_row W4 (w.heap.size + 1) 1 _ 26 EG_4.out
    have gc2 : W4.cell? ⟨w.heap.size + 1, 2, none⟩ = some (.bool co) := (cell_of_row _ (w.heap.size + 1) 2 _ 26 (0, 0) EG_4.out).trans rfl
    have gf2 : W4.frozen? ⟨w.heap.size + 1, 2, none⟩ = false := frozen_of_row W4 (w.heap.size + 1) 2 _ 26 EG_4.out
    have gc3 : W4.cell? ⟨w.heap.size + 1, 3, none⟩ = some (.slice none 0 0) := (cell_of_row _ (w.heap.size + 1) 3 _ 26 (0, 0) EG_4.out).trans rfl
    have gf3 : W4.frozen? ⟨w.heap.size + 1, 3, none⟩ = false := frozen_of_row W4 (w.heap.size + 1) 3 _ 26 EG_4.out
    have gc4 : W4.cell? ⟨w.heap.size + 1, 4, none⟩ = some (.slice none 0 0) := (cell_of_row _ (w.heap.size + 1) 4 _ 26 (0, 0) EG_4.out).trans rfl
    have gf4 : W4.frozen? ⟨w.heap.size + 1, 4, none⟩ = false := frozen_of_row W4 (w.heap.size + 1) 4 _ 26 EG_4.out
    have hts2 : tagR lax bs p e = if clsN bs p = 0 ∧ t = 0 then .no 2 p else .ok t q := hts
    clear hts
    by_cases hct : cl = 0 ∧ t = 0
    · have hf : Hid (R = .no 2 p) := by show _ = _; rw [HRR2.out, hts2, if_pos ⟨HCL.out.symm.trans hct.1, hct.2⟩]
      obtain ⟨hc0, ht0⟩ := hct
      clear hts2 HRR2 HCL
      subst hc0
      subst ht0
      have FA : ∀ (c p : Int), Hid (Calls Tryd.prog 45 #[.pointer (some ⟨RB, 0, none⟩), .int .i64 c, .int .i64 p] W4 fun e w' => e = .returned (.tuple #[]) ∧ RBox RB w' (some ⟨b, off, none⟩) n cap lax c p ∧ Touch RB (RB + 1) W4 w') := fun c p => fail_any RB (some ⟨b, off, none⟩) n cap lax pl c p W4 EB4.out
      have FX : ∀ w1, Touch RB (RB + 1) W4 w1 → Hid (w1.heap[w.heap.size]? = some (.cells #[.int .i64 0, .int .i64 0, .bool false, .slice none 0 0, .slice none 0 0] 26 (0, 0)) ∧ w1.heap[w.heap.size + 1]? = some (.cells #[.int .i64 0, .int .i64 0, .bool co, .slice none 0 0, .slice none 0 0] 26 (0, 0))) := fun w1 t1 => ⟨(t1.block _ (by omega) (.inr (by omega))).trans E8_4.out, (t1.block _ (by omega) (.inr (by omega))).trans EG_4.out⟩
      go_upto_region 16 with (go_at_call 45; refine (FA 2 (p : Int)).out.mono ?_; rintro e w9 ⟨rfl, hbx9, t9⟩)
      obtain ⟨x8, xG⟩ := (FX w9 t9).out
      have hs9 := t9.size
      have X8 : Hid (_ = _) := x8
      have XG : Hid (_ = _) := xG
      have TX : Hid (Touch RB (RB + 1) w w9) := TW4.out.trans t9
      clear x8 xG
      go_wp2_with (first | (refine wpList_load_row rfl 26 _ rfl (w.heap.size + 1) rfl 26 #[.int .i64 0, .int .i64 0, .bool co, .slice none 0 0, .slice none 0 0] (0, 0) _ XG.out Tryd.underlying26 rfl infoSizeIt ?_) | (refine wpList_store_rowTo rfl 26 _ _ rfl rfl (w.heap.size) #[.int .i64 0, .int .i64 0, .bool co, .slice none 0 0, .slice none 0 0] rfl rfl 26 #[.int .i64 0, .int .i64 0, .bool false, .slice none 0 0, .slice none 0 0] X8.out infoSizeIt rfl (by simp [Value.oneCell']) ?_))
      have q4 := setRow_heap w9 (w.heap.size) _ #[.int .i64 0, .int .i64 0, .bool co, .slice none 0 0, .slice none 0 0] 26 (0, 0) X8.out
      have tt : Touch (w.heap.size) (w.heap.size + 1) w9 (w9.setRow (w.heap.size) #[.int .i64 0, .int .i64 0, .bool co, .slice none 0 0, .slice none 0 0]) := touch_setRow16 _ _ _
      have tse : (w9.setRow (w.heap.size) #[.int .i64 0, .int .i64 0, .bool co, .slice none 0 0, .slice none 0 0]).heap.size = w9.heap.size := by simp
      try simp only [Exit.inBlock, Exit.then]
      refine bodyPost_ret (results_item2 rfl _ (w.heap.size) rfl _ _ _ _ _ _ q4) rfl ?_
      refine ⟨TX.out.news tt (by omega), ?_⟩
      rw [hf.out]
      exact ⟨⟨_, _, rfl, _, _, _, _, _, _, _, _, _, rfl⟩, (tt.block RB (by omega) (.inl (by omega))).trans hbx9⟩
    have HKL : Hid (kindL co e (lenR lax co bs q e) = 0) := by show _ = _; rw [HCO.out, ← kind_ok hpe (hts2.trans (if_neg (fun h => hct ⟨HCL.out.trans h.1, h.2⟩)))]; exact HK.out
    have HR2 : Hid (R = bodyR (itemR lax bs r) bs p e t (lenR lax co bs q e)) := by show _ = _; rw [HRR2.out, hts2, if_neg (fun h => hct ⟨HCL.out.trans h.1, h.2⟩), HCO.out]
    clear hts2 HRR2
    go_cut [73] (fun v wx => v = .bool false ∧ W4 = wx)
    case first =>
      by_cases k2 : cl = 0
      · have k3 : (t == 0) = false := by simp; intro h; exact hct ⟨k2, h⟩
        have HCT : Hid (_) := hct
        clear hct HCL
        subst k2
        go_wp2_with fail
        go_meet
        exact ⟨rfl, rfl⟩
      · have k2' : (cl == 0) = false := by simp [k2]
        clear hct
        go_wp2_with fail
        go_meet
        exact ⟨rfl, rfl⟩
    case rest =>
    obtain ⟨rfl, rfl⟩ := hcut
    have HCT : Hid (_) := hct
    clear hct
    have HL := slength_any RB (some ⟨b, off, none⟩) n cap lax co pl bs q e W4 hrow4.out EB4.out hq.2 he hn
    cases hl : lenR lax co bs q e with
    | no c q2 =>
      rw [hl] at HL
      have hf : Hid (R = .no c q2) := by show _ = _; rw [HR2.out, hl]; rfl
      have hcode := lenR_code hl
      have hne : ((c : Int) != 0) = true := by simp; omega
      clear hl HR2
      go_upto_region 19 with (go_at_call 72; refine HL.mono ?_; rintro ev w5 ⟨t5, v, rfl, ⟨i2, j2, rfl⟩, hbx5⟩; obtain ⟨d0, d1, d2, d3⟩ := RBox.cells hbx5)
      have hs5 := t5.size
      have TX : Hid (Touch RB (RB + 1) w w5) := TW4.out.trans t5
      have X8 : Hid (_ = _) := (t5.block _ (by omega) (.inr (by omega))).trans E8_4.out
      have XG : Hid (_ = _) := (t5.block _ (by omega) (.inr (by omega))).trans EG_4.out
      clear gc0 gc1 gc2 gc3 gc4 gf0 gf1 gf2 gf3 gf4
      go_wp2_with (first | (refine wpList_load_row rfl 26 _ rfl (w.heap.size + 1) rfl 26 #[.int .i64 cl, .int .i64 t, .bool co, .slice none 0 0, .slice none 0 0] (0, 0) _ XG.out Tryd.underlying26 rfl infoSizeIt ?_) | (refine wpList_store_rowTo rfl 26 _ _ rfl rfl (w.heap.size) #[.int .i64 cl, .int .i64 t, .bool co, .slice none 0 0, .slice none 0 0] rfl rfl 26 #[.int .i64 0, .int .i64 0, .bool false, .slice none 0 0, .slice none 0 0] X8.out infoSizeIt rfl (by simp [Value.oneCell']) ?_))
      have q4 := setRow_heap w5 (w.heap.size) _ #[.int .i64 cl, .int .i64 t, .bool co, .slice none 0 0, .slice none 0 0] 26 (0, 0) X8.out
      have tt : Touch (w.heap.size) (w.heap.size + 1) w5 (w5.setRow (w.heap.size) #[.int .i64 cl, .int .i64 t, .bool co, .slice none 0 0, .slice none 0 0]) := touch_setRow16 _ _ _
      have tse : (w5.setRow (w.heap.size) #[.int .i64 cl, .int .i64 t, .bool co, .slice none 0 0, .slice none 0 0]).heap.size = w5.heap.size := by simp
      try simp only [Exit.inBlock, Exit.then]
      refine bodyPost_ret (results_item2 rfl _ (w.heap.size) rfl _ _ _ _ _ _ q4) rfl ?_
      refine ⟨TX.out.news tt (by omega), ?_⟩
      rw [hf.out]
      exact ⟨⟨_, _, rfl, _, _, _, _, _, _, _, _, _, rfl⟩, (tt.block RB (by omega) (.inl (by omega))).trans hbx5⟩
    | ok o q2 =>
      exfalso
      have h9 := HKL.out
      rw [hl] at h9
      cases o with
      | none => exact (show ¬ (1 : Nat) = 0 by decide) h9
      | some m =>
        unfold kindL at h9
        simp only at h9
        split at h9 <;> omega

end Go.Proofs.YtjkkokjojaknkaaDoor
