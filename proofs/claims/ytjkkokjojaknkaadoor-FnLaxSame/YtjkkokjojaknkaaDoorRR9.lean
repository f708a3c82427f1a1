import Derived.Test.YtjkkokjojaknkaaDoorG11
namespace Go.Proofs.YtjkkokjojaknkaaDoor
open Go.RowKit

theorem ItPost.no {r : Nat} {R : Rs It} {c p : Nat} (h : Hid (R = .no c p)) {w w' : World} (hb : Below w.heap.size w w') : ItPost r R w (.panicked (gvUp c p)) w' := by
  refine ⟨hb, ?_⟩
  rw [h.out]
theorem ownB_none (lo hi : Nat) (w : World) : OwnB lo hi w none 0 0 [] := ⟨own_none _ _, fun _ h => by cases h⟩

theorem itemC_zero (lax : Bool) (bs : List Int) (n cap : Nat) (a : Option Addr) : ItemC lax bs n cap a 0 := by
  intro p e w h hp he
  have hbl : Below w.heap.size w ((w.alloc (.cells #[.slice a n cap, .bool lax] 93)).alloc (.cells #[.int .i64 0, .int .i64 0, .bool false, .slice none 0 0, .slice none 0 0] 26)) := ((Below.refl _ _).alloc (Nat.le_refl _) _).alloc (by simp) _
  have hf : Hid (itemR lax bs 0 p e = .no 5 p) := by show _ = _; rw [itemR]
  clear h
  go_enter Tryd.func64, Tryd.ntmps64
  go_wp2_with (go_at_call 63; refine (giveUp_any 5 p _).mono ?_; rintro e w1 ⟨rfl, rfl⟩)
  exact ⟨rfl, ItPost.no hf hbl⟩

set_option maxRecDepth 10000 in
set_option maxHeartbeats 16000000 in
theorem itemC_next (lax : Bool) (bs : List Int) (n cap : Nat) (a : Option Addr) (hn : n ≤ 20000) (hcap : n ≤ cap) (r : Nat) (hr : r + 1 ≤ 12) (IH : ItemC lax bs n cap a r) : ItemC lax bs n cap a (r + 1) := by
  intro p e w h hp he
  have HR : Hid (Row w a n bs) := h
  obtain ⟨D, hD⟩ : ∃ D : Int, D = 13 - ((r + 1 : Nat) : Int) := ⟨_, rfl⟩
  rw [← hD]
  have hd1 : ¬ (12 : Int) < D := by omega
  have hd0 : 0 ≤ D := by omega
  have HD : Hid (D + 1 = 13 - (r : Int)) := by show _ = _; omega
  clear hD
  obtain ⟨b0, b1⟩ := two_blocks w (.cells #[.slice a n cap, .bool lax] 93) (.cells #[.int .i64 0, .int .i64 0, .bool false, .slice none 0 0, .slice none 0 0] 26)
  have hB0 : Below w.heap.size w ((w.alloc (.cells #[.slice a n cap, .bool lax] 93)).alloc (.cells #[.int .i64 0, .int .i64 0, .bool false, .slice none 0 0, .slice none 0 0] 26)) := ((Below.refl _ _).alloc (Nat.le_refl _) _).alloc (by simp) _
  have hS0 : ((w.alloc (.cells #[.slice a n cap, .bool lax] 93)).alloc (.cells #[.int .i64 0, .int .i64 0, .bool false, .slice none 0 0, .slice none 0 0] 26)).heap.size = w.heap.size + 2 := by simp
  by_cases hpe : p = e
  · subst hpe
    have hf : Hid (itemR lax bs (r + 1) p p = .no 1 p) := by show _ = _; rw [itemR, if_pos rfl]
    clear h b0 b1
    go_enter Tryd.func64, Tryd.ntmps64
    go_wp2_with (go_at_call 63; refine (giveUp_any 1 p _).mono ?_; rintro e w1 ⟨rfl, rfl⟩)
    exact ⟨rfl, ItPost.no hf hB0⟩
  have hpe' : ¬ (p : Int) = (e : Int) := by omega
  obtain ⟨b, off, rfl, hb, _⟩ := h.get p (by omega)
  clear h
  obtain ⟨R, hR⟩ : ∃ R, R = itemR lax bs (r + 1) p e := ⟨_, rfl⟩
  rw [← hR]
  have HRR : Hid (R = match tagR lax bs p e with
     | .no c q => .no c q
     | .ok t q => bodyR (itemR lax bs r) bs p e t (lenR lax (consN bs p) bs q e)) := by
    show _ = _
    rw [hR, itemR, if_neg hpe]
    rfl
  clear hR
  go_enter Tryd.func64, Tryd.ntmps64
  go_upto_region 5 with fail
  obtain ⟨W0, hW0⟩ : ∃ W0, W0 = ((w.alloc (.cells #[.slice (some ⟨b, off, none⟩) n cap, .bool lax] 93)).alloc (.cells #[.int .i64 0, .int .i64 0, .bool false, .slice none 0 0, .slice none 0 0] 26)) := ⟨_, rfl⟩
  rw [← hW0] at b0 b1 hB0 hS0 ⊢
  clear hW0
  have HT := readTag_any (some ⟨b, off, none⟩) n cap lax bs p e W0 (HR.out.kept hB0) (by omega) he hn
  have c00 : W0.cell? ⟨w.heap.size, 0, none⟩ = some (.slice (some ⟨b, off, none⟩) n cap) := (cell_of_row _ w.heap.size 0 _ 93 (0, 0) b0).trans rfl
  have c01 : W0.cell? ⟨w.heap.size, 1, none⟩ = some (.bool lax) := (cell_of_row _ w.heap.size 1 _ 93 (0, 0) b0).trans rfl
  cases ht : tagR lax bs p e with
  | no c q =>
    rw [ht] at HT
    have hf : Hid (R = .no c q) := by show _ = _; rw [HRR.out, ht]
    clear ht
    go_wp2_with (go_at_call 77; refine HT.mono ?_; rintro ev w1 ⟨hh, hb1⟩; obtain rfl : ev = .panicked (gvUp c q) := hh)
    exact ⟨rfl, ItPost.no hf (hB0.trans (hb1.mono (by omega)))⟩
  | ok t q =>
    rw [ht] at HT
    have hq := tagR_place (by omega) ht
    have HR2 : Hid (R = bodyR (itemR lax bs r) bs p e t (lenR lax (consN bs p) bs q e)) := by show _ = _; rw [HRR.out, ht]
    clear ht HRR
    obtain ⟨cl, hcl⟩ : ∃ cl, cl = clsN bs p := ⟨_, rfl⟩
    obtain ⟨co, hco⟩ : ∃ co, co = consN bs p := ⟨_, rfl⟩
    have eh : itv (headIt bs p t) none 0 0 none 0 0 = .agg #[.int .i64 cl, .int .i64 t, .bool co, .slice none 0 0, .slice none 0 0] := by rw [hcl, hco]; rfl
    have EH : Hid (∀ nx : Value, Ending.returned (.tuple #[itv (headIt bs p t) none 0 0 none 0 0, nx]) = Ending.returned (.tuple #[.agg #[.int .i64 cl, .int .i64 t, .bool co, .slice none 0 0, .slice none 0 0], nx])) := fun nx => by rw [eh]
    have HCL : Hid (cl = clsN bs p) := hcl
    have HCO : Hid (co = consN bs p) := hco
    rw [← hco] at HR2
    clear eh hcl hco
    go_upto_region 6 with (go_at_call 77; refine HT.mono ?_; rintro ev w1 ⟨hh, hb1⟩; obtain rfl : ev = .returned (.tuple #[.agg #[.int .i64 cl, .int .i64 t, .bool co, .slice none 0 0, .slice none 0 0], .int .i64 (q : Int)]) := (show ev = .returned (.tuple #[itv (headIt bs p t) none 0 0 none 0 0, .int .i64 (q : Int)]) from hh).trans (EH.out _))
    have hs1 := hb1.size
    obtain ⟨W1, hW1⟩ : ∃ W1, W1 = w1.alloc (.cells #[.int .i64 cl, .int .i64 t, .bool co, .slice none 0 0, .slice none 0 0] 26) := ⟨_, rfl⟩
    obtain ⟨G, hG⟩ : ∃ G, G = w1.heap.size := ⟨_, rfl⟩
    have hal : Below w1.heap.size w1 W1 := by rw [hW1]; exact (Below.refl _ _).alloc (Nat.le_refl _) _
    have g0 : W1.heap[w.heap.size]? = _ := heap_kept hal (by omega) (heap_kept hb1 (by omega) b0)
    have g1 : W1.heap[w.heap.size + 1]? = _ := heap_kept hal (by omega) (heap_kept hb1 (by omega) b1)
    have gG : W1.heap[G]? = some (.cells #[.int .i64 cl, .int .i64 t, .bool co, .slice none 0 0, .slice none 0 0] 26 (0, 0)) := by rw [hW1, hG]; exact heap_alloc_new w1 _
    have hS1 : W1.heap.size = G + 1 := by rw [hW1, hG]; simp
    have hB1 : Below w.heap.size w W1 := (hB0.trans (hb1.mono (by omega))).trans (hal.mono (by omega))
    have hGw : w.heap.size + 2 ≤ G := by omega
    rw [← hW1, ← hG]
    clear hW1 hG hal HT c00 c01 b0 b1 hB0 hS0 hb1 hs1
    have d00 : W1.cell? ⟨w.heap.size, 0, none⟩ = some (.slice (some ⟨b, off, none⟩) n cap) := (cell_of_row _ w.heap.size 0 _ 93 (0, 0) g0).trans rfl
    have d01 : W1.cell? ⟨w.heap.size, 1, none⟩ = some (.bool lax) := (cell_of_row _ w.heap.size 1 _ 93 (0, 0) g0).trans rfl
    have d02 : W1.cell? ⟨G, 2, none⟩ = some (.bool co) := (cell_of_row _ G 2 _ 26 (0, 0) gG).trans rfl
    have HL := readLength_any (some ⟨b, off, none⟩) n cap lax co bs q e W1 (HR.out.kept hB1) hq.2 he hn hcap
    cases hl : lenR lax co bs q e with
    | no c q2 =>
      rw [hl] at HL
      have hf : Hid (R = .no c q2) := by show _ = _; rw [HR2.out, hl]; rfl
      clear hl
      go_wp2_with (go_at_call 78; refine HL.mono ?_; rintro ev w2 ⟨hh, hb2⟩; obtain rfl : ev = .panicked (gvUp c q2) := hh)
      exact ⟨rfl, ItPost.no hf (hB1.trans (hb2.mono (by omega)))⟩
    | ok o q2 =>
      rw [hl] at HL
      have hq2 := lenR_place hq.2 hl
      have HR3 : Hid (R = bodyR (itemR lax bs r) bs p e t (.ok o q2)) := by show _ = _; rw [HR2.out, hl]
      cases o with
      | none =>
        have hlc : co = true := by
          by_cases hc : co = true
          · exact hc
          · unfold lenR at hl
            obtain rfl : co = false := by cases co <;> simp_all
            simp only [Bool.false_eq_true, and_false, if_false] at hl
            split at hl
            · cases hl
            · split at hl
              · cases hl
              · split at hl
                · cases hl
                · split at hl
                  · cases hl
                  · split at hl <;> cases hl
        clear hl HR2
        subst hlc
        have HR4 : Hid (R = boxR cl t (openR (fun i => itemR lax bs r i e) bs e (e - q2 + 1) [] q2) none) := by show _ = _; rw [HR3.out, HCL.out]; rfl
        go_upto_region 8 with (go_at_call 78; refine HL.mono ?_; rintro ev w2 ⟨hh, hb2⟩; obtain rfl : ev = .returned (.tuple #[.int .i64 0, .bool true, .int .i64 (q2 : Int)]) := hh)
        have hs2 := hb2.size
        have g2 := heap_kept hb2 (by omega) g0
        have g21 := heap_kept hb2 (by omega) g1
        have g2G := heap_kept hb2 (by omega) gG
        have hB2 : Below w.heap.size w w2 := hB1.trans (hb2.mono (by omega))
        have e00 : w2.cell? ⟨w.heap.size, 0, none⟩ = some (.slice (some ⟨b, off, none⟩) n cap) := (cell_of_row _ w.heap.size 0 _ 93 (0, 0) g2).trans rfl
        have e01 : w2.cell? ⟨w.heap.size, 1, none⟩ = some (.bool lax) := (cell_of_row _ w.heap.size 1 _ 93 (0, 0) g2).trans rfl
        have HK := openKids_any lax bs n cap (some ⟨b, off, none⟩) r IH q2 e w2 (HR.out.kept hB2) hq2.2 he hn
        rw [← HD.out] at HK
        cases hop : openR (fun i => itemR lax bs r i e) bs e (e - q2 + 1) [] q2 with
        | no c q3 =>
          rw [hop] at HK
          have hf : Hid (R = .no c q3) := by show _ = _; rw [HR4.out, hop]; rfl
          clear hop HR4
          go_wp2_with (go_at_call 79; refine HK.mono ?_; rintro ev w3 ⟨hb3, hh⟩; obtain rfl : ev = .panicked (gvUp c q3) := hh)
          exact ⟨rfl, ItPost.no hf (hB2.trans (hb3.mono (by omega)))⟩
        | ok ks nx =>
          rw [hop] at HK
          have hf : Hid (R = .ok (.mk cl t true [] ks) nx) := by show _ = _; rw [HR4.out, hop]; rfl
          clear hop HR4
          go_upto_region 9 with (go_at_call 79; refine HK.mono ?_; rintro ev w3 ⟨hb3, ak, nk, ck, lo, rfl, hnk, hlo1, hlo2, hok⟩; have g3G := heap_kept hb3 (by omega) g2G; have cG4 : w3.cell? ⟨G, 4, none⟩ = some (.slice none 0 0) := (cell_of_row _ G 4 _ 26 (0, 0) g3G).trans rfl; have fG4 : w3.frozen? ⟨G, 4, none⟩ = false := frozen_of_row w3 G 4 _ 26 g3G)
          have hs3 := hb3.size
          have g31 := heap_kept hb3 (by omega) g21
          have HB : Hid (Below w.heap.size w (w3.setCell ⟨G, 4, none⟩ (.slice ak nk ck))) := (hB2.trans (hb3.mono (by omega))).setCell (by show w.heap.size ≤ G; omega) _
          have E1 : Hid ((w3.setCell ⟨G, 4, none⟩ (.slice ak nk ck)).heap[w.heap.size + 1]? = some (.cells #[.int .i64 0, .int .i64 0, .bool false, .slice none 0 0, .slice none 0 0] 26 (0, 0))) := (heap_setCell_other w3 ⟨G, 4, none⟩ (w.heap.size + 1) (.slice ak nk ck) (by show w.heap.size + 1 ≠ G; omega)).trans g31
          have EG : Hid ((w3.setCell ⟨G, 4, none⟩ (.slice ak nk ck)).heap[G]? = some (.cells #[.int .i64 cl, .int .i64 t, .bool true, .slice none 0 0, .slice ak nk ck] 26 (0, 0))) := (heap_setCell_same w3 G 4 _ 26 (.slice ak nk ck) g3G).trans rfl
          have tG : Touch G (G + 1) w3 (w3.setCell ⟨G, 4, none⟩ (.slice ak nk ck)) := touch_set _ _ _ _ (Nat.le_refl _) (by omega)
          have hszG : (w3.setCell ⟨G, 4, none⟩ (.slice ak nk ck)).heap.size = w3.heap.size := by simp
          have HOK : Hid (OwnKids (r + 1) lo w3.heap.size (w3.setCell ⟨G, 4, none⟩ (.slice ak nk ck)) ak nk ks) := ownKids_moves (r + 1) _ _ _ _ _ _ _ _ _ hok (.inr (by omega)) tG
          obtain ⟨W3, hW3⟩ : ∃ W3, W3 = w3.setCell ⟨G, 4, none⟩ (.slice ak nk ck) := ⟨_, rfl⟩
          rw [← hW3] at HB E1 EG HOK hszG ⊢
          clear hW3 tG hok cG4 fG4 g3G g31 g2 g21 g2G hb3 hb2 HK e00 e01
          have cg0 : W3.cell? ⟨G, 0, none⟩ = some (.int .i64 cl) := (cell_of_row _ G 0 _ 26 (0, 0) EG.out).trans rfl
          have cg1 : W3.cell? ⟨G, 1, none⟩ = some (.int .i64 t) := (cell_of_row _ G 1 _ 26 (0, 0) EG.out).trans rfl
          have cg2 : W3.cell? ⟨G, 2, none⟩ = some (.bool true) := (cell_of_row _ G 2 _ 26 (0, 0) EG.out).trans rfl
          have cg3 : W3.cell? ⟨G, 3, none⟩ = some (.slice none 0 0) := (cell_of_row _ G 3 _ 26 (0, 0) EG.out).trans rfl
          have cg4 : W3.cell? ⟨G, 4, none⟩ = some (.slice ak nk ck) := (cell_of_row _ G 4 _ 26 (0, 0) EG.out).trans rfl
          have cz0 : W3.cell? ⟨w.heap.size + 1, 0, none⟩ = some (.int .i64 0) := (cell_of_row _ (w.heap.size + 1) 0 _ 26 (0, 0) E1.out).trans rfl
          have fz0 : W3.frozen? ⟨w.heap.size + 1, 0, none⟩ = false := frozen_of_row W3 (w.heap.size + 1) 0 _ 26 E1.out
          have cz1 : W3.cell? ⟨w.heap.size + 1, 1, none⟩ = some (.int .i64 0) := (cell_of_row _ (w.heap.size + 1) 1 _ 26 (0, 0) E1.out).trans rfl
          have fz1 : W3.frozen? ⟨w.heap.size + 1, 1, none⟩ = false := frozen_of_row W3 (w.heap.size + 1) 1 _ 26 E1.out
          have cz2 : W3.cell? ⟨w.heap.size + 1, 2, none⟩ = some (.bool false) := (cell_of_row _ (w.heap.size + 1) 2 _ 26 (0, 0) E1.out).trans rfl
          have fz2 : W3.frozen? ⟨w.heap.size + 1, 2, none⟩ = false := frozen_of_row W3 (w.heap.size + 1) 2 _ 26 E1.out
          have cz3 : W3.cell? ⟨w.heap.size + 1, 3, none⟩ = some (.slice none 0 0) := (cell_of_row _ (w.heap.size + 1) 3 _ 26 (0, 0) E1.out).trans rfl
          have fz3 : W3.frozen? ⟨w.heap.size + 1, 3, none⟩ = false := frozen_of_row W3 (w.heap.size + 1) 3 _ 26 E1.out
          have cz4 : W3.cell? ⟨w.heap.size + 1, 4, none⟩ = some (.slice none 0 0) := (cell_of_row _ (w.heap.size + 1) 4 _ 26 (0, 0) E1.out).trans rfl
          have fz4 : W3.frozen? ⟨w.heap.size + 1, 4, none⟩ = false := frozen_of_row W3 (w.heap.size + 1) 4 _ 26 E1.out
          go_wp2
          have q0 := heap_setCell_same (W3) (w.heap.size + 1) 0 _ 26 (.int .i64 cl) E1.out
          have q1 := heap_setCell_same ((W3).setCell ⟨w.heap.size + 1, 0, none⟩ (.int .i64 cl)) (w.heap.size + 1) 1 _ 26 (.int .i64 t) q0
          have q2 := heap_setCell_same (((W3).setCell ⟨w.heap.size + 1, 0, none⟩ (.int .i64 cl)).setCell ⟨w.heap.size + 1, 1, none⟩ (.int .i64 t)) (w.heap.size + 1) 2 _ 26 (.bool true) q1
          have q3 := heap_setCell_same ((((W3).setCell ⟨w.heap.size + 1, 0, none⟩ (.int .i64 cl)).setCell ⟨w.heap.size + 1, 1, none⟩ (.int .i64 t)).setCell ⟨w.heap.size + 1, 2, none⟩ (.bool true)) (w.heap.size + 1) 3 _ 26 (.slice none 0 0) q2
          have q4 := heap_setCell_same (((((W3).setCell ⟨w.heap.size + 1, 0, none⟩ (.int .i64 cl)).setCell ⟨w.heap.size + 1, 1, none⟩ (.int .i64 t)).setCell ⟨w.heap.size + 1, 2, none⟩ (.bool true)).setCell ⟨w.heap.size + 1, 3, none⟩ (.slice none 0 0)) (w.heap.size + 1) 4 _ 26 (.slice ak nk ck) q3
          have tt : Touch (w.heap.size + 1) (w.heap.size + 2) W3 ((((((W3).setCell ⟨w.heap.size + 1, 0, none⟩ (.int .i64 cl)).setCell ⟨w.heap.size + 1, 1, none⟩ (.int .i64 t)).setCell ⟨w.heap.size + 1, 2, none⟩ (.bool true)).setCell ⟨w.heap.size + 1, 3, none⟩ (.slice none 0 0)).setCell ⟨w.heap.size + 1, 4, none⟩ (.slice ak nk ck)) := ((((touch_set _ _ _ _ (by omega) (by omega)).trans (touch_set _ _ _ _ (by omega) (by omega))).trans (touch_set _ _ _ _ (by omega) (by omega))).trans (touch_set _ _ _ _ (by omega) (by omega))).trans (touch_set _ _ _ _ (by omega) (by omega))
          have tsz := tt.size
          have tse : ((((((W3).setCell ⟨w.heap.size + 1, 0, none⟩ (.int .i64 cl)).setCell ⟨w.heap.size + 1, 1, none⟩ (.int .i64 t)).setCell ⟨w.heap.size + 1, 2, none⟩ (.bool true)).setCell ⟨w.heap.size + 1, 3, none⟩ (.slice none 0 0)).setCell ⟨w.heap.size + 1, 4, none⟩ (.slice ak nk ck)).heap.size = W3.heap.size := by simp
          try simp only [Exit.inBlock, Exit.then]
          refine bodyPost_ret (results_item2 rfl _ (w.heap.size + 1) rfl _ _ _ _ _ _ q4) rfl ?_
          refine ⟨HB.out.trans (tt.below (by omega) (by omega)), ?_⟩
          rw [hf.out]
          exact ⟨none, 0, 0, ak, nk, ck, lo, rfl, by omega, by omega, ownB_none _ _ _, by rw [tse, hszG]; exact ownKids_moves (r + 1) _ _ _ _ _ _ _ _ _ HOK.out (.inr (by omega)) tt⟩
      | some m =>
        have HR4 : Hid (R = if e < q2 + m then .no 1 e else if co = true then boxR cl t (closedR (fun i => itemR lax bs r i (q2 + m)) (q2 + m) m [] q2) (some (q2 + m)) else .ok (.mk cl t false ((bs.drop q2).take m) []) (q2 + m)) := by show _ = _; rw [HR3.out, HCL.out, HCO.out]; rfl
        clear hl HR2 HR3
        have hmi : ((some m : Option Nat).getD 0 : Nat) = m := rfl
        go_upto_region 10 with (go_at_call 78; refine HL.mono ?_; rintro ev w2 ⟨hh, hb2⟩; obtain rfl : ev = .returned (.tuple #[.int .i64 (m : Int), .bool false, .int .i64 (q2 : Int)]) := hh)
        have hs2 := hb2.size
        have g2 := heap_kept hb2 (by omega) g0
        have g21 := heap_kept hb2 (by omega) g1
        have g2G := heap_kept hb2 (by omega) gG
        have hB2 : Below w.heap.size w w2 := hB1.trans (hb2.mono (by omega))
        by_cases hem : e < q2 + m
        · have hf : Hid (R = .no 1 e) := by show _ = _; rw [HR4.out, if_pos hem]
          have hemi : (e : Int) - (q2 : Int) < (m : Int) := by omega
          clear HR4
          go_wp2_with (go_at_call 63; refine (giveUp_any 1 e _).mono ?_; rintro e w1 ⟨rfl, rfl⟩)
          exact ⟨rfl, ItPost.no hf hB2⟩
        have hemi : ¬ (e : Int) - (q2 : Int) < (m : Int) := by omega
        have HR5 : Hid (R = if co = true then boxR cl t (closedR (fun i => itemR lax bs r i (q2 + m)) (q2 + m) m [] q2) (some (q2 + m)) else .ok (.mk cl t false ((bs.drop q2).take m) []) (q2 + m)) := by show _ = _; rw [HR4.out, if_neg hem]
        clear HR4
        have e00 : w2.cell? ⟨w.heap.size, 0, none⟩ = some (.slice (some ⟨b, off, none⟩) n cap) := (cell_of_row _ w.heap.size 0 _ 93 (0, 0) g2).trans rfl
        have e01 : w2.cell? ⟨w.heap.size, 1, none⟩ = some (.bool lax) := (cell_of_row _ w.heap.size 1 _ 93 (0, 0) g2).trans rfl
        have e02 : w2.cell? ⟨G, 2, none⟩ = some (.bool co) := (cell_of_row _ G 2 _ 26 (0, 0) g2G).trans rfl
        have enx : (q2 : Int) + (m : Int) = ((q2 + m : Nat) : Int) := by omega
        cases co with
        | true =>
          have HR6 : Hid (R = boxR cl t (closedR (fun i => itemR lax bs r i (q2 + m)) (q2 + m) m [] q2) (some (q2 + m))) := by show _ = _; rw [HR5.out, if_pos rfl]
          clear HR5
          have HK := closedKids_any lax bs n cap (some ⟨b, off, none⟩) r IH q2 (q2 + m) w2 (HR.out.kept hB2) (by omega) (by omega) hn
          rw [← HD.out, ← enx, Nat.add_sub_cancel_left] at HK
          cases hop : closedR (fun i => itemR lax bs r i (q2 + m)) (q2 + m) m [] q2 with
          | no c q3 =>
            rw [hop] at HK
            have hf : Hid (R = .no c q3) := by show _ = _; rw [HR6.out, hop]; rfl
            clear hop HR6 enx
            go_wp2_with (go_at_call 80; refine HK.mono ?_; rintro ev w3 ⟨hb3, hh⟩; obtain rfl : ev = .panicked (gvUp c q3) := hh)
            exact ⟨rfl, ItPost.no hf (hB2.trans (hb3.mono (by omega)))⟩
          | ok ks nx =>
            rw [hop] at HK
            have hf : Hid (R = .ok (.mk cl t true [] ks) (q2 + m)) := by show _ = _; rw [HR6.out, hop]; rfl
            clear hop HR6 enx
            go_upto_region 16 with (go_at_call 80; refine HK.mono ?_; rintro ev w3 ⟨hb3, ak, nk, ck, lo, rfl, hnk, hlo1, hlo2, hok⟩; have g3G := heap_kept hb3 (by omega) g2G; have cG4 : w3.cell? ⟨G, 4, none⟩ = some (.slice none 0 0) := (cell_of_row _ G 4 _ 26 (0, 0) g3G).trans rfl; have fG4 : w3.frozen? ⟨G, 4, none⟩ = false := frozen_of_row w3 G 4 _ 26 g3G)
            have hs3 := hb3.size
            have g31 := heap_kept hb3 (by omega) g21
            have HB : Hid (Below w.heap.size w (w3.setCell ⟨G, 4, none⟩ (.slice ak nk ck))) := (hB2.trans (hb3.mono (by omega))).setCell (by show w.heap.size ≤ G; omega) _
            have E1 : Hid ((w3.setCell ⟨G, 4, none⟩ (.slice ak nk ck)).heap[w.heap.size + 1]? = some (.cells #[.int .i64 0, .int .i64 0, .bool false, .slice none 0 0, .slice none 0 0] 26 (0, 0))) := (heap_setCell_other w3 ⟨G, 4, none⟩ (w.heap.size + 1) (.slice ak nk ck) (by show w.heap.size + 1 ≠ G; omega)).trans g31
            have EG : Hid ((w3.setCell ⟨G, 4, none⟩ (.slice ak nk ck)).heap[G]? = some (.cells #[.int .i64 cl, .int .i64 t, .bool true, .slice none 0 0, .slice ak nk ck] 26 (0, 0))) := (heap_setCell_same w3 G 4 _ 26 (.slice ak nk ck) g3G).trans rfl
            have tG : Touch G (G + 1) w3 (w3.setCell ⟨G, 4, none⟩ (.slice ak nk ck)) := touch_set _ _ _ _ (Nat.le_refl _) (by omega)
            have hszG : (w3.setCell ⟨G, 4, none⟩ (.slice ak nk ck)).heap.size = w3.heap.size := by simp
            have HOK : Hid (OwnKids (r + 1) lo w3.heap.size (w3.setCell ⟨G, 4, none⟩ (.slice ak nk ck)) ak nk ks) := ownKids_moves (r + 1) _ _ _ _ _ _ _ _ _ hok (.inr (by omega)) tG
            obtain ⟨W3, hW3⟩ : ∃ W3, W3 = w3.setCell ⟨G, 4, none⟩ (.slice ak nk ck) := ⟨_, rfl⟩
            rw [← hW3] at HB E1 EG HOK hszG ⊢
            clear hW3 tG hok cG4 fG4 g3G g31 g2 g21 g2G hb3 hb2 HK e00 e01
            have cg0 : W3.cell? ⟨G, 0, none⟩ = some (.int .i64 cl) := (cell_of_row _ G 0 _ 26 (0, 0) EG.out).trans rfl
            have cg1 : W3.cell? ⟨G, 1, none⟩ = some (.int .i64 t) := (cell_of_row _ G 1 _ 26 (0, 0) EG.out).trans rfl
            have cg2 : W3.cell? ⟨G, 2, none⟩ = some (.bool true) := (cell_of_row _ G 2 _ 26 (0, 0) EG.out).trans rfl
            have cg3 : W3.cell? ⟨G, 3, none⟩ = some (.slice none 0 0) := (cell_of_row _ G 3 _ 26 (0, 0) EG.out).trans rfl
            have cg4 : W3.cell? ⟨G, 4, none⟩ = some (.slice ak nk ck) := (cell_of_row _ G 4 _ 26 (0, 0) EG.out).trans rfl
            have cz0 : W3.cell? ⟨w.heap.size + 1, 0, none⟩ = some (.int .i64 0) := (cell_of_row _ (w.heap.size + 1) 0 _ 26 (0, 0) E1.out).trans rfl
            have fz0 : W3.frozen? ⟨w.heap.size + 1, 0, none⟩ = false := frozen_of_row W3 (w.heap.size + 1) 0 _ 26 E1.out
            have cz1 : W3.cell? ⟨w.heap.size + 1, 1, none⟩ = some (.int .i64 0) := (cell_of_row _ (w.heap.size + 1) 1 _ 26 (0, 0) E1.out).trans rfl
            have fz1 : W3.frozen? ⟨w.heap.size + 1, 1, none⟩ = false := frozen_of_row W3 (w.heap.size + 1) 1 _ 26 E1.out
            have cz2 : W3.cell? ⟨w.heap.size + 1, 2, none⟩ = some (.bool false) := (cell_of_row _ (w.heap.size + 1) 2 _ 26 (0, 0) E1.out).trans rfl
            have fz2 : W3.frozen? ⟨w.heap.size + 1, 2, none⟩ = false := frozen_of_row W3 (w.heap.size + 1) 2 _ 26 E1.out
            have cz3 : W3.cell? ⟨w.heap.size + 1, 3, none⟩ = some (.slice none 0 0) := (cell_of_row _ (w.heap.size + 1) 3 _ 26 (0, 0) E1.out).trans rfl
            have fz3 : W3.frozen? ⟨w.heap.size + 1, 3, none⟩ = false := frozen_of_row W3 (w.heap.size + 1) 3 _ 26 E1.out
            have cz4 : W3.cell? ⟨w.heap.size + 1, 4, none⟩ = some (.slice none 0 0) := (cell_of_row _ (w.heap.size + 1) 4 _ 26 (0, 0) E1.out).trans rfl
            have fz4 : W3.frozen? ⟨w.heap.size + 1, 4, none⟩ = false := frozen_of_row W3 (w.heap.size + 1) 4 _ 26 E1.out
            go_wp2
            have q0 := heap_setCell_same (W3) (w.heap.size + 1) 0 _ 26 (.int .i64 cl) E1.out
            have q1 := heap_setCell_same ((W3).setCell ⟨w.heap.size + 1, 0, none⟩ (.int .i64 cl)) (w.heap.size + 1) 1 _ 26 (.int .i64 t) q0
            have q2 := heap_setCell_same (((W3).setCell ⟨w.heap.size + 1, 0, none⟩ (.int .i64 cl)).setCell ⟨w.heap.size + 1, 1, none⟩ (.int .i64 t)) (w.heap.size + 1) 2 _ 26 (.bool true) q1
            have q3 := heap_setCell_same ((((W3).setCell ⟨w.heap.size + 1, 0, none⟩ (.int .i64 cl)).setCell ⟨w.heap.size + 1, 1, none⟩ (.int .i64 t)).setCell ⟨w.heap.size + 1, 2, none⟩ (.bool true)) (w.heap.size + 1) 3 _ 26 (.slice none 0 0) q2
            have q4 := heap_setCell_same (((((W3).setCell ⟨w.heap.size + 1, 0, none⟩ (.int .i64 cl)).setCell ⟨w.heap.size + 1, 1, none⟩ (.int .i64 t)).setCell ⟨w.heap.size + 1, 2, none⟩ (.bool true)).setCell ⟨w.heap.size + 1, 3, none⟩ (.slice none 0 0)) (w.heap.size + 1) 4 _ 26 (.slice ak nk ck) q3
            have tt : Touch (w.heap.size + 1) (w.heap.size + 2) W3 ((((((W3).setCell ⟨w.heap.size + 1, 0, none⟩ (.int .i64 cl)).setCell ⟨w.heap.size + 1, 1, none⟩ (.int .i64 t)).setCell ⟨w.heap.size + 1, 2, none⟩ (.bool true)).setCell ⟨w.heap.size + 1, 3, none⟩ (.slice none 0 0)).setCell ⟨w.heap.size + 1, 4, none⟩ (.slice ak nk ck)) := ((((touch_set _ _ _ _ (by omega) (by omega)).trans (touch_set _ _ _ _ (by omega) (by omega))).trans (touch_set _ _ _ _ (by omega) (by omega))).trans (touch_set _ _ _ _ (by omega) (by omega))).trans (touch_set _ _ _ _ (by omega) (by omega))
            have tsz := tt.size
            have tse : ((((((W3).setCell ⟨w.heap.size + 1, 0, none⟩ (.int .i64 cl)).setCell ⟨w.heap.size + 1, 1, none⟩ (.int .i64 t)).setCell ⟨w.heap.size + 1, 2, none⟩ (.bool true)).setCell ⟨w.heap.size + 1, 3, none⟩ (.slice none 0 0)).setCell ⟨w.heap.size + 1, 4, none⟩ (.slice ak nk ck)).heap.size = W3.heap.size := by simp
            try simp only [Exit.inBlock, Exit.then]
            refine bodyPost_ret (results_item2 rfl _ (w.heap.size + 1) rfl _ _ _ _ _ _ q4) rfl ?_
            refine ⟨HB.out.trans (tt.below (by omega) (by omega)), ?_⟩
            rw [hf.out]
            exact ⟨none, 0, 0, ak, nk, ck, lo, rfl, by omega, by omega, ownB_none _ _ _, by rw [tse, hszG]; exact ownKids_moves (r + 1) _ _ _ _ _ _ _ _ _ HOK.out (.inr (by omega)) tt⟩
        | false =>
          have hf : Hid (R = .ok (.mk cl t false ((bs.drop q2).take m) []) (q2 + m)) := by show _ = _; rw [HR5.out, if_neg (by simp)]
          clear HR5
          have s1 : ¬ (cap : Int) < (q2 : Int) + (m : Int) := by omega
          have s2 : ¬ (q2 : Int) + (m : Int) < (q2 : Int) := by omega
          have s4 : (q2 : Int) + (m : Int) - (q2 : Int) = (m : Int) := by omega
          have s5 : ((q2 : Int) + (m : Int) - (q2 : Int)).toNat = m := by omega
          clear enx
          obtain ⟨A, hA⟩ : ∃ A : Option Addr, A = if cap = q2 then some ⟨b, off, none⟩ else some ⟨b, off + q2, none⟩ := ⟨_, rfl⟩
          have hrow : Row w2 A m ((bs.drop q2).take m) := by
            rw [hA]
            by_cases hc : cap = q2
            · obtain rfl : m = 0 := by omega
              rw [if_pos hc, List.take_zero]
              exact ⟨rfl, fun k hk => absurd hk (Nat.not_lt_zero _), fun k => by simp⟩
            · rw [if_neg hc]
              exact ((HR.out.kept hB2).drop q2 (by omega)).take m (by omega)
          have hAn : A = none → cap - q2 = 0 := by
            rw [hA]
            split
            · intro h; cases h
            · intro h; cases h
          have HK := clone_any A m (cap - q2) _ w2 hrow hAn (by omega)
          rw [hA] at HK
          have HROW : Hid (_) := hrow
          clear hA hrow hAn
          go_upto_region 16 with (go_at_call 69; refine HK.mono ?_; rintro ev w3 ⟨a3, c3, rfl, ho3, hb3⟩; have g3G := heap_kept hb3 (by omega) g2G; have cG3 : w3.cell? ⟨G, 3, none⟩ = some (.slice none 0 0) := (cell_of_row _ G 3 _ 26 (0, 0) g3G).trans rfl; have fG3 : w3.frozen? ⟨G, 3, none⟩ = false := frozen_of_row w3 G 3 _ 26 g3G)
          generalize (if cap = q2 then (some ⟨b, off, none⟩ : Option Addr) else some ⟨b, off + q2, none⟩) = A2
          have hs3 := hb3.size
          have g31 := heap_kept hb3 (by omega) g21
          have HB : Hid (Below w.heap.size w (w3.setCell ⟨G, 3, none⟩ (.slice a3 m c3))) := (hB2.trans (hb3.mono (by omega))).setCell (by show w.heap.size ≤ G; omega) _
          have E1 : Hid ((w3.setCell ⟨G, 3, none⟩ (.slice a3 m c3)).heap[w.heap.size + 1]? = some (.cells #[.int .i64 0, .int .i64 0, .bool false, .slice none 0 0, .slice none 0 0] 26 (0, 0))) := (heap_setCell_other w3 ⟨G, 3, none⟩ (w.heap.size + 1) (.slice a3 m c3) (by show w.heap.size + 1 ≠ G; omega)).trans g31
          have EG : Hid ((w3.setCell ⟨G, 3, none⟩ (.slice a3 m c3)).heap[G]? = some (.cells #[.int .i64 cl, .int .i64 t, .bool false, .slice a3 m c3, .slice none 0 0] 26 (0, 0))) := (heap_setCell_same w3 G 3 _ 26 (.slice a3 m c3) g3G).trans rfl
          have tG : Touch G (G + 1) w3 (w3.setCell ⟨G, 3, none⟩ (.slice a3 m c3)) := touch_set _ _ _ _ (Nat.le_refl _) (by omega)
          have hszG : (w3.setCell ⟨G, 3, none⟩ (.slice a3 m c3)).heap.size = w3.heap.size := by simp
          have HOB : Hid (OwnB w2.heap.size w3.heap.size (w3.setCell ⟨G, 3, none⟩ (.slice a3 m c3)) a3 m c3 ((bs.drop q2).take m)) := ho3.ownB.touch (.inr (by omega)) tG
          obtain ⟨W3, hW3⟩ : ∃ W3, W3 = w3.setCell ⟨G, 3, none⟩ (.slice a3 m c3) := ⟨_, rfl⟩
          rw [← hW3] at HB E1 EG HOB hszG ⊢
          clear hW3 tG ho3 cG3 fG3 g3G g31 g2 g21 g2G hb3 hb2 HK e00 e01 e02 HROW
          have cg0 : W3.cell? ⟨G, 0, none⟩ = some (.int .i64 cl) := (cell_of_row _ G 0 _ 26 (0, 0) EG.out).trans rfl
          have cg1 : W3.cell? ⟨G, 1, none⟩ = some (.int .i64 t) := (cell_of_row _ G 1 _ 26 (0, 0) EG.out).trans rfl
          have cg2 : W3.cell? ⟨G, 2, none⟩ = some (.bool false) := (cell_of_row _ G 2 _ 26 (0, 0) EG.out).trans rfl
          have cg3 : W3.cell? ⟨G, 3, none⟩ = some (.slice a3 m c3) := (cell_of_row _ G 3 _ 26 (0, 0) EG.out).trans rfl
          have cg4 : W3.cell? ⟨G, 4, none⟩ = some (.slice none 0 0) := (cell_of_row _ G 4 _ 26 (0, 0) EG.out).trans rfl
          have cz0 : W3.cell? ⟨w.heap.size + 1, 0, none⟩ = some (.int .i64 0) := (cell_of_row _ (w.heap.size + 1) 0 _ 26 (0, 0) E1.out).trans rfl
          have fz0 : W3.frozen? ⟨w.heap.size + 1, 0, none⟩ = false := frozen_of_row W3 (w.heap.size + 1) 0 _ 26 E1.out
          have cz1 : W3.cell? ⟨w.heap.size + 1, 1, none⟩ = some (.int .i64 0) := (cell_of_row _ (w.heap.size + 1) 1 _ 26 (0, 0) E1.out).trans rfl
          have fz1 : W3.frozen? ⟨w.heap.size + 1, 1, none⟩ = false := frozen_of_row W3 (w.heap.size + 1) 1 _ 26 E1.out
          have cz2 : W3.cell? ⟨w.heap.size + 1, 2, none⟩ = some (.bool false) := (cell_of_row _ (w.heap.size + 1) 2 _ 26 (0, 0) E1.out).trans rfl
          have fz2 : W3.frozen? ⟨w.heap.size + 1, 2, none⟩ = false := frozen_of_row W3 (w.heap.size + 1) 2 _ 26 E1.out
          have cz3 : W3.cell? ⟨w.heap.size + 1, 3, none⟩ = some (.slice none 0 0) := (cell_of_row _ (w.heap.size + 1) 3 _ 26 (0, 0) E1.out).trans rfl
          have fz3 : W3.frozen? ⟨w.heap.size + 1, 3, none⟩ = false := frozen_of_row W3 (w.heap.size + 1) 3 _ 26 E1.out
          have cz4 : W3.cell? ⟨w.heap.size + 1, 4, none⟩ = some (.slice none 0 0) := (cell_of_row _ (w.heap.size + 1) 4 _ 26 (0, 0) E1.out).trans rfl
          have fz4 : W3.frozen? ⟨w.heap.size + 1, 4, none⟩ = false := frozen_of_row W3 (w.heap.size + 1) 4 _ 26 E1.out
          go_wp2
          have q0 := heap_setCell_same (W3) (w.heap.size + 1) 0 _ 26 (.int .i64 cl) E1.out
          have q1 := heap_setCell_same ((W3).setCell ⟨w.heap.size + 1, 0, none⟩ (.int .i64 cl)) (w.heap.size + 1) 1 _ 26 (.int .i64 t) q0
          have q2 := heap_setCell_same (((W3).setCell ⟨w.heap.size + 1, 0, none⟩ (.int .i64 cl)).setCell ⟨w.heap.size + 1, 1, none⟩ (.int .i64 t)) (w.heap.size + 1) 2 _ 26 (.bool false) q1
          have q3 := heap_setCell_same ((((W3).setCell ⟨w.heap.size + 1, 0, none⟩ (.int .i64 cl)).setCell ⟨w.heap.size + 1, 1, none⟩ (.int .i64 t)).setCell ⟨w.heap.size + 1, 2, none⟩ (.bool false)) (w.heap.size + 1) 3 _ 26 (.slice a3 m c3) q2
          have q4 := heap_setCell_same (((((W3).setCell ⟨w.heap.size + 1, 0, none⟩ (.int .i64 cl)).setCell ⟨w.heap.size + 1, 1, none⟩ (.int .i64 t)).setCell ⟨w.heap.size + 1, 2, none⟩ (.bool false)).setCell ⟨w.heap.size + 1, 3, none⟩ (.slice a3 m c3)) (w.heap.size + 1) 4 _ 26 (.slice none 0 0) q3
          have tt : Touch (w.heap.size + 1) (w.heap.size + 2) W3 ((((((W3).setCell ⟨w.heap.size + 1, 0, none⟩ (.int .i64 cl)).setCell ⟨w.heap.size + 1, 1, none⟩ (.int .i64 t)).setCell ⟨w.heap.size + 1, 2, none⟩ (.bool false)).setCell ⟨w.heap.size + 1, 3, none⟩ (.slice a3 m c3)).setCell ⟨w.heap.size + 1, 4, none⟩ (.slice none 0 0)) := ((((touch_set _ _ _ _ (by omega) (by omega)).trans (touch_set _ _ _ _ (by omega) (by omega))).trans (touch_set _ _ _ _ (by omega) (by omega))).trans (touch_set _ _ _ _ (by omega) (by omega))).trans (touch_set _ _ _ _ (by omega) (by omega))
          have tsz := tt.size
          have tse : ((((((W3).setCell ⟨w.heap.size + 1, 0, none⟩ (.int .i64 cl)).setCell ⟨w.heap.size + 1, 1, none⟩ (.int .i64 t)).setCell ⟨w.heap.size + 1, 2, none⟩ (.bool false)).setCell ⟨w.heap.size + 1, 3, none⟩ (.slice a3 m c3)).setCell ⟨w.heap.size + 1, 4, none⟩ (.slice none 0 0)).heap.size = W3.heap.size := by simp
          try simp only [Exit.inBlock, Exit.then]
          refine bodyPost_ret (results_item2 rfl _ (w.heap.size + 1) rfl _ _ _ _ _ _ q4) rfl ?_
          refine ⟨HB.out.trans (tt.below (by omega) (by omega)), ?_⟩
          rw [hf.out]
          exact ⟨a3, m, c3, none, 0, 0, w3.heap.size, rfl, by omega, by rw [tse, hszG]; exact Nat.le_refl _, (HOB.out.touch (.inr (by omega)) tt).mono (by omega) (Nat.le_refl _), ownKids_nil r _ _ _ none⟩

end Go.Proofs.YtjkkokjojaknkaaDoor
