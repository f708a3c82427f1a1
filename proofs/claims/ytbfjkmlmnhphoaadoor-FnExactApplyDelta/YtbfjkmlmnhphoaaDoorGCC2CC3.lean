import Derived.Test.YtbfjkmlmnhphoaaDoorCC1
import Derived.Test.YtbfjkmlmnhphoaaDoorGN8K7
import Derived.Deep.RegionWith
import Derived.Deep.DeepCutAuto
set_option linter.unusedVariables false
namespace Go.Proofs.YtbfjkmlmnhphoaaDoor
open Go.RowKit Go.Sort

theorem cells1N {W : World} {g : Nat} {u v : Value} {t : TypeId} (h : W.heap[g]? = some (.cells #[u] t (0, 0))) (h2 : W.heap[g + 1]? = some (.cells #[v] t (0, 0))) : W.cell? ⟨g, 0, none⟩ = some u ∧ W.cell? ⟨g + 1, 0, none⟩ = some v := ⟨(cell_of_row W g 0 _ t (0, 0) h).trans rfl, (cell_of_row W (g + 1) 0 _ t (0, 0) h2).trans rfl⟩
theorem froz1N {W : World} {g : Nat} {u v : Value} {t : TypeId} (h : W.heap[g]? = some (.cells #[u] t (0, 0))) (h2 : W.heap[g + 1]? = some (.cells #[v] t (0, 0))) : W.frozen? ⟨g, 0, none⟩ = false ∧ W.frozen? ⟨g + 1, 0, none⟩ = false := ⟨frozen_of_row W g 0 _ t h, frozen_of_row W (g + 1) 0 _ t h2⟩

set_option maxRecDepth 10000 in
set_option maxHeartbeats 4000000 in
theorem l9CopyName_any (a : Option Addr) (n cap : Nat) (ps : List PT) (w : World) (h : Pts w a n ps) (hnil : a = none → cap = 0) (hn : n ≤ 1048576) :
    Calls Tryd.prog 74 #[.agg #[.slice a n cap]] w fun e w' => ∃ a' c', e = .returned (.agg #[.slice a' n c']) ∧ w'.ownsRow w.heap.size 107 2 (.slice a' n c') n (flPt ps) ∧ Below w.heap.size w w' := by
  obtain ⟨i0, hi, hz0, hz1, hz2⟩ := info_parts Tryd.infoPart
  obtain ⟨W0, hW0⟩ : ∃ W0, W0 = (w.alloc (.cells #[.slice a n cap] 33)).alloc (.cells #[.slice none 0 0] 33) := ⟨_, rfl⟩
  have hB0 : Below w.heap.size w W0 := by rw [hW0]; exact two_below _ _ _
  have hS0 : W0.heap.size = w.heap.size + 2 := by rw [hW0]; simp
  have b0 := two_blocks w (.cells #[.slice a n cap] 33) (.cells #[.slice none 0 0] 33)
  rw [← hW0] at b0
  have hal : Below W0.heap.size W0 (W0.alloc (.cells #[] 107)) := (Below.refl _ _).alloc (Nat.le_refl _) _
  have hz1' : (W0.alloc (.cells #[] 107)).heap.size = w.heap.size + 3 := by simp [hS0]
  have c0 : (W0.alloc (.cells #[] 107)).heap[w.heap.size]? = some (.cells #[.slice a n cap] 33 (0, 0)) := (hal.block w.heap.size (by omega)).trans b0.1
  have c1 : (W0.alloc (.cells #[] 107)).heap[w.heap.size + 1]? = some (.cells #[.slice none 0 0] 33 (0, 0)) := (hal.block (w.heap.size + 1) (by omega)).trans b0.2
  have x0 : W0.cell? ⟨w.heap.size, 0, none⟩ = some (.slice a n cap) := (cell_of_row _ _ 0 _ _ (0, 0) b0.1).trans rfl
  have x1 : (W0.alloc (.cells #[] 107)).cell? ⟨w.heap.size, 0, none⟩ = some (.slice a n cap) := (cell_of_row _ _ 0 _ _ (0, 0) c0).trans rfl
  have HO : Hid ((W0.alloc (.cells #[] 107)).ownsRow (w.heap.size + 2) 107 2 (.slice (some ⟨w.heap.size + 2, 0, none⟩) 0 0) 0 []) := by show World.ownsRow _ _ _ _ _ _ _; rw [← hS0]; exact ⟨rfl, .inr ⟨W0.heap.size, 0, #[], rfl, Nat.le_refl _, heap_alloc_new W0 _, Nat.le_refl _, by decide, rfl, rfl⟩⟩
  have HR : Hid (Pts (W0.alloc (.cells #[] 107)) a n ps) := (h.kept hB0).kept hal
  have HBA : Hid (Below w.heap.size w (W0.alloc (.cells #[] 107))) := hB0.trans (hal.mono hB0.size)
  have HC : Hid (_ ∧ _) := ⟨c0, c1⟩
  have HFIN : Hid (∀ (v1 : Option Addr) (cc : Nat) (w1 : World), w1.ownsRow (w.heap.size + 2) 107 2 (.slice v1 n cc) n (flPt ps) → (W0.alloc (.cells #[] 107)).grownBy w1 (some (w.heap.size + 2)) →
      (w1.heap[w.heap.size]? = some (.cells #[.slice a n cap] 33 (0, 0)) ∧ w1.heap[w.heap.size + 1]? = some (.cells #[.slice none 0 0] 33 (0, 0))) ∧ Below w.heap.size w w1) := by
    intro v1 cc w1 ho hg
    refine ⟨⟨(hg.block w.heap.size (by omega) (fun e => by injection e; omega)).trans HC.out.1, (hg.block (w.heap.size + 1) (by omega) (fun e => by injection e; omega)).trans HC.out.2⟩, HBA.out.grown hg HBA.out.size (fun l hl => by injection hl; omega)⟩
  have HW : Hid (_ = _) := hW0
  clear hW0 h hB0 b0 hal c0 c1
  have HEND : Hid (∀ (v1 : Option Addr) (cc : Nat) (w1 : World), w1.ownsRow (w.heap.size + 2) 107 2 (.slice v1 n cc) n (flPt ps) → (w1.heap[w.heap.size]? = some (.cells #[.slice a n cap] 33 (0, 0)) ∧ w1.heap[w.heap.size + 1]? = some (.cells #[.slice none 0 0] 33 (0, 0))) → Below w.heap.size w w1 →
      ((w1.setCell ⟨w.heap.size, 0, none⟩ (.slice v1 n cc)).setCell ⟨w.heap.size + 1, 0, none⟩ (.slice v1 n cc)).heap[w.heap.size + 1]? = some (.cells #[.slice v1 n cc] 33 (0, 0)) ∧ ((w1.setCell ⟨w.heap.size, 0, none⟩ (.slice v1 n cc)).setCell ⟨w.heap.size + 1, 0, none⟩ (.slice v1 n cc)).ownsRow w.heap.size 107 2 (.slice v1 n cc) n (flPt ps) ∧ Below w.heap.size w ((w1.setCell ⟨w.heap.size, 0, none⟩ (.slice v1 n cc)).setCell ⟨w.heap.size + 1, 0, none⟩ (.slice v1 n cc))) := by
    intro v1 cc w1 ho hb hB
    have t1 := touch_setC (p := w.heap.size) (q := w.heap.size + 1) w1 w.heap.size 0 (.slice v1 n cc) (Nat.le_refl _) (Nat.lt_succ_self _)
    have t2 := touch_setC (p := w.heap.size + 1) (q := w.heap.size + 2) (w1.setCell ⟨w.heap.size, 0, none⟩ (.slice v1 n cc)) (w.heap.size + 1) 0 (.slice v1 n cc) (Nat.le_refl _) (Nat.lt_succ_self _)
    have hsz := (Array.getElem?_eq_some_iff.1 hb.2).1
    refine ⟨(heap_setCell_same _ (w.heap.size + 1) 0 _ _ _ ((t1.block (w.heap.size + 1) hsz (.inr (Nat.le_refl _))).trans hb.2)).trans rfl, owns_monoC (owns_touchC (owns_touchC ho t1 (by omega)) t2 (by omega)) (by omega), (hB.setCell (Nat.le_refl _) _).setCell (Nat.le_succ _) _⟩
  cases a with
  | none =>
    have hzn : n = 0 := by
      by_cases h0 : 0 < n
      · obtain ⟨_, _, h1, _⟩ := HR.out.get 0 h0
        cases h1
      · omega
    subst hzn
    obtain rfl := hnil rfl
    have hps : ps = [] := List.eq_nil_of_length_eq_zero HR.out.len
    subst hps
    go_enter Tryd.func74, Tryd.ntmps74
    go_upto_region 1 with fail
    rw [← HW.out]
    clear HW
    go_wp2_with (at_builtin; refine wpList_append_own_none rfl (.tmp 3) (.tmp 5) 31 rfl (w.heap.size + 2) 107 i0 2 Tryd.underlying31 hi (.slice (some ⟨w.heap.size + 2, 0, none⟩) 0 0) 0 [] rfl HO.out rfl ?_; obtain ⟨⟨d0, d1⟩, hB1⟩ := HFIN.out (some ⟨w.heap.size + 2, 0, none⟩) 0 _ HO.out (World.grownBy.refl _ _); have HE := HEND.out (some ⟨w.heap.size + 2, 0, none⟩) 0 _ HO.out ⟨d0, d1⟩ hB1; clear HFIN HEND HO HR HC HBA x1 hz1'; obtain ⟨w1x, hw1x⟩ : ∃ w1x, w1x = W0.alloc (.cells #[] 107) := ⟨_, rfl⟩; rw [← hw1x] at HE hB1 d0 d1 ⊢; clear hw1x; have HQ : Hid (_ ∧ _) := ⟨HE, hB1⟩; clear HE hB1; obtain ⟨y0, y1⟩ := cells1N d0 d1; obtain ⟨z0, z1⟩ := froz1N d0 d1)
    try simp only [Exit.inBlock, Exit.then]
    exact bodyPost_ret (results_nm rfl _ (w.heap.size + 1) rfl _ _ HQ.out.1.1) rfl ⟨_, _, rfl, HQ.out.1.2.1, HQ.out.1.2.2⟩
  | some ad =>
    have HN : Hid (∀ j u, (flPt ps)[j]? = some u → (W0.alloc (.cells #[] 107)).cell? (ad.add j) = some u) := by
      by_cases h0 : 0 < n
      · obtain ⟨b, off, ha, _⟩ := HR.out.get 0 h0
        injection ha with ha
        subst ha
        exact newsPt HR.out
      · intro j u hu
        have := (List.getElem?_eq_some_iff.1 hu).1
        rw [flPt_len, HR.out.len] at this
        omega
    have HL : Hid ((flPt ps).length = n * 2) := by show _ = _; rw [flPt_len, HR.out.len]
    go_enter Tryd.func74, Tryd.ntmps74
    go_upto_region 1 with fail
    rw [← HW.out]
    clear HW
    go_wp2_with (at_builtin; refine wpList_append_own _ rfl (.tmp 3) (.tmp 5) 31 rfl (w.heap.size + 2) 107 i0 _ 2 24 Tryd.underlying31 hi hz0 hz1 hz2 rfl (by decide) _ 0 [] rfl HO.out ad n cap (flPt ps) rfl HL.out HN.out (flPt_one ps) (by unfold maxLen; omega) (by omega) (by omega) ?_; intro v1 w1 hv1 hg1 _; rw [Nat.zero_add, List.nil_append] at hv1; obtain ⟨a1, cc1, rfl⟩ := owns_shapeP hv1; obtain ⟨⟨d0, d1⟩, hB1⟩ := HFIN.out a1 cc1 w1 hv1 hg1; have HE := HEND.out a1 cc1 w1 hv1 ⟨d0, d1⟩ hB1; have HQ : Hid (_ ∧ _) := ⟨HE, hB1⟩; clear HE hB1 hv1 hg1; obtain ⟨y0, y1⟩ := cells1N d0 d1; obtain ⟨z0, z1⟩ := froz1N d0 d1)
    try simp only [Exit.inBlock, Exit.then]
    exact bodyPost_ret (results_nm rfl _ (w.heap.size + 1) rfl _ _ HQ.out.1.1) rfl ⟨a1, cc1, rfl, HQ.out.1.2.1, HQ.out.1.2.2⟩

end Go.Proofs.YtbfjkmlmnhphoaaDoor

set_option linter.unusedVariables false
namespace Go.Proofs.YtbfjkmlmnhphoaaDoor
open Go.RowKit Go.Sort

theorem EachQ.lit (w : World) (B : Nat) (hB : B ≤ w.heap.size) (xs : List GP) (sl : Nat → Sl) : EachQ B (w.alloc (.cells #[] 63)) (some ⟨w.heap.size, 0, none⟩) 0 0 xs sl :=
  ⟨⟨rfl, .inr ⟨w.heap.size, 0, #[], rfl, hB, heap_alloc_new w _, Nat.le_refl _, by decide, rfl, rfl⟩⟩, fun j hj => absurd hj (Nat.not_lt_zero _), fun i j _ hj => absurd hj (Nat.not_lt_zero _)⟩

set_option maxRecDepth 10000 in
set_option maxHeartbeats 4000000 in
theorem l10Gones_any (a : Option Addr) (n c : Nat) (xs : List GP) (w : World) (h : Gns w a n xs) (hn : n ≤ 1048576) (hc0 : ∀ k, k < n → ∀ b off an nn cn, a = some ⟨b, off, none⟩ → w.cell? ⟨b, off + k * 4, none⟩ = some (.slice an nn cn) → (an = none → cn = 0) ∧ nn ≤ 1048576) :
    Calls Tryd.prog 45 #[.slice a n c] w fun e w' => ∃ a' c' sl, e = .returned (.slice a' n c') ∧ EachQ w.heap.size w' a' n c' xs sl ∧ (∀ j, j < n → (sl j).2.1 = (xs.getD j default).parts.length) ∧ Below w.heap.size w w' := by
  obtain ⟨i0, hi, hz0, hz1, hz2⟩ := info_parts Tryd.infoGone
  have H0 : Hid (Gns w a n xs) := h
  have HC0 : Hid (∀ k, k < n → ∀ b off an nn cn, a = some ⟨b, off, none⟩ → w.cell? ⟨b, off + k * 4, none⟩ = some (.slice an nn cn) → (an = none → cn = 0) ∧ nn ≤ 1048576) := hc0
  have hB1 : Below w.heap.size w (w.alloc (.cells #[] 63)) := (Below.refl _ _).alloc (Nat.le_refl _) _
  clear h hc0
  go_enter Tryd.func45, Tryd.ntmps45
  go_wp2
  go_loopw [3, 4] (fun o i wr => ∃ (k : Nat) (ao : Option Addr) (cc : Nat), k ≤ n ∧ i = .int .i64 k ∧ o = .slice ao k cc ∧ Hid (∃ sl, EachQ w.heap.size wr ao k cc xs sl ∧ ∀ j, j < k → (sl j).2.1 = (xs.getD j default).parts.length) ∧ Below w.heap.size w wr) (fun _ i _ => n - (intOf i).toNat)
  case atStart => exact ⟨0, _, 0, Nat.zero_le _, rfl, rfl, ⟨fun _ => (none, 0, 0), EachQ.lit w w.heap.size (Nat.le_refl _) _ _, fun j hj => absurd hj (Nat.not_lt_zero _)⟩, hB1⟩
  case round =>
    obtain ⟨k, ao, cc, hk, rfl, rfl, HO, hbr⟩ := hrel
    have hws := hbr.size
    by_cases hlt : k < n
    · obtain ⟨b, off, a1, n1, d1, rfl, hlb, hc, hp⟩ := H0.out.get k hlt
      obtain ⟨hnl, hn1⟩ := HC0.out k hlt b off a1 n1 d1 rfl hc.c0
      obtain ⟨y, hy⟩ : ∃ y, y = xs.getD k default := ⟨_, rfl⟩
      rw [← hy] at hc hp
      have HY : Hid (y = xs.getD k default) := hy
      obtain ⟨c0, c1, c2, c3⟩ := hc.of (w' := wr) (fun i => hbr.cell (p := ⟨b, i, none⟩) hlb)
      have hkni : (k : Int) < (n : Int) := by omega
      have hbw : b < wr.heap.size := by omega
      have HPL : Hid (y.parts.length = n1) := hp.len
      have HRW : Hid (Pts wr a1 n1 y.parts) := hp.kept hbr
      clear hc hy hp
      obtain ⟨W1, hW1⟩ : ∃ W1, W1 = wr.alloc (.cells #[.slice a1 n1 d1, .int .i64 y.ser, .int .i64 y.tm, .int .i64 y.rs] 63) := ⟨_, rfl⟩
      have hb01 : Below wr.heap.size wr W1 := by rw [hW1]; exact (Below.refl _ _).alloc (Nat.le_refl _) _
      have hx1 : W1.heap[wr.heap.size]? = some (.cells #[.slice a1 n1 d1, .int .i64 y.ser, .int .i64 y.tm, .int .i64 y.rs] 63 (0, 0)) := by rw [hW1]; exact heap_alloc_new wr _
      have hs1 : W1.heap.size = wr.heap.size + 1 := by rw [hW1]; simp
      have HW1 : Hid (_ = _) := hW1
      have HB01 : Hid (_) := hb01
      have HX1 : Hid (_ = _) := hx1
      clear hW1 hx1 hb01
      go_upto_region 6 with fail
      rw [← HW1.out]
      clear HW1 c0 c1 c2 c3
      have e0 : W1.cell? ⟨wr.heap.size, 0, none⟩ = some (.slice a1 n1 d1) := (cell_of_row _ _ 0 _ _ (0, 0) HX1.out).trans rfl
      go_wp2_with fail
      refine (l9CopyName_any a1 n1 d1 y.parts W1 (HRW.out.kept HB01.out) hnl hn1).mono ?_
      rintro e w2 ⟨a2, cc2, rfl, ho2, hb2⟩
      have hx2 := (hb2.block wr.heap.size (by omega)).trans HX1.out
      have f0 : w2.cell? ⟨wr.heap.size, 0, none⟩ = some (.slice a1 n1 d1) := (cell_of_row _ _ 0 _ _ (0, 0) hx2).trans rfl
      have fz : w2.frozen? ⟨wr.heap.size, 0, none⟩ = false := frozen_of_row w2 wr.heap.size 0 _ 63 hx2
      obtain ⟨w3, hw3⟩ : ∃ w3, w3 = w2.setCell ⟨wr.heap.size, 0, none⟩ (.slice a2 n1 cc2) := ⟨_, rfl⟩
      have t3 : Touch wr.heap.size (wr.heap.size + 1) w2 w3 := by rw [hw3]; exact touch_setC _ _ _ _ (Nat.le_refl _) (Nat.lt_succ_self _)
      have hx3 : w3.heap[wr.heap.size]? = some (.cells #[.slice a2 n1 cc2, .int .i64 y.ser, .int .i64 y.tm, .int .i64 y.rs] 63 (0, 0)) := by rw [hw3]; exact (heap_setCell_same w2 wr.heap.size 0 _ 63 _ hx2).trans rfl
      have hb03 : Below wr.heap.size wr w3 := (HB01.out.trans (hb2.mono HB01.out.size)).trans (t3.below (Nat.le_refl _) (HB01.out.trans (hb2.mono HB01.out.size)).size)
      have ho3 : w3.ownsRow w.heap.size 107 2 (.slice a2 n1 cc2) n1 (flPt y.parts) := owns_monoC (owns_touchC ho2 t3 (by omega)) (by omega)
      have B3 : Below w.heap.size w w3 := hbr.trans (hb03.mono hws)
      obtain ⟨sl, hps, hcn⟩ := HO.out
      have HAP : Hid (∀ j, j < k → ∀ g, (sl j).1 = some ⟨g, 0, none⟩ → a2 ≠ some ⟨g, 0, none⟩) := by
        intro j hj g h1 h2
        have e1 := (ownsRow_in (hps.each j hj) g h1).2
        have e2 := (ownsRow_in ho2 g h2).1
        omega
      have hal : Below w3.heap.size w3 (w3.alloc (.cells #[.slice a2 n1 cc2, .int .i64 y.ser, .int .i64 y.tm, .int .i64 y.rs] 63)) := (Below.refl _ _).alloc (Nat.le_refl _) _
      have HQ3 : Hid (EachQ w.heap.size (w3.alloc (.cells #[.slice a2 n1 cc2, .int .i64 y.ser, .int .i64 y.tm, .int .i64 y.rs] 63)) ao k cc xs sl) := (hps.below hb03).below hal
      have HON : Hid ((w3.alloc (.cells #[.slice a2 n1 cc2, .int .i64 y.ser, .int .i64 y.tm, .int .i64 y.rs] 63)).ownsRow w.heap.size 107 2 (.slice a2 n1 cc2) n1 (flPt (xs.getD k default).parts)) := by
        show World.ownsRow _ _ _ _ _ _ _
        rw [← HY.out]
        exact ownsRow_below ho3 hal
      have B6 : Below w.heap.size w (w3.alloc (.cells #[.slice a2 n1 cc2, .int .i64 y.ser, .int .i64 y.tm, .int .i64 y.rs] 63)) := B3.trans (hal.mono B3.size)
      have HCN : Hid (∀ j, j < k → (sl j).2.1 = (xs.getD j default).parts.length) := hcn
      have HAPP : Hid (∀ a7 c7 w7, w7.ownsRow w.heap.size 63 4 (.slice a7 (k + 1) c7) (k + 1) (flG xs sl k ++ [.slice a2 n1 cc2, .int .i64 y.ser, .int .i64 y.tm, .int .i64 y.rs]) → (w3.alloc (.cells #[.slice a2 n1 cc2, .int .i64 y.ser, .int .i64 y.tm, .int .i64 y.rs] 63)).grownBy w7 (Value.slice ao k cc).ownBlock → (∃ sl, EachQ w.heap.size w7 a7 (k + 1) c7 xs sl ∧ ∀ j, j < k + 1 → (sl j).2.1 = (xs.getD j default).parts.length) ∧ Below w.heap.size w w7) := by
        intro a7 c7 w7 hv7 hg7
        rw [HY.out] at hv7
        refine ⟨⟨_, HQ3.out.appended HON.out HAP.out hv7 hg7, fun j hj => ?_⟩, B6.grown hg7 B6.size (fun kx hx => (HQ3.out.row.lt kx hx).1)⟩
        by_cases e : j = k
        · simp only [if_pos e]
          rw [e, ← HY.out]
          exact HPL.out.symm
        · simp only [if_neg e]
          exact HCN.out j (by omega)
      have hw3s : w.heap.size ≤ w3.heap.size := B3.size
      have HW3 : Hid (_ = _) := hw3
      have HX3 : Hid (_ = _) := hx3
      clear ho2 hb2 hb03 t3 B3 hal hps hcn HO hw3 hx2 hx3 ho3 HB01 HX1 e0 hs1 B6
      go_upto_region 7 with fail
      rw [← HW3.out]
      clear HW3 f0 fz
      have g0 : w3.cell? ⟨wr.heap.size, 0, none⟩ = some (.slice a2 n1 cc2) := (cell_of_row _ _ 0 _ _ (0, 0) HX3.out).trans rfl
      have g1 : w3.cell? ⟨wr.heap.size, 1, none⟩ = some (.int .i64 y.ser) := (cell_of_row _ _ 1 _ _ (0, 0) HX3.out).trans rfl
      have g2 : w3.cell? ⟨wr.heap.size, 2, none⟩ = some (.int .i64 y.tm) := (cell_of_row _ _ 2 _ _ (0, 0) HX3.out).trans rfl
      have g3 : w3.cell? ⟨wr.heap.size, 3, none⟩ = some (.int .i64 y.rs) := (cell_of_row _ _ 3 _ _ (0, 0) HX3.out).trans rfl
      go_wp2_with (at_builtin; refine wpList_append_own _ rfl (.tmp 21) (.tmp 23) 34 rfl w.heap.size 63 i0 _ 4 48 Tryd.underlying34 hi hz0 hz1 hz2 rfl (by decide) _ k _ rfl HQ3.out.row ⟨w3.heap.size, 0, none⟩ 1 1 [.slice a2 n1 cc2, .int .i64 y.ser, .int .i64 y.tm, .int .i64 y.rs] rfl rfl (World.news_of_block (heap_alloc_new w3 (.cells #[.slice a2 n1 cc2, .int .i64 y.ser, .int .i64 y.tm, .int .i64 y.rs] 63))) (by intro u hu; simp only [List.mem_cons, List.not_mem_nil, or_false] at hu; rcases hu with rfl | rfl | rfl | rfl <;> rfl) (by unfold maxLen; omega) (by omega) (by simp; omega) ?_; intro v7 w7 hv7 hg7 hs7; obtain ⟨g7, c7, rfl⟩ := ownsRow_succG hv7; have HN7 := HAPP.out _ c7 w7 hv7 hg7; have HO7 : Hid (_) := HN7.1; have B7 := HN7.2; clear hv7 hg7 hs7 HN7 HAPP HQ3 HON)
      go_roundw
      case rel => exact ⟨k + 1, _, c7, by omega, by go_num, rfl, HO7, B7⟩
      case measure => simp [intOf]; omega
    · obtain rfl : k = n := by omega
      go_wp2
      go_ret
      obtain ⟨sl, h1, h2⟩ := HO.out
      exact ⟨ao, cc, sl, rfl, h1, h2, hbr⟩

end Go.Proofs.YtbfjkmlmnhphoaaDoor
