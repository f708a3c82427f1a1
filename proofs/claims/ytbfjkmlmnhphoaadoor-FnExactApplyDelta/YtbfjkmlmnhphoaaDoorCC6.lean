import Derived.Test.YtbfjkmlmnhphoaaDoorGCC4CC5
set_option linter.unusedVariables false
namespace Go.Proofs.YtbfjkmlmnhphoaaDoor
open Go.RowKit Go.Sort

theorem fit2 {x y : CP} (h : ¬ sameP x.parts y.parts ∨ x.scope ≠ y.scope ∨ x.ind ≠ y.ind) : fitV x y = 2 := by unfold fitV; rw [if_pos h]
theorem fit3 {x y : CP} (h1 : sameP x.parts y.parts) (h2 : x.scope = y.scope) (h3 : x.ind = y.ind) (h : y.num ≤ x.num) : fitV x y = 3 := by
  unfold fitV
  rw [if_neg (fun q => q.elim (fun q => q h1) (fun q => q.elim (fun q => q h2) (fun q => q h3))), if_pos h]
theorem fit0 {x y : CP} (h1 : sameP x.parts y.parts) (h2 : x.scope = y.scope) (h3 : x.ind = y.ind) (h : ¬ y.num ≤ x.num) : fitV x y = 0 := by
  unfold fitV
  rw [if_neg (fun q => q.elim (fun q => q h1) (fun q => q.elim (fun q => q h2) (fun q => q h3))), if_neg h]

set_option maxRecDepth 10000 in
set_option maxHeartbeats 4000000 in
theorem l10Fit_any (ax1 : Option Addr) (nx1 cx1 : Nat) (ax2 : Option Addr) (nx2 cx2 : Nat) (ax3 : Option Addr) (nx3 cx3 : Nat) (x : CP) (ay1 : Option Addr) (ny1 cy1 : Nat) (ay2 : Option Addr) (ny2 cy2 : Nat) (ay3 : Option Addr) (ny3 cy3 : Nat) (y : CP) (w : World)
    (h : Pts w ax1 nx1 x.parts) (h2 : Pts w ay1 ny1 y.parts) (hz : ∀ k, k < nx1 → (x.parts.getD k default).val.size ≤ 1048576) (hz2 : ∀ k, k < ny1 → (y.parts.getD k default).val.size ≤ 1048576) :
    Calls Tryd.prog 42 #[crv ax1 nx1 cx1 ax2 nx2 cx2 ax3 nx3 cx3 x, crv ay1 ny1 cy1 ay2 ny2 cy2 ay3 ny3 cy3 y] w fun e w' => e = .returned (.int .i64 (fitV x y)) ∧ Below w.heap.size w w' := by
  unfold crv
  obtain ⟨p, hp⟩ : ∃ p, p = x.ind := ⟨_, rfl⟩
  obtain ⟨q, hq⟩ : ∃ q, q = y.ind := ⟨_, rfl⟩
  rw [← hp, ← hq]
  have HP : Hid (p = x.ind) := hp
  have HQ : Hid (q = y.ind) := hq
  clear hp hq
  obtain ⟨W, hW⟩ : ∃ W, W = (w.alloc (.cells #[.slice ax1 nx1 cx1, .int .i64 x.num, .int .i64 x.base, .int .i64 x.tm, .int .i64 x.next, .int .i64 x.scope, .bool p, .slice ax2 nx2 cx2, .slice ax3 nx3 cx3] 36)).alloc (.cells #[.slice ay1 ny1 cy1, .int .i64 y.num, .int .i64 y.base, .int .i64 y.tm, .int .i64 y.next, .int .i64 y.scope, .bool q, .slice ay2 ny2 cy2, .slice ay3 ny3 cy3] 36) := ⟨_, rfl⟩
  have hB : Below w.heap.size w W := by rw [hW]; exact two_below w _ _
  have hbx := two_blocks w (.cells #[.slice ax1 nx1 cx1, .int .i64 x.num, .int .i64 x.base, .int .i64 x.tm, .int .i64 x.next, .int .i64 x.scope, .bool p, .slice ax2 nx2 cx2, .slice ax3 nx3 cx3] 36) (.cells #[.slice ay1 ny1 cy1, .int .i64 y.num, .int .i64 y.base, .int .i64 y.tm, .int .i64 y.next, .int .i64 y.scope, .bool q, .slice ay2 ny2 cy2, .slice ay3 ny3 cy3] 36)
  rw [← hW] at hbx
  have HB0 : Hid (W.heap[w.heap.size]? = some (.cells #[.slice ax1 nx1 cx1, .int .i64 x.num, .int .i64 x.base, .int .i64 x.tm, .int .i64 x.next, .int .i64 x.scope, .bool p, .slice ax2 nx2 cx2, .slice ax3 nx3 cx3] 36 (0, 0))) := hbx.1
  have HB1 : Hid (W.heap[w.heap.size + 1]? = some (.cells #[.slice ay1 ny1 cy1, .int .i64 y.num, .int .i64 y.base, .int .i64 y.tm, .int .i64 y.next, .int .i64 y.scope, .bool q, .slice ay2 ny2 cy2, .slice ay3 ny3 cy3] 36 (0, 0))) := hbx.2
  have HBB : Hid (Below w.heap.size w W) := hB
  have SN : Hid (_) := specSameName_any ax1 nx1 cx1 x.parts ay1 ny1 cy1 y.parts W (h.kept hB) (h2.kept hB) hz hz2
  have HWW : Hid (_ = _) := hW
  clear hB hbx hW h h2 hz hz2
  unfold nmv at SN
  go_enter Tryd.func42, Tryd.ntmps42
  go_upto_region 1 with fail
  rw [← HWW.out]
  clear HWW
  have a0 : W.cell? ⟨w.heap.size, 0, none⟩ = some (.slice ax1 nx1 cx1) := (cell_of_row _ _ 0 _ _ (0, 0) HB0.out).trans rfl
  have a1 : W.cell? ⟨w.heap.size, 1, none⟩ = some (.int .i64 x.num) := (cell_of_row _ _ 1 _ _ (0, 0) HB0.out).trans rfl
  have a5 : W.cell? ⟨w.heap.size, 5, none⟩ = some (.int .i64 x.scope) := (cell_of_row _ _ 5 _ _ (0, 0) HB0.out).trans rfl
  have a6 : W.cell? ⟨w.heap.size, 6, none⟩ = some (.bool p) := (cell_of_row _ _ 6 _ _ (0, 0) HB0.out).trans rfl
  have b0 : W.cell? ⟨w.heap.size + 1, 0, none⟩ = some (.slice ay1 ny1 cy1) := (cell_of_row _ _ 0 _ _ (0, 0) HB1.out).trans rfl
  have b1 : W.cell? ⟨w.heap.size + 1, 1, none⟩ = some (.int .i64 y.num) := (cell_of_row _ _ 1 _ _ (0, 0) HB1.out).trans rfl
  have b5 : W.cell? ⟨w.heap.size + 1, 5, none⟩ = some (.int .i64 y.scope) := (cell_of_row _ _ 5 _ _ (0, 0) HB1.out).trans rfl
  have b6 : W.cell? ⟨w.heap.size + 1, 6, none⟩ = some (.bool q) := (cell_of_row _ _ 6 _ _ (0, 0) HB1.out).trans rfl
  go_cut [24] (fun c wx => ∃ b : Bool, c = .bool b ∧ Hid ((b = true ↔ (¬ sameP x.parts y.parts ∨ x.scope ≠ y.scope ∨ p ≠ q)) ∧ Below W.heap.size W wx))
  case first =>
    go_wp2_with fail
    refine Calls.mono SN.out ?_
    rintro e w1 ⟨bs, rfl, hbs, hb1⟩
    have HF : Hid (_ ∧ _) := ⟨hbs.out, hb1⟩
    have hs := (Array.getElem?_eq_some_iff.1 HB1.out).1
    have a5' : w1.cell? ⟨w.heap.size, 5, none⟩ = some (.int .i64 x.scope) := (hb1.cell (p := ⟨w.heap.size, 5, none⟩) (show w.heap.size < W.heap.size by omega)).trans a5
    have a6' : w1.cell? ⟨w.heap.size, 6, none⟩ = some (.bool p) := (hb1.cell (p := ⟨w.heap.size, 6, none⟩) (show w.heap.size < W.heap.size by omega)).trans a6
    have b5' : w1.cell? ⟨w.heap.size + 1, 5, none⟩ = some (.int .i64 y.scope) := (hb1.cell (p := ⟨w.heap.size + 1, 5, none⟩) hs).trans b5
    have b6' : w1.cell? ⟨w.heap.size + 1, 6, none⟩ = some (.bool q) := (hb1.cell (p := ⟨w.heap.size + 1, 6, none⟩) hs).trans b6
    clear hbs hb1 a5 a6 b5 b6
    cases bs with
    | false =>
      go_wp2_with fail
      go_meet
      exact ⟨true, rfl, ⟨⟨fun _ => .inl (fun e => absurd (HF.out.1.2 e) (by decide)), fun _ => rfl⟩, HF.out.2⟩⟩
    | true =>
      by_cases h2 : x.scope = y.scope
      · have z2 : (x.scope != y.scope) = false := by simp [h2]
        have H2 : Hid (x.scope = y.scope) := h2
        clear h2
        cases p <;> cases q
        · go_wp2_with fail
          go_meet
          exact ⟨false, rfl, ⟨⟨fun e => (by cases e), fun e => e.elim (fun e => absurd (HF.out.1.1 (by first | rfl | trivial)) e) (fun e => e.elim (fun e => absurd H2.out e) (fun e => absurd rfl e))⟩, HF.out.2⟩⟩
        · go_wp2_with fail
          go_meet
          exact ⟨true, rfl, ⟨⟨fun _ => .inr (.inr (by decide)), fun _ => rfl⟩, HF.out.2⟩⟩
        · go_wp2_with fail
          go_meet
          exact ⟨true, rfl, ⟨⟨fun _ => .inr (.inr (by decide)), fun _ => rfl⟩, HF.out.2⟩⟩
        · go_wp2_with fail
          go_meet
          exact ⟨false, rfl, ⟨⟨fun e => (by cases e), fun e => e.elim (fun e => absurd (HF.out.1.1 (by first | rfl | trivial)) e) (fun e => e.elim (fun e => absurd H2.out e) (fun e => absurd rfl e))⟩, HF.out.2⟩⟩
      · have z2 : (x.scope != y.scope) = true := by simp [h2]
        have H2 : Hid (x.scope ≠ y.scope) := h2
        clear h2
        go_wp2_with fail
        go_meet
        exact ⟨true, rfl, ⟨⟨fun _ => .inr (.inl H2.out), fun _ => rfl⟩, HF.out.2⟩⟩
  case rest =>
  obtain ⟨b, rfl, hb⟩ := hcut
  obtain ⟨hb1, hb2⟩ := hb.out
  have hs := (Array.getElem?_eq_some_iff.1 HB1.out).1
  have a1' : wc.cell? ⟨w.heap.size, 1, none⟩ = some (.int .i64 x.num) := (hb2.cell (p := ⟨w.heap.size, 1, none⟩) (show w.heap.size < W.heap.size by omega)).trans a1
  have b1' : wc.cell? ⟨w.heap.size + 1, 1, none⟩ = some (.int .i64 y.num) := (hb2.cell (p := ⟨w.heap.size + 1, 1, none⟩) hs).trans b1
  have HFB : Hid (Below w.heap.size w wc) := HBB.out.trans (hb2.mono HBB.out.size)
  rw [HP.out, HQ.out] at hb1
  clear hb hb2 a0 a1 a5 a6 b0 b1 b5 b6 SN
  cases b with
  | true =>
    have HV : Hid (fitV x y = 2) := fit2 (hb1.1 rfl)
    clear hb1
    go_wp2
    go_ret
    rw [HV.out]
    exact ⟨rfl, HFB.out⟩
  | false =>
    have h1 : sameP x.parts y.parts := Classical.byContradiction fun e => absurd (hb1.2 (.inl e)) (by decide)
    have h2 : x.scope = y.scope := Classical.byContradiction fun e => absurd (hb1.2 (.inr (.inl e))) (by decide)
    have h3 : x.ind = y.ind := Classical.byContradiction fun e => absurd (hb1.2 (.inr (.inr e))) (by decide)
    by_cases hn : y.num ≤ x.num
    · have HV : Hid (fitV x y = 3) := fit3 h1 h2 h3 hn
      clear hb1 h1 h2 h3
      go_wp2
      go_ret
      rw [HV.out]
      exact ⟨rfl, HFB.out⟩
    · have HV : Hid (fitV x y = 0) := fit0 h1 h2 h3 hn
      clear hb1 h1 h2 h3
      go_wp2
      go_ret
      rw [HV.out]
      exact ⟨rfl, HFB.out⟩

set_option maxRecDepth 10000 in
set_option maxHeartbeats 4000000 in
theorem followCode_any (ax1 : Option Addr) (nx1 cx1 : Nat) (ax2 : Option Addr) (nx2 cx2 : Nat) (ax3 : Option Addr) (nx3 cx3 : Nat) (x : CP) (ay1 : Option Addr) (ny1 cy1 : Nat) (ay2 : Option Addr) (ny2 cy2 : Nat) (ay3 : Option Addr) (ny3 cy3 : Nat) (y : CP) (w : World)
    (h : Pts w ax1 nx1 x.parts) (h2 : Pts w ay1 ny1 y.parts) (hz : ∀ k, k < nx1 → (x.parts.getD k default).val.size ≤ 1048576) (hz2 : ∀ k, k < ny1 → (y.parts.getD k default).val.size ≤ 1048576) :
    Calls Tryd.prog 47 #[crv ax1 nx1 cx1 ax2 nx2 cx2 ax3 nx3 cx3 x, crv ay1 ny1 cy1 ay2 ny2 cy2 ay3 ny3 cy3 y] w fun e w' => e = .returned (.int .i64 (fitV x y)) ∧ Below w.heap.size w w' := by
  unfold crv
  obtain ⟨p, hp⟩ : ∃ p, p = x.ind := ⟨_, rfl⟩
  obtain ⟨q, hq⟩ : ∃ q, q = y.ind := ⟨_, rfl⟩
  rw [← hp, ← hq]
  have HP : Hid (p = x.ind) := hp
  have HQ : Hid (q = y.ind) := hq
  clear hp hq
  obtain ⟨W, hW⟩ : ∃ W, W = (w.alloc (.cells #[.slice ax1 nx1 cx1, .int .i64 x.num, .int .i64 x.base, .int .i64 x.tm, .int .i64 x.next, .int .i64 x.scope, .bool p, .slice ax2 nx2 cx2, .slice ax3 nx3 cx3] 36)).alloc (.cells #[.slice ay1 ny1 cy1, .int .i64 y.num, .int .i64 y.base, .int .i64 y.tm, .int .i64 y.next, .int .i64 y.scope, .bool q, .slice ay2 ny2 cy2, .slice ay3 ny3 cy3] 36) := ⟨_, rfl⟩
  have hB : Below w.heap.size w W := by rw [hW]; exact two_below w _ _
  have hbx := two_blocks w (.cells #[.slice ax1 nx1 cx1, .int .i64 x.num, .int .i64 x.base, .int .i64 x.tm, .int .i64 x.next, .int .i64 x.scope, .bool p, .slice ax2 nx2 cx2, .slice ax3 nx3 cx3] 36) (.cells #[.slice ay1 ny1 cy1, .int .i64 y.num, .int .i64 y.base, .int .i64 y.tm, .int .i64 y.next, .int .i64 y.scope, .bool q, .slice ay2 ny2 cy2, .slice ay3 ny3 cy3] 36)
  rw [← hW] at hbx
  have HB0 : Hid (W.heap[w.heap.size]? = some (.cells #[.slice ax1 nx1 cx1, .int .i64 x.num, .int .i64 x.base, .int .i64 x.tm, .int .i64 x.next, .int .i64 x.scope, .bool p, .slice ax2 nx2 cx2, .slice ax3 nx3 cx3] 36 (0, 0))) := hbx.1
  have HB1 : Hid (W.heap[w.heap.size + 1]? = some (.cells #[.slice ay1 ny1 cy1, .int .i64 y.num, .int .i64 y.base, .int .i64 y.tm, .int .i64 y.next, .int .i64 y.scope, .bool q, .slice ay2 ny2 cy2, .slice ay3 ny3 cy3] 36 (0, 0))) := hbx.2
  have HBB : Hid (Below w.heap.size w W) := hB
  have SN : Hid (_) := implSameName_any ax1 nx1 cx1 x.parts ay1 ny1 cy1 y.parts W (h.kept hB) (h2.kept hB) hz hz2
  have HWW : Hid (_ = _) := hW
  clear hB hbx hW h h2 hz hz2
  unfold nmv at SN
  go_enter Tryd.func47, Tryd.ntmps47
  go_upto_region 1 with fail
  rw [← HWW.out]
  clear HWW
  have a0 : W.cell? ⟨w.heap.size, 0, none⟩ = some (.slice ax1 nx1 cx1) := (cell_of_row _ _ 0 _ _ (0, 0) HB0.out).trans rfl
  have a1 : W.cell? ⟨w.heap.size, 1, none⟩ = some (.int .i64 x.num) := (cell_of_row _ _ 1 _ _ (0, 0) HB0.out).trans rfl
  have a5 : W.cell? ⟨w.heap.size, 5, none⟩ = some (.int .i64 x.scope) := (cell_of_row _ _ 5 _ _ (0, 0) HB0.out).trans rfl
  have a6 : W.cell? ⟨w.heap.size, 6, none⟩ = some (.bool p) := (cell_of_row _ _ 6 _ _ (0, 0) HB0.out).trans rfl
  have b0 : W.cell? ⟨w.heap.size + 1, 0, none⟩ = some (.slice ay1 ny1 cy1) := (cell_of_row _ _ 0 _ _ (0, 0) HB1.out).trans rfl
  have b1 : W.cell? ⟨w.heap.size + 1, 1, none⟩ = some (.int .i64 y.num) := (cell_of_row _ _ 1 _ _ (0, 0) HB1.out).trans rfl
  have b5 : W.cell? ⟨w.heap.size + 1, 5, none⟩ = some (.int .i64 y.scope) := (cell_of_row _ _ 5 _ _ (0, 0) HB1.out).trans rfl
  have b6 : W.cell? ⟨w.heap.size + 1, 6, none⟩ = some (.bool q) := (cell_of_row _ _ 6 _ _ (0, 0) HB1.out).trans rfl
  go_cut [24] (fun c wx => ∃ b : Bool, c = .bool b ∧ Hid ((b = true ↔ (¬ sameP x.parts y.parts ∨ x.scope ≠ y.scope ∨ p ≠ q)) ∧ Below W.heap.size W wx))
  case first =>
    go_wp2_with fail
    refine Calls.mono SN.out ?_
    rintro e w1 ⟨bs, rfl, hbs, hb1⟩
    have HF : Hid (_ ∧ _) := ⟨hbs.out, hb1⟩
    have hs := (Array.getElem?_eq_some_iff.1 HB1.out).1
    have a5' : w1.cell? ⟨w.heap.size, 5, none⟩ = some (.int .i64 x.scope) := (hb1.cell (p := ⟨w.heap.size, 5, none⟩) (show w.heap.size < W.heap.size by omega)).trans a5
    have a6' : w1.cell? ⟨w.heap.size, 6, none⟩ = some (.bool p) := (hb1.cell (p := ⟨w.heap.size, 6, none⟩) (show w.heap.size < W.heap.size by omega)).trans a6
    have b5' : w1.cell? ⟨w.heap.size + 1, 5, none⟩ = some (.int .i64 y.scope) := (hb1.cell (p := ⟨w.heap.size + 1, 5, none⟩) hs).trans b5
    have b6' : w1.cell? ⟨w.heap.size + 1, 6, none⟩ = some (.bool q) := (hb1.cell (p := ⟨w.heap.size + 1, 6, none⟩) hs).trans b6
    clear hbs hb1 a5 a6 b5 b6
    cases bs with
    | false =>
      go_wp2_with fail
      go_meet
      exact ⟨true, rfl, ⟨⟨fun _ => .inl (fun e => absurd (HF.out.1.2 e) (by decide)), fun _ => rfl⟩, HF.out.2⟩⟩
    | true =>
      by_cases h2 : x.scope = y.scope
      · have z2 : (x.scope != y.scope) = false := by simp [h2]
        have H2 : Hid (x.scope = y.scope) := h2
        clear h2
        cases p <;> cases q
        · go_wp2_with fail
          go_meet
          exact ⟨false, rfl, ⟨⟨fun e => (by cases e), fun e => e.elim (fun e => absurd (HF.out.1.1 (by first | rfl | trivial)) e) (fun e => e.elim (fun e => absurd H2.out e) (fun e => absurd rfl e))⟩, HF.out.2⟩⟩
        · go_wp2_with fail
          go_meet
          exact ⟨true, rfl, ⟨⟨fun _ => .inr (.inr (by decide)), fun _ => rfl⟩, HF.out.2⟩⟩
        · go_wp2_with fail
          go_meet
          exact ⟨true, rfl, ⟨⟨fun _ => .inr (.inr (by decide)), fun _ => rfl⟩, HF.out.2⟩⟩
        · go_wp2_with fail
          go_meet
          exact ⟨false, rfl, ⟨⟨fun e => (by cases e), fun e => e.elim (fun e => absurd (HF.out.1.1 (by first | rfl | trivial)) e) (fun e => e.elim (fun e => absurd H2.out e) (fun e => absurd rfl e))⟩, HF.out.2⟩⟩
      · have z2 : (x.scope != y.scope) = true := by simp [h2]
        have H2 : Hid (x.scope ≠ y.scope) := h2
        clear h2
        go_wp2_with fail
        go_meet
        exact ⟨true, rfl, ⟨⟨fun _ => .inr (.inl H2.out), fun _ => rfl⟩, HF.out.2⟩⟩
  case rest =>
  obtain ⟨b, rfl, hb⟩ := hcut
  obtain ⟨hb1, hb2⟩ := hb.out
  have hs := (Array.getElem?_eq_some_iff.1 HB1.out).1
  have a1' : wc.cell? ⟨w.heap.size, 1, none⟩ = some (.int .i64 x.num) := (hb2.cell (p := ⟨w.heap.size, 1, none⟩) (show w.heap.size < W.heap.size by omega)).trans a1
  have b1' : wc.cell? ⟨w.heap.size + 1, 1, none⟩ = some (.int .i64 y.num) := (hb2.cell (p := ⟨w.heap.size + 1, 1, none⟩) hs).trans b1
  have HFB : Hid (Below w.heap.size w wc) := HBB.out.trans (hb2.mono HBB.out.size)
  rw [HP.out, HQ.out] at hb1
  clear hb hb2 a0 a1 a5 a6 b0 b1 b5 b6 SN
  cases b with
  | true =>
    have HV : Hid (fitV x y = 2) := fit2 (hb1.1 rfl)
    clear hb1
    go_wp2
    go_ret
    rw [HV.out]
    exact ⟨rfl, HFB.out⟩
  | false =>
    have h1 : sameP x.parts y.parts := Classical.byContradiction fun e => absurd (hb1.2 (.inl e)) (by decide)
    have h2 : x.scope = y.scope := Classical.byContradiction fun e => absurd (hb1.2 (.inr (.inl e))) (by decide)
    have h3 : x.ind = y.ind := Classical.byContradiction fun e => absurd (hb1.2 (.inr (.inr e))) (by decide)
    by_cases hn : y.num ≤ x.num
    · have HV : Hid (fitV x y = 3) := fit3 h1 h2 h3 hn
      clear hb1 h1 h2 h3
      go_wp2
      go_ret
      rw [HV.out]
      exact ⟨rfl, HFB.out⟩
    · have HV : Hid (fitV x y = 0) := fit0 h1 h2 h3 hn
      clear hb1 h1 h2 h3
      go_wp2
      go_ret
      rw [HV.out]
      exact ⟨rfl, HFB.out⟩

end Go.Proofs.YtbfjkmlmnhphoaaDoor
