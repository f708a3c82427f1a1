import Derived.Test.YtdkgilkjcndonaaPL9e
namespace Go.Proofs.Ytdkgilkjcndonaa
open Go.RowKit Go.Maps

theorem chain_ok (ap : Option Addr) (np cp : Nat) (ac : Option Addr) (cc bm : Nat) (xs : List PC) (q0 m0 a0 : Int) (hnp : np ≤ 8) : ∀ m i, i + m = np → m ≠ 0 → ChainOk ap np cp ac cc bm xs q0 m0 a0 m i
  | 0, _, _, h => absurd rfl h
  | m + 1, i, h, _ => chainsFrom_of ap np cp ac cc bm xs q0 m0 a0 m i h hnp (countChains_of ap np cp ac cc bm xs q0 m0 a0 m i h hnp (fun hm => chain_ok ap np cp ac cc bm xs q0 m0 a0 hnp m (i + 1) (by omega) hm))

/-- A flag that says P; only the walk's own map has turned. -/
def HoR (w : World) (bm n t : Nat) (f : Nat → Int → Int) (P : Prop) (e : Ending) (w' : World) : Prop := ∃ b, e = .returned (.bool b) ∧ Hid (b = true ↔ P) ∧ MapAt w' bm (n + t) f ∧ Touch bm (bm + 1) w w'

set_option maxRecDepth 10000 in
set_option maxHeartbeats 2000000 in
theorem holds_any (ap : Option Addr) (np cp : Nat) (ac : Option Addr) (cc bm : Nat) (xs : List PC) (q0 m0 a0 p : Int) (w : World) (n : Nat) (hW : WkAt w ap np ac xs q0 m0 a0) (hM : MapAt w bm n (fun i q => chn xs m0 a0 (np - i) i q)) (hn : n + tn np ≤ 1000000000000) :
    Calls Try.prog 34 #[walkV ap np cp ac (np + 1) cc bm, .int .i64 p] w (HoR w bm n (tn np) (fun i q => chn xs m0 a0 (np - i) i q) ((1 ≤ p ∧ p ≤ 1000) ∧ 0 < chn xs m0 a0 np 0 p)) := by
  have HW : Hid (WkAt w ap np ac xs q0 m0 a0) := hW
  have hnp := hW.le
  have HCH : Hid (∀ (w : World), 0 ≤ p → p ≤ 1000 → WkAt w ap np ac xs q0 m0 a0 → MapAt w bm n (fun i q => chn xs m0 a0 (np - i) i q) → Calls Try.prog 58 #[.agg #[.slice ap np cp, .slice ac (np + 1) cc, .map (some bm)], .int .i64 0, .int .i64 p] w (ChR w bm n (tn np) (fun i q => chn xs m0 a0 (np - i) i q) (chn xs m0 a0 np 0 p))) := fun w h0 h1 hw hm => chain_ok ap np cp ac cc bm xs q0 m0 a0 hnp.2 np 0 (by omega) (by omega) p w n h0 h1 hw hm hn
  obtain ⟨f, hf⟩ : ∃ f : Nat → Int → Int, f = fun i q => chn xs m0 a0 (np - i) i q := ⟨_, rfl⟩
  rw [← hf] at HCH hM ⊢
  obtain ⟨v, hv⟩ : ∃ v, v = chn xs m0 a0 np 0 p := ⟨_, rfl⟩
  rw [← hv] at HCH ⊢
  have HM : Hid (MapAt w bm n f) := hM
  clear hf hv hW hM
  unfold walkV
  obtain ⟨w1, hw1⟩ : ∃ w1, w1 = w.alloc (.cells #[.slice ap np cp, .slice ac (np + 1) cc, .map (some bm)] 61) := ⟨_, rfl⟩
  have HB1 : Hid (Below w.heap.size w w1) := by show Below _ _ _; rw [hw1]; exact (Below.refl _ _).alloc (Nat.le_refl _) _
  have hb1 : w1.heap[w.heap.size]? = some (.cells #[.slice ap np cp, .slice ac (np + 1) cc, .map (some bm)] 61 (0, 0)) := by rw [hw1]; exact heap_alloc_new _ _
  have x0 : w1.cell? ⟨w.heap.size, 0, none⟩ = some (.slice ap np cp) := (cell_of_row _ _ 0 _ 61 (0, 0) hb1).trans rfl
  have x1 : w1.cell? ⟨w.heap.size, 1, none⟩ = some (.slice ac (np + 1) cc) := (cell_of_row _ _ 1 _ 61 (0, 0) hb1).trans rfl
  have x2 : w1.cell? ⟨w.heap.size, 2, none⟩ = some (.map (some bm)) := (cell_of_row _ _ 2 _ 61 (0, 0) hb1).trans rfl
  have lx : w.heap.size < w1.heap.size := (Array.getElem?_eq_some_iff.1 hb1).1
  have HW1 : Hid (_ = _) := hw1
  clear hw1 hb1
  by_cases hp : 1 ≤ p ∧ p ≤ 1000
  · have HD : Hid (decide (1 ≤ p ∧ p ≤ 1000) = true) := decide_eq_true hp
    go_enter Try.func34, Try.ntmps34
    go_wp2_with fail
    rw [← HW1.out]
    clear HW1
    refine (isPolicy_any p _).mono ?_
    rintro e w2 ⟨rfl, rfl⟩
    rw [HD.out]
    go_wp2_with fail
    refine (HCH.out _ (by omega) (by omega) (HW.out.keptC (KeptC.of_below HB1.out)) (HM.out.below HB1.out)).mono ?_
    rintro e w3 ⟨rfl, hM3, hT3⟩
    have FIN : Hid (decide (0 < v) = true ↔ (1 ≤ p ∧ p ≤ 1000) ∧ 0 < v) := ⟨fun h => ⟨hp, of_decide_eq_true h⟩, fun h => decide_eq_true h.2⟩
    have HT3 : Hid (Touch bm (bm + 1) w w3) := (Touch.of_below HB1.out).trans hT3
    have HM3 : Hid (MapAt w3 bm (n + tn np) f) := hM3
    clear hT3 hM3 x0 x1 x2 lx
    go_wp2
    go_ret
    exact ⟨_, rfl, FIN, HM3.out, HT3.out⟩
  · have HD : Hid (decide (1 ≤ p ∧ p ≤ 1000) = false) := decide_eq_false hp
    have HN : Hid (¬ ((1 ≤ p ∧ p ≤ 1000) ∧ 0 < v)) := fun h => hp h.1
    clear hp
    go_enter Try.func34, Try.ntmps34
    go_wp2_with fail
    rw [← HW1.out]
    clear HW1
    refine (isPolicy_any p _).mono ?_
    rintro e w2 ⟨rfl, rfl⟩
    rw [HD.out]
    go_wp2
    go_ret
    exact ⟨false, rfl, ⟨fun e => (by cases e), fun e => absurd e HN.out⟩, (HM.out.below HB1.out).mono (by omega), Touch.of_below HB1.out⟩

set_option maxRecDepth 10000 in
set_option maxHeartbeats 2000000 in
theorem implHolds_any (ap : Option Addr) (np cp : Nat) (xs : List PC) (p : Int) (noMap noAny : Bool) (w : World) (h : Pcs w ap np xs) :
    Calls Try.prog 10 #[.slice ap np cp, .int .i64 p, .bool noMap, .bool noAny] w (SaysP (polP xs p noMap noAny) w) := by
  have H0 : Hid (Pcs w ap np xs) := h
  have HL : Hid (xs.length = np) := h.len
  clear h
  go_enter Try.func10, Try.ntmps10
  go_wp2_with fail
  refine (polPathOk_any ap np cp xs _ H0.out).mono ?_
  rintro e w1 ⟨b1, rfl, HB, hb1⟩
  cases b1 with
  | false =>
    have HN : Hid (¬ polP xs p noMap noAny) := fun e => absurd (HB.out.2 e.1) (by decide)
    clear HB
    go_wp2
    go_ret
    exact saysP_f HN.out hb1
  | true =>
    have HP : Hid (pathP xs) := HB.out.1 rfl
    clear HB
    go_wp2_with fail
    refine (walkOf_any ap np cp xs false noMap noAny _ (H0.out.kept hb1) HP.out).mono ?_
    rintro e w2 ⟨ac, cc, bm, rfl, hC2, hM2, hbm, hb2⟩
    have B2 : Below w.heap.size w w2 := keepP hb1 hb2
    have HW2 : Hid (WkAt w2 ap np ac xs (ctr0 false np) (ctr0 noMap np) (ctr0 noAny np)) := ⟨H0.out.kept B2, hC2, HP.out⟩
    have HM2 : Hid (MapAt w2 bm 0 (fun i q => chn xs (ctr0 noMap np) (ctr0 noAny np) (np - i) i q)) := ⟨_, hM2, memo_none _⟩
    have hnp := HW2.out.le
    have htl := tn_le np hnp.2
    have HB2 : Hid (Below w.heap.size w w2) := B2
    have hbm2 : w.heap.size ≤ bm := Nat.le_trans hb1.size hbm
    clear hC2 hM2 hb2 hb1 B2 hbm
    go_wp2_with fail
    refine (holds_any ap np cp ac cc bm xs _ _ _ p _ 0 HW2.out HM2.out (by omega)).mono ?_
    rintro e w3 ⟨b3, rfl, HB3, hM3, hT3⟩
    have FIN : Hid (b3 = true ↔ polP xs p noMap noAny) := by
      show _ ↔ _
      rw [HB3.out]
      unfold polP
      rw [HL.out]
      exact ⟨fun e => ⟨HP.out, e⟩, fun e => e.2⟩
    have B3 : Below w.heap.size w w3 := HB2.out.trans (hT3.below hbm2 HB2.out.size)
    clear HB3 hM3 hT3
    go_wp2
    go_ret
    exact ⟨_, rfl, FIN, B3⟩

end Go.Proofs.Ytdkgilkjcndonaa
