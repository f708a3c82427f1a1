import Derived.Test.YtdkgilkjcndonaaPL9c
namespace Go.Proofs.Ytdkgilkjcndonaa
open Go.RowKit Go.Maps

/-- What is asked of the two functions that count, m certificates from the end. -/
def ChainOk (ap : Option Addr) (np cp : Nat) (ac : Option Addr) (cc bm : Nat) (xs : List PC) (q0 m0 a0 : Int) (m i : Nat) : Prop :=
  ∀ (q : Int) (w : World) (n : Nat), 0 ≤ q → q ≤ 1000 → WkAt w ap np ac xs q0 m0 a0 → MapAt w bm n (fun i q => chn xs m0 a0 (np - i) i q) → n + tn m ≤ 1000000000000 →
    Calls Try.prog 58 #[walkV ap np cp ac (np + 1) cc bm, .int .i64 i, .int .i64 q] w (ChR w bm n (tn m) (fun i q => chn xs m0 a0 (np - i) i q) (chn xs m0 a0 m i q))
def CountOk (ap : Option Addr) (np cp : Nat) (ac : Option Addr) (cc bm : Nat) (xs : List PC) (q0 m0 a0 : Int) (m i : Nat) : Prop :=
  ∀ (q : Int) (w : World) (n : Nat), 0 ≤ q → q ≤ 1000 → WkAt w ap np ac xs q0 m0 a0 → MapAt w bm n (fun i q => chn xs m0 a0 (np - i) i q) → n + 6 * tn m ≤ 1000000000000 →
    Calls Try.prog 77 #[walkV ap np cp ac (np + 1) cc bm, .int .i64 i, .int .i64 q] w (ChR w bm n (6 * tn m) (fun i q => chn xs m0 a0 (np - i) i q) (chn xs m0 a0 (m + 1) i q))

theorem ChR.mk {w w' : World} {bm n t : Nat} {f : Nat → Int → Int} {c : Int} (h : MapAt w' bm (n + t) f) (ht : Touch bm (bm + 1) w w') : ChR w bm n t f c (.returned (.int .i64 c)) w' := ⟨rfl, h, ht⟩

set_option maxRecDepth 10000 in
set_option maxHeartbeats 4000000 in
theorem chainsFrom_of (ap : Option Addr) (np cp : Nat) (ac : Option Addr) (cc bm : Nat) (xs : List PC) (q0 m0 a0 : Int) (m i : Nat) (hm : i + (m + 1) = np) (hnp : np ≤ 8) (hC : CountOk ap np cp ac cc bm xs q0 m0 a0 m i) : ChainOk ap np cp ac cc bm xs q0 m0 a0 (m + 1) i := by
  intro q w n hq0 hq1 hW hM hn
  have HC : Hid (∀ (w : World) (n : Nat), WkAt w ap np ac xs q0 m0 a0 → MapAt w bm n (fun i q => chn xs m0 a0 (np - i) i q) → n + 6 * tn m ≤ 1000000000000 → Calls Try.prog 77 #[.agg #[.slice ap np cp, .slice ac (np + 1) cc, .map (some bm)], .int .i64 i, .int .i64 q] w (ChR w bm n (6 * tn m) (fun i q => chn xs m0 a0 (np - i) i q) (chn xs m0 a0 (m + 1) i q))) := fun w n h1 h2 h3 => hC q w n hq0 hq1 h1 h2 h3
  obtain ⟨f, hf⟩ : ∃ f : Nat → Int → Int, f = fun i q => chn xs m0 a0 (np - i) i q := ⟨_, rfl⟩
  rw [← hf] at HC hM ⊢
  have HFV : Hid (f i q = chn xs m0 a0 (m + 1) i q) := by show _ = _; rw [hf, ← hm]; simp
  obtain ⟨cv, hcv⟩ : ∃ cv, cv = chn xs m0 a0 (m + 1) i q := ⟨_, rfl⟩
  have HCB : Hid ((Lit.int .i64 cv).wf = true) := by
    show _ = _
    have h0 := chn_nonneg xs m0 a0 (m + 1) i q
    have h1 := chn_le xs m0 a0 hW.right.maps (m + 1) i q
    have h2 := six_le (m + 1) (by omega)
    rw [← hcv] at h0 h1
    exact wf_small h0 (by omega)
  rw [← hcv] at HFV HC ⊢
  have HW : Hid (WkAt w ap np ac xs q0 m0 a0) := hW
  have htn : tn (m + 1) = 6 * tn m + 1 := rfl
  have htl := tn_le (m + 1) (by omega)
  rw [htn] at htl hn ⊢
  obtain ⟨D, hD, hMemo⟩ := hM.own
  have HM : Hid (MapAt w bm n f) := hM
  have HMemo : Hid (Memo D f) := hMemo
  have hbm := hD.lt
  have HKEY : Hid (Go.keyOf Try.prog 104 (.agg #[.int .i64 (i : Int), .int .i64 q]) = some (kl i q)) := key_is (wf_small (by omega) (by omega)) (wf_small hq0 (by omega))
  have hi8 : i ≤ 8 := by omega
  unfold walkV
  clear hC hf hcv hW htn hm hMemo hM
  obtain ⟨w2, hw2⟩ : ∃ w2, w2 = (w.alloc (.cells #[.slice ap np cp, .slice ac (np + 1) cc, .map (some bm)] 61)).alloc (.cells #[.int .i64 (i : Int), .int .i64 q] 104) := ⟨_, rfl⟩
  have HB2 : Hid (Below w.heap.size w w2) := by show Below _ _ _; rw [hw2]; exact ((Below.refl _ _).alloc (Nat.le_refl _) _).alloc (by simp) _
  have b2 := two_blocksP w (.cells #[.slice ap np cp, .slice ac (np + 1) cc, .map (some bm)] 61) (.cells #[.int .i64 (i : Int), .int .i64 q] 104)
  rw [← hw2] at b2
  have HBB : Hid (_ ∧ _) := b2
  have l2 : w.heap.size + 1 < w2.heap.size := (Array.getElem?_eq_some_iff.1 b2.2).1
  have y2 : w2.cell? ⟨w.heap.size, 2, none⟩ = some (.map (some bm)) := (cell_of_row _ _ 2 _ 61 (0, 0) b2.1).trans rfl
  have z0 : w2.cell? ⟨w.heap.size + 1, 0, none⟩ = some (.int .i64 (i : Int)) := (cell_of_row _ _ 0 _ 104 (0, 0) b2.2).trans rfl
  have z1 : w2.cell? ⟨w.heap.size + 1, 1, none⟩ = some (.int .i64 q) := (cell_of_row _ _ 1 _ 104 (0, 0) b2.2).trans rfl
  have hD2 : w2.ownsMap Try.prog 104 (plainElem Try.prog 2) bm n D := by rw [hw2]; exact (hD.alloc _).alloc _
  have HD2 : Hid (w2.ownsMap Try.prog 104 (plainElem Try.prog 2) bm n D) := hD2
  have HW2 : Hid (_ = _) := hw2
  clear hw2 b2 hD2
  go_enter Try.func58, Try.ntmps58
  go_upto_region 2 with fail
  rw [← HW2.out]
  clear HW2
  cases hh : Maps.has D (kl i q) with
  | true =>
    have HAT : Hid (D.atKey (kl i q) (.lit (.int .i64 0)) = .lit (.int .i64 cv)) := by
      show _ = _
      rw [HMemo.out i q hi8 hq0 hq1 hh, HFV.out]
    have HH : Hid (Maps.has D (kl i q) = true) := hh
    clear hh
    go_wp2_with (at_lookup; refine wpList_lookup_own_ok_int _ rfl _ _ 59 rfl 104 2 .i64 kLaw Try.underlying59 Try.underlying2 (zero2 _) bm n D rfl HD2.out _ _ rfl HKEY.out ?_; intro c hat hwc; rw [HH.out]; obtain rfl : c = cv := (by rw [HAT.out] at hat; simpa using hat.symm))
    go_ret
    exact ChR.mk ((HM.out.below HB2.out).mono (by omega)) (Touch.of_below HB2.out)
  | false =>
    have HH : Hid (Maps.has D (kl i q) = false) := hh
    clear hh
    have y0 : w2.cell? ⟨w.heap.size, 0, none⟩ = some (.slice ap np cp) := (cell_of_row _ _ 0 _ 61 (0, 0) HBB.out.1).trans rfl
    have y1 : w2.cell? ⟨w.heap.size, 1, none⟩ = some (.slice ac (np + 1) cc) := (cell_of_row _ _ 1 _ 61 (0, 0) HBB.out.1).trans rfl
    go_wp2_with (at_lookup; refine wpList_lookup_own_ok_int _ rfl _ _ 59 rfl 104 2 .i64 kLaw Try.underlying59 Try.underlying2 (zero2 _) bm n D rfl HD2.out _ _ rfl HKEY.out ?_; intro c hat hwc; rw [HH.out]; clear hat hwc)
    refine (HC.out _ n (HW.out.keptC (KeptC.of_below HB2.out)) (HM.out.below HB2.out) (by omega)).mono ?_
    rintro e w3 ⟨rfl, hM3, hT3⟩
    have KC : KeptC w2 w3 := KeptC.of_touch hT3 (HM.out.below HB2.out).map
    have l3 : w.heap.size + 1 < w3.heap.size := Nat.lt_of_lt_of_le l2 KC.1
    have u2 : w3.cell? ⟨w.heap.size, 2, none⟩ = some (.map (some bm)) := KC.2 _ _ _ y2
    have v0 : w3.cell? ⟨w.heap.size + 1, 0, none⟩ = some (.int .i64 (i : Int)) := KC.2 _ _ _ z0
    have v1 : w3.cell? ⟨w.heap.size + 1, 1, none⟩ = some (.int .i64 q) := KC.2 _ _ _ z1
    obtain ⟨D3, hD3, hMemo3⟩ := hM3.own
    have HD3 : Hid (w3.ownsMap Try.prog 104 (plainElem Try.prog 2) bm (n + 6 * tn m) D3) := hD3
    have HMemo3 : Hid (Memo D3 f) := hMemo3
    have HT3 : Hid (Touch bm (bm + 1) w w3) := (Touch.of_below HB2.out).trans hT3
    clear y0 y1 y2 z0 z1 hM3 hT3 KC hD3 hMemo3 l2 HD2 HBB hD
    go_wp2_with (at_mapUpdate; refine wpList_mapUpdate_own _ rfl _ _ _ 59 rfl 104 2 kLaw Try.underlying59 _ bm (n + 6 * tn m) D3 rfl HD3.out (by unfold maxLen; omega) _ _ (kl i q) rfl rfl HKEY.out _ [] (plainElem_int Try.underlying2 HCB.out) ?_; intro w4 hown4 hgrow4)
    have HM4 : Hid (MapAt w4 bm (n + (6 * tn m + 1)) f) := ⟨_, hown4, by rw [← HFV.out]; exact memo_put HD3.out.isMap HMemo3.out i q hi8 hq0 hq1⟩
    have HT4 : Hid (Touch bm (bm + 1) w w4) := HT3.out.trans (touch_grownP hgrow4)
    clear hown4 hgrow4
    go_wp2
    go_ret
    exact ChR.mk HM4.out HT4.out

end Go.Proofs.Ytdkgilkjcndonaa
