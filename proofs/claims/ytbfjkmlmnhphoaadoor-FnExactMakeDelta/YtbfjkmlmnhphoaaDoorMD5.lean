import Derived.Test.YtbfjkmlmnhphoaaDoorGMD3MD4
set_option linter.unusedVariables false
namespace Go.Proofs.YtbfjkmlmnhphoaaDoor
open Go.RowKit Go.Sort

abbrev Sl := Option Addr × Nat × Nat
/-- A row of entries of our own, each with its own parts. -/
structure OwnQ (B : Nat) (w : World) (a : Option Addr) (n cap : Nat) (sl : Nat → Sl) (pv : Nat → List Value) (vs : List Value) : Prop where
  row : w.ownsRow B 63 4 (.slice a n cap) n vs
  at0 : ∀ j, j < n → vs[j * 4]? = some (.slice (sl j).1 (sl j).2.1 (sl j).2.2)
  each : ∀ j, j < n → 0 < (sl j).2.1 → w.ownsRow B 107 2 (.slice (sl j).1 (sl j).2.1 (sl j).2.2) (sl j).2.1 (pv j)
  apart : ∀ i j, i < n → j < n → i ≠ j → 0 < (sl i).2.1 → 0 < (sl j).2.1 → (sl i).1 ≠ (sl j).1
theorem OwnQ.below {B : Nat} {w w' : World} {a : Option Addr} {n cap : Nat} {sl : Nat → Sl} {pv : Nat → List Value} {vs : List Value} (h : OwnQ B w a n cap sl pv vs) (hb : Below w.heap.size w w') : OwnQ B w' a n cap sl pv vs :=
  ⟨ownsRow_below h.row hb, h.at0, fun j hj hp => ownsRow_below (h.each j hj hp) hb, h.apart⟩

/-- The count ahead of entry j. -/
def nxQ (sl : Nat → Sl) (k : Nat) : Nat → Nat
  | 0 => k
  | j + 1 => nxQ sl k j + 2 * (sl j).2.1 + 3
theorem nxQ_le (sl : Nat → Sl) (k : Nat) {i j : Nat} (h : i ≤ j) : nxQ sl k i ≤ nxQ sl k j := by
  induction j with
  | zero => obtain rfl : i = 0 := by omega
            exact Nat.le_refl _
  | succ j ih =>
    by_cases e : i = j + 1
    · subst e; exact Nat.le_refl _
    · have := ih (by omega)
      simp only [nxQ]
      omega
/-- The row once its first j entries are marked. -/
def mkV (sl : Nat → Sl) (k : Nat) (vs : List Value) : Nat → List Value
  | 0 => vs
  | j + 1 => (((mkV sl k vs j).set (j * 4 + 1) (.int .i64 ((nxQ sl k j + 2 * (sl j).2.1 : Nat) : Int))).set (j * 4 + 2) (.int .i64 (((nxQ sl k j + 2 * (sl j).2.1 : Nat) : Int) + 1))).set (j * 4 + 3) (.int .i64 (((nxQ sl k j + 2 * (sl j).2.1 : Nat) : Int) + 1 + 1))
theorem mkV_len (sl : Nat → Sl) (k : Nat) (vs : List Value) (j : Nat) : (mkV sl k vs j).length = vs.length := by
  induction j with
  | zero => rfl
  | succ j ih => simp [mkV, ih]
theorem mkV_at0 (sl : Nat → Sl) (k : Nat) (vs : List Value) (j i : Nat) : (mkV sl k vs j)[i * 4]? = vs[i * 4]? := by
  induction j with
  | zero => rfl
  | succ j ih =>
    simp only [mkV]
    rw [List.getElem?_set_ne (by omega), List.getElem?_set_ne (by omega), List.getElem?_set_ne (by omega)]
    exact ih
theorem mkV_get (sl : Nat → Sl) (k : Nat) (vs : List Value) : ∀ (j i : Nat), i < j → j * 4 ≤ vs.length →
    (mkV sl k vs j)[i * 4 + 1]? = some (.int .i64 ((nxQ sl k i + 2 * (sl i).2.1 : Nat) : Int)) ∧ (mkV sl k vs j)[i * 4 + 2]? = some (.int .i64 (((nxQ sl k i + 2 * (sl i).2.1 : Nat) : Int) + 1)) ∧ (mkV sl k vs j)[i * 4 + 3]? = some (.int .i64 (((nxQ sl k i + 2 * (sl i).2.1 : Nat) : Int) + 1 + 1)) := by
  intro j
  induction j with
  | zero => intro i hi; omega
  | succ j ih =>
    intro i hi hl
    have hm := mkV_len sl k vs j
    simp only [mkV]
    by_cases e : i = j
    · subst e
      refine ⟨?_, ?_, ?_⟩
      · rw [List.getElem?_set_ne (by omega), List.getElem?_set_ne (by omega), List.getElem?_set_self (by omega)]
      · rw [List.getElem?_set_ne (by omega), List.getElem?_set_self (by rw [List.length_set]; omega)]
      · rw [List.getElem?_set_self (by rw [List.length_set, List.length_set]; omega)]
    · obtain ⟨h1, h2, h3⟩ := ih i (by omega) (by omega)
      refine ⟨?_, ?_, ?_⟩
      · rw [List.getElem?_set_ne (by omega), List.getElem?_set_ne (by omega), List.getElem?_set_ne (by omega)]; exact h1
      · rw [List.getElem?_set_ne (by omega), List.getElem?_set_ne (by omega), List.getElem?_set_ne (by omega)]; exact h2
      · rw [List.getElem?_set_ne (by omega), List.getElem?_set_ne (by omega), List.getElem?_set_ne (by omega)]; exact h3
/-- The parts once the first j entries are marked. -/
def mkP (sl : Nat → Sl) (k : Nat) (pv : Nat → List Value) (j : Nat) : Nat → List Value := fun i => if i < j then mkPs (nxQ sl k i) (sl i).2.1 else pv i
theorem mkP_zero (sl : Nat → Sl) (k : Nat) (pv : Nat → List Value) : mkP sl k pv 0 = pv := by funext i; simp [mkP]

/-- One entry's parts marked. -/
theorem OwnQ.parted {B : Nat} {w w' : World} {a : Option Addr} {n cap : Nat} {sl : Nat → Sl} {pv : Nat → List Value} {vs : List Value} {k j : Nat} (h : OwnQ B w a n cap sl (mkP sl k pv j) vs) (hj : j < n)
    (ho : 0 < (sl j).2.1 → w'.ownsRow B 107 2 (.slice (sl j).1 (sl j).2.1 (sl j).2.2) (sl j).2.1 (mkPs (nxQ sl k j) (sl j).2.1)) (ht : TouchA (sl j).1 (sl j).2.1 w w') : OwnQ B w' a n cap sl (mkP sl k pv (j + 1)) vs := by
  refine ⟨ownsRow_keepA h.row ht (fun hp => ownsRow_ne (h.each j hj hp) h.row (by decide) hp), h.at0, fun i hi hp => ?_, h.apart⟩
  by_cases e : i = j
  · subst e
    simp only [mkP, if_pos (Nat.lt_succ_self _)]
    exact ho hp
  · have h1 := ownsRow_keepA (h.each i hi hp) ht (fun hp' => h.apart j i hj hi (fun q => e q.symm) hp' hp)
    have e2 : mkP sl k pv (j + 1) i = mkP sl k pv j i := by
      unfold mkP
      by_cases hl : i < j
      · rw [if_pos hl, if_pos (by omega)]
      · rw [if_neg hl, if_neg (by omega)]
    rw [e2]
    exact h1
/-- A number of an entry written. -/
theorem OwnQ.numbered {B : Nat} {w : World} {g n cap : Nat} {sl : Nat → Sl} {pv : Nat → List Value} {vs : List Value} (h : OwnQ B w (some ⟨g, 0, none⟩) n cap sl pv vs) (i : Nat) (v : Value) (hi : ∀ j, i ≠ j * 4) : OwnQ B (w.setCell ⟨g, i, none⟩ v) (some ⟨g, 0, none⟩) n cap sl pv (vs.set i v) := by
  refine ⟨(h.row.stored i v).1, fun j hj => by rw [List.getElem?_set_ne (hi j)]; exact h.at0 j hj, fun j hj hp => ?_, h.apart⟩
  have ht := touch_set' (p := g) (q := g + 1) w g i v (Nat.le_refl _) (Nat.lt_succ_self _)
  refine ownsRow_keepA (a := some ⟨g, 0, none⟩) (n := 1) (h.each j hj hp) ⟨ht.os, ht.tape, ht.output, ht.size, fun q hq hne => ht.block q hq (by
    have : g ≠ q := fun e => hne (by decide) (by rw [e])
    omega)⟩ (fun _ e => ownsRow_ne (h.each j hj hp) h.row (by decide) hp e.symm)

set_option maxRecDepth 10000 in
set_option maxHeartbeats 4000000 in
theorem markGoneS_any (B : Nat) (S : Nat → Prop) (a : Option Addr) (n cap k : Nat) (sl : Nat → Sl) (pv : Nat → List Value) (vs : List Value) (w : World) (h : OwnQ B w a n cap sl pv vs) (hn : n ≤ 1048576) (hs : ∀ j, j < n → (sl j).2.1 ≤ 1048576) (h0 : 0 < k) (hk : nxQ sl k n ≤ 2000000000000000)
    (hin : ∀ g, a = some ⟨g, 0, none⟩ → 0 < n → S g) (hin2 : ∀ j, j < n → ∀ g, (sl j).1 = some ⟨g, 0, none⟩ → 0 < (sl j).2.1 → S g) :
    Calls Tryd.prog 51 #[.slice a n cap, .int .i64 k] w fun e w' => e = .returned (.int .i64 (nxQ sl k n : Nat)) ∧ OwnQ B w' a n cap sl (mkP sl k pv n) (mkV sl k vs n) ∧ TouchS S w w' := by
  have HIN : Hid (∀ g, a = some ⟨g, 0, none⟩ → 0 < n → S g) := hin
  have HIN2 : Hid (∀ j, j < n → ∀ g, (sl j).1 = some ⟨g, 0, none⟩ → 0 < (sl j).2.1 → S g) := hin2
  have HS : Hid (∀ j, j < n → (sl j).2.1 ≤ 1048576) := hs
  have H0 : Hid (OwnQ B w a n cap sl pv vs) := h
  have HK : Hid (nxQ sl k n ≤ 2000000000000000) := hk
  have HK0 : Hid (0 < k) := h0
  clear h hin hin2 hs hk h0
  go_enter Tryd.func51, Tryd.ntmps51
  go_wp2
  go_loopw [1, 5] (fun q i wr => ∃ j : Nat, j ≤ n ∧ i = .int .i64 j ∧ q = .int .i64 (nxQ sl k j : Nat) ∧ Hid (OwnQ B wr a n cap sl (mkP sl k pv j) (mkV sl k vs j)) ∧ TouchS S w wr) (fun _ i _ => n - (intOf i).toNat)
  case atStart => exact ⟨0, Nat.zero_le _, rfl, rfl, by show OwnQ _ _ _ _ _ _ _ _; rw [mkP_zero]; exact H0.out, TouchS.of_below (Below.refl _ _)⟩
  case round =>
    obtain ⟨j, hj, rfl, rfl, HR, htr⟩ := hrel
    by_cases hlt : j < n
    · obtain ⟨g, rfl, hgB, hgl⟩ := ownsRow_shape HR.out.row (by omega)
      have hgS := HIN.out g rfl (by omega)
      have c0 : wr.cell? ⟨g, j * 4, none⟩ = some (.slice (sl j).1 (sl j).2.1 (sl j).2.2) := (HR.out.row.cellAt (j * 4) (by omega)).trans (HR.out.at0 j hlt)
      have hq1 : nxQ sl k (j + 1) ≤ 2000000000000000 := Nat.le_trans (nxQ_le sl k (by omega)) HK.out
      have hq0 : k ≤ nxQ sl k j := nxQ_le sl k (Nat.zero_le _)
      have hsj := HS.out j hlt
      simp only [nxQ] at hq1
      have HM := markPartS_q B (sl j).1 (sl j).2.1 (sl j).2.2 (nxQ sl k j) (mkP sl k pv j j) wr (fun hp => HR.out.each j hlt hp) hsj (by have := HK0.out; omega) (by omega)
      have HP : Hid (∀ w2, (0 < (sl j).2.1 → w2.ownsRow B 107 2 (.slice (sl j).1 (sl j).2.1 (sl j).2.2) (sl j).2.1 (mkPs (nxQ sl k j) (sl j).2.1)) → TouchA (sl j).1 (sl j).2.1 wr w2 → OwnQ B w2 (some ⟨g, 0, none⟩) n cap sl (mkP sl k pv (j + 1)) (mkV sl k vs j) ∧ TouchS S w w2) := fun w2 ho ht => ⟨HR.out.parted hlt ho ht, htr.trans (ht.touchS (fun g' e hp => HIN2.out j hlt g' e hp))⟩
      have HE : Hid (mkV sl k vs (j + 1) = (((mkV sl k vs j).set (j * 4 + 1) (.int .i64 ((nxQ sl k j + 2 * (sl j).2.1 : Nat) : Int))).set (j * 4 + 2) (.int .i64 (((nxQ sl k j + 2 * (sl j).2.1 : Nat) : Int) + 1))).set (j * 4 + 3) (.int .i64 (((nxQ sl k j + 2 * (sl j).2.1 : Nat) : Int) + 1 + 1))) := rfl
      have HX : Hid (nxQ sl k (j + 1) = nxQ sl k j + 2 * (sl j).2.1 + 3) := rfl
      have hlen : (mkV sl k vs j).length = n * 4 := HR.out.row.1
      obtain ⟨ms, hms⟩ : ∃ ms, ms = mkV sl k vs j := ⟨_, rfl⟩
      rw [← hms] at HE HP hlen
      obtain ⟨p, hp⟩ : ∃ p, p = nxQ sl k j + 2 * (sl j).2.1 := ⟨_, rfl⟩
      rw [← hp] at HE HX HM
      have hp1 : p ≤ 2000000000000000 := by omega
      obtain ⟨q, hq⟩ : ∃ q, q = nxQ sl k j := ⟨_, rfl⟩
      obtain ⟨a1, ha⟩ : ∃ x, x = (sl j).1 := ⟨_, rfl⟩
      obtain ⟨n1, hn1⟩ : ∃ x, x = (sl j).2.1 := ⟨_, rfl⟩
      obtain ⟨d1, hd1⟩ : ∃ x, x = (sl j).2.2 := ⟨_, rfl⟩
      rw [← ha, ← hn1, ← hd1] at c0
      rw [← ha, ← hn1, ← hd1, ← hq] at HM HP
      rw [← hq]
      have HPX : Hid (nxQ sl k (j + 1) = p + 3) := HX
      have hjn : (j : Int) < (n : Int) := by omega
      clear hp ha hn1 hd1 hq hms hq1 hq0 hsj HX HR htr
      go_wp2_with fail
      refine HM.mono ?_
      rintro e w2 ⟨rfl, ho2, ht2⟩
      obtain ⟨h2, hT2⟩ := HP.out w2 ho2 ht2
      clear HM HP ho2 ht2 c0
      have f1 := h2.row.frozenAt (j * 4 + 1)
      have f2 := h2.row.frozenAt (j * 4 + 2)
      have f3 := h2.row.frozenAt (j * 4 + 3)
      obtain ⟨y1, x1⟩ : ∃ y, w2.cell? ⟨g, j * 4 + 1, none⟩ = some y := ⟨_, (h2.row.cellAt _ (by omega)).trans (List.getElem?_eq_getElem (by omega))⟩
      obtain ⟨y2, x2⟩ : ∃ y, w2.cell? ⟨g, j * 4 + 2, none⟩ = some y := ⟨_, (h2.row.cellAt _ (by omega)).trans (List.getElem?_eq_getElem (by omega))⟩
      obtain ⟨y3, x3⟩ : ∃ y, w2.cell? ⟨g, j * 4 + 3, none⟩ = some y := ⟨_, (h2.row.cellAt _ (by omega)).trans (List.getElem?_eq_getElem (by omega))⟩
      have HF : Hid (OwnQ B (((w2.setCell ⟨g, j * 4 + 1, none⟩ (.int .i64 (p : Int))).setCell ⟨g, j * 4 + 2, none⟩ (.int .i64 ((p : Int) + 1))).setCell ⟨g, j * 4 + 3, none⟩ (.int .i64 ((p : Int) + 1 + 1))) (some ⟨g, 0, none⟩) n cap sl (mkP sl k pv (j + 1)) (mkV sl k vs (j + 1))) := by
        show OwnQ _ _ _ _ _ _ _ _
        rw [HE.out]
        exact ((h2.numbered _ _ (fun i => by omega)).numbered _ _ (fun i => by omega)).numbered _ _ (fun i => by omega)
      have HT : Hid (TouchS S w (((w2.setCell ⟨g, j * 4 + 1, none⟩ (.int .i64 (p : Int))).setCell ⟨g, j * 4 + 2, none⟩ (.int .i64 ((p : Int) + 1))).setCell ⟨g, j * 4 + 3, none⟩ (.int .i64 ((p : Int) + 1 + 1)))) := ((hT2.trans (TouchS.set _ _ _ _ hgS)).trans (TouchS.set _ _ _ _ hgS)).trans (TouchS.set _ _ _ _ hgS)
      clear h2 hT2 HE
      go_wp2
      go_roundw
      case rel => exact ⟨j + 1, by omega, by go_num, by rw [HPX.out, show ((p + 3 : Nat) : Int) = (p : Int) + 1 + 1 + 1 from by omega], HF, HT.out⟩
      case measure => simp [intOf]; omega
    · have hjn : j = n := by omega
      subst hjn
      go_wp2
      go_ret
      exact ⟨rfl, HR.out, htr⟩

end Go.Proofs.YtbfjkmlmnhphoaaDoor
