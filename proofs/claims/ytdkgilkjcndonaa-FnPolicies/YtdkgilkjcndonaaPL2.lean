import Derived.Test.YtdkgilkjcndonaaPL2b
import Derived.Deep.DeepCutAuto
namespace Go.Proofs.Ytdkgilkjcndonaa
open Go.RowKit

/-- The first k certificates lie in the row g, their lists behind it. -/
def PcPre (w : World) (g k : Nat) (xs : List PC) : Prop := ∀ j, j < k → ∃ p1 n1 p2 n2 hi, CellsP w g (j * 6) p1 n1 n1 p2 n2 n2 (xs.getD j default) ∧ Own64 (g + 1) hi w p1 n1 n1 (xs.getD j default).pols ∧ OwnPm (g + 1) hi w p2 n2 n2 (xs.getD j default).maps ∧ hi ≤ w.heap.size ∧ n1 ≤ 1048576
theorem PcPre.kept {w w' : World} {g k : Nat} {xs : List PC} (h : PcPre w g k xs) (hg : g < w.heap.size) (hb : Below w.heap.size w w') : PcPre w' g k xs := fun j hj => by
  obtain ⟨p1, n1, p2, n2, hi, h1, h2, h3, h4, h5⟩ := h j hj
  exact ⟨p1, n1, p2, n2, hi, h1.of (fun i => hb.cell (p := ⟨g, i, none⟩) hg), h2.kept hb, h3.kept hb, Nat.le_trans h4 hb.size, h5⟩
theorem PcPre.pcs {w : World} {g n : Nat} {xs : List PC} (h : PcPre w g n xs) (hl : xs.length = n) (hn : n ≤ 9223372036854775807) (hg : g < w.heap.size) : Pcs w (some ⟨g, 0, none⟩) n xs := by
  refine ⟨hl, hn, fun k hk => ?_⟩
  obtain ⟨p1, n1, p2, n2, hi, h1, h2, h3, h4, h5⟩ := h k hk
  exact ⟨g, 0, p1, n1, n1, p2, n2, n2, rfl, hg, by rw [Nat.zero_add]; exact h1, h2.toRow, Nat.le_refl _, by omega, h3.toPms⟩
structure Put6 (B : Nat) (w w' : World) (g n cap i : Nat) (a1 : Option Addr) (n1 c1 : Nat) (a2 : Option Addr) (n2 c2 : Nat) (x : PC) : Prop where
  own : ∃ vs, w'.ownsRow B 41 6 (.slice (some ⟨g, 0, none⟩) n cap) n vs
  other : ∀ l, l ≠ g → w'.heap[l]? = w.heap[l]?
  size : w'.heap.size = w.heap.size
  old : ∀ j, j < n * 6 → j < i * 6 ∨ i * 6 + 6 ≤ j → w'.cell? ⟨g, j, none⟩ = w.cell? ⟨g, j, none⟩
  cells : CellsP w' g (i * 6) a1 n1 c1 a2 n2 c2 x
theorem put6_is {B : Nat} {w : World} {g n cap : Nat} {vs : List Value} (h : w.ownsRow B 41 6 (.slice (some ⟨g, 0, none⟩) n cap) n vs) (i : Nat) (hi : i < n) (a1 : Option Addr) (n1 c1 : Nat) (a2 : Option Addr) (n2 c2 : Nat) (x : PC) : Put6 B w (put6 w g (i * 6) (.slice a1 n1 c1) (.slice a2 n2 c2) (.bool x.self) (.int .i64 x.need) (.int .i64 x.nomap) (.int .i64 x.noany)) g n cap i a1 n1 c1 a2 n2 c2 x := by
  have h1 := ((((((h.stored (i * 6) (.slice a1 n1 c1)).1.stored (i * 6 + 1) (.slice a2 n2 c2)).1.stored (i * 6 + 2) (.bool x.self)).1.stored (i * 6 + 3) (.int .i64 x.need)).1.stored (i * 6 + 4) (.int .i64 x.nomap)).1.stored (i * 6 + 5) (.int .i64 x.noany)).1
  have hl : vs.length = n * 6 := h.1
  have cc := fun j (hj : j < n * 6) => h1.cellAt j hj
  refine ⟨⟨_, h1⟩, fun l hl => put6_other _ _ _ _ hl _ _ _ _ _ _, put6_size _ _ _ _ _ _ _ _ _, fun j hj ho => ?_, ⟨?_, ?_, ?_, ?_, ?_, ?_⟩⟩
  · refine (cc j hj).trans ?_
    rw [h.cellAt j hj]
    rw [List.getElem?_set_ne (by omega), List.getElem?_set_ne (by omega), List.getElem?_set_ne (by omega), List.getElem?_set_ne (by omega), List.getElem?_set_ne (by omega), List.getElem?_set_ne (by omega)]
  · refine (cc _ (by omega)).trans ?_
    rw [List.getElem?_set_ne (by omega), List.getElem?_set_ne (by omega), List.getElem?_set_ne (by omega), List.getElem?_set_ne (by omega), List.getElem?_set_ne (by omega), List.getElem?_set_self (by omega)]
  · refine (cc _ (by omega)).trans ?_
    rw [List.getElem?_set_ne (by omega), List.getElem?_set_ne (by omega), List.getElem?_set_ne (by omega), List.getElem?_set_ne (by omega), List.getElem?_set_self (by simp; omega)]
  · refine (cc _ (by omega)).trans ?_
    rw [List.getElem?_set_ne (by omega), List.getElem?_set_ne (by omega), List.getElem?_set_ne (by omega), List.getElem?_set_self (by simp; omega)]
  · refine (cc _ (by omega)).trans ?_
    rw [List.getElem?_set_ne (by omega), List.getElem?_set_ne (by omega), List.getElem?_set_self (by simp; omega)]
  · refine (cc _ (by omega)).trans ?_
    rw [List.getElem?_set_ne (by omega), List.getElem?_set_self (by simp; omega)]
  · refine (cc _ (by omega)).trans ?_
    rw [List.getElem?_set_self (by simp; omega)]

set_option maxRecDepth 10000 in
set_option maxHeartbeats 4000000 in
theorem toPolCertS_at (a : Option Addr) (n cap : Nat) (xs : List PC) (w : World) (h : Pcs w a n xs) (hn : n ≤ 1048576) (hz : ∀ k, k < n → PcOk (xs.getD k default)) :
    Calls Try.prog 21 #[.slice a n cap] w fun e w' => e = .returned (.slice (some ⟨w.heap.size, 0, none⟩) n n) ∧ (∃ vs, w'.ownsRow w.heap.size 41 6 (.slice (some ⟨w.heap.size, 0, none⟩) n n) n vs) ∧ PcPre w' w.heap.size n xs ∧ w.heap.size < w'.heap.size ∧ Below w.heap.size w w' := by
  obtain ⟨i0, hi, hz0, hz1, hz2⟩ := info_parts Try.infoPolCert
  have HK : Hid (Pcs w a n xs) := h
  have HZ : Hid (∀ k, k < n → PcOk (xs.getD k default)) := hz
  clear h hz
  go_enter Try.func21, Try.ntmps21
  go_wp2_with (first | (at_make; refine wpList_make_full _ rfl _ _ 24 rfl w.heap.size 41 i0 _ 6 Try.underlying24 hi hz0 hz1 _ _ _ _ n rfl rfl rfl rfl (by rw [hz2]; omega) (by unfold maxLen; omega) (by exact Nat.le_refl _) ?_; intro w1 hown hgrow))
  have hbl : Below w.heap.size w w1 := (Below.refl _ _).grown hgrow (Nat.le_refl _) (by simp)
  clear hgrow hi hz0 hz1 hz2
  go_loopw [4] (fun i wr => ∃ k : Nat, k ≤ n ∧ i = .int .i64 k ∧ Hid (∃ vs, wr.ownsRow w.heap.size 41 6 (.slice (some ⟨w.heap.size, 0, none⟩) n n) n vs) ∧ Hid (PcPre wr w.heap.size k xs) ∧ Below w.heap.size w wr) (fun i _ => n - (intOf i).toNat)
  case atStart => exact ⟨0, Nat.zero_le _, rfl, ⟨_, hown⟩, fun j hj => absurd hj (Nat.not_lt_zero _), hbl⟩
  case round =>
    obtain ⟨k, hk, rfl, HOR, HPRE, hbr⟩ := hrel
    obtain ⟨vs, hor⟩ := HOR.out
    have hgl := (hor.lt _ rfl).2
    have HOV : Hid (_) := hor
    clear HOR hor hown hbl
    by_cases hkn : k < n
    · obtain ⟨b, off, a1, n1, d1, a2, n2, d2, rfl, hlb, hc, hp⟩ := HK.out.get k hkn
      have hgp := HZ.out k hkn
      obtain ⟨y, hy⟩ : ∃ y, y = xs.getD k default := ⟨_, rfl⟩
      rw [← hy] at hc hp hgp
      have HY : Hid (y = xs.getD k default) := hy
      have hn1 : n1 ≤ 1048576 := by rw [← hp.pol.len]; exact hgp.1
      obtain ⟨c0, c1, c2, c3, c4, c5⟩ := hc.of (w' := wr) (fun i => hbr.cell (p := ⟨b, i, none⟩) hlb)
      have HP : Hid (PcAt wr a1 n1 d1 a2 n2 y ∧ PcOk y) := ⟨hp.kept hbr, hgp⟩
      have hkni : (k : Int) < (n : Int) := by omega
      have hs := hbr.size
      clear hc hy hp hgp
      go_wp2_with fail
      refine (toPolCert_at a1 n1 d1 a2 n2 d2 y _ HP.out.1 HP.out.2).mono ?_
      rintro e w2 ⟨p1, p2, rfl, hq1, hq2, hb2⟩
      have hor2 : w2.ownsRow w.heap.size 41 6 (.slice (some ⟨w.heap.size, 0, none⟩) n n) n vs := ownsRow_below HOV.out hb2
      have hs2 := hb2.size
      have fr : ∀ j, w2.frozen? ⟨w.heap.size, j, none⟩ = false := fun j => hor2.frozenAt j
      have hvl : vs.length = n * 6 := hor2.1
      have cx : ∀ j, j < n * 6 → ∃ z, w2.cell? ⟨w.heap.size, j, none⟩ = some z := fun j hj => ⟨_, (hor2.cellAt j hj).trans (List.getElem?_eq_getElem (by omega))⟩
      obtain ⟨z0, x0⟩ := cx (k * 6) (by omega)
      obtain ⟨z1, x1⟩ := cx (k * 6 + 1) (by omega)
      obtain ⟨z2, x2⟩ := cx (k * 6 + 2) (by omega)
      obtain ⟨z3, x3⟩ := cx (k * 6 + 3) (by omega)
      obtain ⟨z4, x4⟩ := cx (k * 6 + 4) (by omega)
      obtain ⟨z5, x5⟩ := cx (k * 6 + 5) (by omega)
      have f0 := fr (k * 6)
      have f1 := fr (k * 6 + 1)
      have f2 := fr (k * 6 + 2)
      have f3 := fr (k * 6 + 3)
      have f4 := fr (k * 6 + 4)
      have f5 := fr (k * 6 + 5)
      have hS := put6_is hor2 k hkn p1 n1 n1 p2 n2 n2 y
      have hP : PcPre (put6 w2 w.heap.size (k * 6) (.slice p1 n1 n1) (.slice p2 n2 n2) (.bool y.self) (.int .i64 y.need) (.int .i64 y.nomap) (.int .i64 y.noany)) w.heap.size (k + 1) xs := by
        intro j hj
        by_cases hjk : j = k
        · subst hjk
          rw [← HY.out]
          exact ⟨p1, n1, p2, n2, w2.heap.size, hS.cells, (stab_64 (B := w.heap.size + 1) (by omega) _ _ (fun l hl _ => hS.other l (by omega)) hq1).monoP (by omega) (Nat.le_refl _), (stab_pm (B := w.heap.size + 1) (by omega) _ _ (fun l hl _ => hS.other l (by omega)) hq2).monoP (by omega) (Nat.le_refl _), Nat.le_of_eq hS.size.symm, hn1⟩
        · obtain ⟨r1, m1, r2, m2, hi', q1, q2, q3, q4, q5⟩ := (HPRE.out.kept hgl hb2) j (by omega)
          have hx := hS.old
          exact ⟨r1, m1, r2, m2, hi', ⟨(hx _ (by omega) (by omega)).trans q1.c0, (hx _ (by omega) (by omega)).trans q1.c1, (hx _ (by omega) (by omega)).trans q1.c2, (hx _ (by omega) (by omega)).trans q1.c3, (hx _ (by omega) (by omega)).trans q1.c4, (hx _ (by omega) (by omega)).trans q1.c5⟩, stab_64 (B := w.heap.size + 1) (Nat.le_refl _) _ _ (fun l hl _ => hS.other l (by omega)) q2, stab_pm (B := w.heap.size + 1) (Nat.le_refl _) _ _ (fun l hl _ => hS.other l (by omega)) q3, Nat.le_trans q4 (Nat.le_of_eq hS.size.symm), q5⟩
      have hB2 := hbr.trans (hb2.mono hs)
      have hB4 : Below w.heap.size w (put6 w2 w.heap.size (k * 6) (.slice p1 n1 n1) (.slice p2 n2 n2) (.bool y.self) (.int .i64 y.need) (.int .i64 y.nomap) (.int .i64 y.noany)) := ⟨(put6_frame _ _ _ _ _ _ _ _ _).1.trans hB2.os, (put6_frame _ _ _ _ _ _ _ _ _).2.1.trans hB2.tape, (put6_frame _ _ _ _ _ _ _ _ _).2.2.trans hB2.output, by rw [hS.size]; exact hB2.size, fun l hl => (hS.other l (by omega)).trans (hB2.block l hl)⟩
      have FIN : Hid (_ ∧ _ ∧ _) := ⟨hS.own, hP, hB4⟩
      have hgl2 : w.heap.size < w2.heap.size := by omega
      clear fr cx hS hP hB4 hB2 hor2 hq1 hq2 hb2 hvl HPRE HOV HP HK
      unfold pcv
      go_wp2
      go_roundw
      case rel => exact ⟨k + 1, by omega, by go_num, FIN.out.1, FIN.out.2.1, FIN.out.2.2⟩
      case measure => simp [intOf]; omega
    · obtain rfl : n = k := by omega
      have FIN : Hid (_ ∧ _) := ⟨(⟨vs, HOV.out⟩ : ∃ vs, wr.ownsRow w.heap.size 41 6 (.slice (some ⟨w.heap.size, 0, none⟩) n n) n vs), HPRE.out⟩
      clear HOV
      go_wp2
      go_ret
      exact ⟨rfl, FIN.out.1, FIN.out.2, hgl, hbr⟩

end Go.Proofs.Ytdkgilkjcndonaa
