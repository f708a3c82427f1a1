import Derived.Test.YtbfjkmlmnhphoaaDoorK2
namespace Go.Proofs.YtbfjkmlmnhphoaaDoor
open Go.RowKit

theorem Tryd.infoGone : (Tryd.prog.info? 63).map (fun i => (i.zero, i.size, i.bytes)) = some (some (.agg #[.slice none 0 0, .int .i64 0, .int .i64 0, .int .i64 0]), 4, 48) := by kernel_rfl

/-- The first k entries lie in the row g, their names behind it. -/
def GoPre (w : World) (g k : Nat) (xs : List GP) : Prop := ∀ j, j < k → ∃ gn nn, g < gn ∧ Cells4 w g (j * 4) (some ⟨gn, 0, none⟩) nn nn (xs.getD j default) ∧ Pts w (some ⟨gn, 0, none⟩) nn (xs.getD j default).parts
theorem GoPre.kept {w w' : World} {g k : Nat} {xs : List GP} (h : GoPre w g k xs) (hg : g < w.heap.size) (hb : Below w.heap.size w w') : GoPre w' g k xs := fun j hj => by
  obtain ⟨gn, nn, h1, h3, h4⟩ := h j hj
  exact ⟨gn, nn, h1, h3.of (fun i => hb.cell (p := ⟨g, i, none⟩) hg), h4.kept hb⟩

structure Put4 (B : Nat) (w w' : World) (g n cap i : Nat) (an : Option Addr) (nn cn : Nat) (x : GP) : Prop where
  own : ∃ vs, w'.ownsRow B 63 4 (.slice (some ⟨g, 0, none⟩) n cap) n vs
  other : ∀ l, l ≠ g → w'.heap[l]? = w.heap[l]?
  size : w'.heap.size = w.heap.size
  old : ∀ j, j < n * 4 → j < i * 4 ∨ i * 4 + 4 ≤ j → w'.cell? ⟨g, j, none⟩ = w.cell? ⟨g, j, none⟩
  cells : Cells4 w' g (i * 4) an nn cn x
theorem put4_is {B : Nat} {w : World} {g n cap : Nat} {vs : List Value} (h : w.ownsRow B 63 4 (.slice (some ⟨g, 0, none⟩) n cap) n vs) (i : Nat) (hi : i < n) (an : Option Addr) (nn cn : Nat) (x : GP) : Put4 B w (put4 w g (i * 4) (.slice an nn cn) (.int .i64 x.ser) (.int .i64 x.tm) (.int .i64 x.rs)) g n cap i an nn cn x := by
  have h1 := ((((h.stored (i * 4) (.slice an nn cn)).1.stored (i * 4 + 1) (.int .i64 x.ser)).1.stored (i * 4 + 2) (.int .i64 x.tm)).1.stored (i * 4 + 3) (.int .i64 x.rs)).1
  have hl : vs.length = n * 4 := h.1
  have cc := fun j (hj : j < n * 4) => h1.cellAt j hj
  refine ⟨⟨_, h1⟩, fun l hl => put4_other _ _ _ _ hl _ _ _ _, put4_size _ _ _ _ _ _ _, fun j hj ho => ?_, ⟨?_, ?_, ?_, ?_⟩⟩
  · refine (cc j hj).trans ?_
    rw [h.cellAt j hj]
    rw [List.getElem?_set_ne (by omega), List.getElem?_set_ne (by omega), List.getElem?_set_ne (by omega), List.getElem?_set_ne (by omega)]
  · refine (cc _ (by omega)).trans ?_
    rw [List.getElem?_set_ne (by omega), List.getElem?_set_ne (by omega), List.getElem?_set_ne (by omega), List.getElem?_set_self (by omega)]
  · refine (cc _ (by omega)).trans ?_
    rw [List.getElem?_set_ne (by omega), List.getElem?_set_ne (by omega), List.getElem?_set_self (by simp; omega)]
  · refine (cc _ (by omega)).trans ?_
    rw [List.getElem?_set_ne (by omega), List.getElem?_set_self (by simp; omega)]
  · refine (cc _ (by omega)).trans ?_
    rw [List.getElem?_set_self (by simp; omega)]

set_option maxRecDepth 10000 in
set_option maxHeartbeats 4000000 in
theorem toGoneS_at (a : Option Addr) (n cap : Nat) (xs : List GP) (w : World) (h : Gns w a n xs) (hn : n ≤ 1048576) (hz : ∀ k, k < n → GpOk (xs.getD k default)) :
    Calls Tryd.prog 33 #[.slice a n cap] w fun e w' => e = .returned (.slice (some ⟨w.heap.size, 0, none⟩) n n) ∧ GoPre w' w.heap.size n xs ∧ w.heap.size < w'.heap.size ∧ Below w.heap.size w w' := by
  obtain ⟨i0, hi, hz0, hz1, hz2⟩ := info_parts Tryd.infoGone
  have HK : Hid (Gns w a n xs) := h
  have HZ : Hid (∀ k, k < n → GpOk (xs.getD k default)) := hz
  have hlen : Hid (xs.length = n) := h.len
  clear h hz
  go_enter Tryd.func33, Tryd.ntmps33
  go_wp2_with (first | (at_make; refine wpList_make_full _ rfl _ _ 34 rfl w.heap.size 63 i0 _ 4 Tryd.underlying34 hi hz0 hz1 _ _ _ _ n rfl rfl rfl rfl (by rw [hz2]; omega) (by unfold maxLen; omega) (by exact Nat.le_refl _) ?_; intro w1 hown hgrow))
  have hbl : Below w.heap.size w w1 := (Below.refl _ _).grown hgrow (Nat.le_refl _) (by simp)
  clear hgrow hi hz0 hz1 hz2
  go_loopw [4] (fun i wr => ∃ k : Nat, k ≤ n ∧ i = .int .i64 k ∧ Hid (∃ vs, wr.ownsRow w.heap.size 63 4 (.slice (some ⟨w.heap.size, 0, none⟩) n n) n vs) ∧ Hid (GoPre wr w.heap.size k xs) ∧ Below w.heap.size w wr) (fun i _ => n - (intOf i).toNat)
  case atStart => exact ⟨0, Nat.zero_le _, rfl, ⟨_, hown⟩, fun j hj => absurd hj (Nat.not_lt_zero _), hbl⟩
  case round =>
    obtain ⟨k, hk, rfl, HOR, HPRE, hbr⟩ := hrel
    obtain ⟨vs, hor⟩ := HOR.out
    have hgl := (hor.lt _ rfl).2
    have HOV : Hid (_) := hor
    clear HOR hor hown hbl
    by_cases hkn : k < n
    · obtain ⟨b, off, an, nn, cn, rfl, hlb, hc, hp⟩ := HK.out.get k hkn
      have hgp := HZ.out k hkn
      obtain ⟨y, hy⟩ : ∃ y, y = xs.getD k default := ⟨_, rfl⟩
      rw [← hy] at hc hp hgp
      have HY : Hid (y = xs.getD k default) := hy
      have hnn : nn ≤ 1048576 := by rw [← hp.len]; exact hgp.1
      obtain ⟨c0, c1, c2, c3⟩ := hc.of (w' := wr) (fun i => hbr.cell (p := ⟨b, i, none⟩) hlb)
      have HP : Hid (Pts wr an nn y.parts) := hp.kept hbr
      have hkni : (k : Int) < (n : Int) := by omega
      have hs := hbr.size
      clear hc hy hp hgp
      go_wp2_with fail
      refine (toGone_at an nn cn y _ HP.out hnn).mono ?_
      rintro e w2 ⟨g2, rfl, hg2, hp2, hb2⟩
      have hor2 : w2.ownsRow w.heap.size 63 4 (.slice (some ⟨w.heap.size, 0, none⟩) n n) n vs := ownsRow_below HOV.out hb2
      have hs2 := hb2.size
      have fr : ∀ j, w2.frozen? ⟨w.heap.size, j, none⟩ = false := fun j => hor2.frozenAt j
      have hvl : vs.length = n * 4 := hor2.1
      have cx : ∀ j, j < n * 4 → ∃ z, w2.cell? ⟨w.heap.size, j, none⟩ = some z := fun j hj => ⟨_, (hor2.cellAt j hj).trans (List.getElem?_eq_getElem (by omega))⟩
      obtain ⟨z0, x0⟩ := cx (k * 4) (by omega)
      obtain ⟨z1, x1⟩ := cx (k * 4 + 1) (by omega)
      obtain ⟨z2, x2⟩ := cx (k * 4 + 2) (by omega)
      obtain ⟨z3, x3⟩ := cx (k * 4 + 3) (by omega)
      have f0 := fr (k * 4)
      have f1 := fr (k * 4 + 1)
      have f2 := fr (k * 4 + 2)
      have f3 := fr (k * 4 + 3)
      have hS := put4_is hor2 k hkn (some ⟨g2, 0, none⟩) nn nn y
      have hP : GoPre (put4 w2 w.heap.size (k * 4) (.slice (some ⟨g2, 0, none⟩) nn nn) (.int .i64 y.ser) (.int .i64 y.tm) (.int .i64 y.rs)) w.heap.size (k + 1) xs := by
        intro j hj
        by_cases hjk : j = k
        · subst hjk
          rw [← HY.out]
          exact ⟨g2, nn, by omega, hS.cells, hp2.same (hS.other _ (by omega)) (Nat.le_of_eq hS.size.symm)⟩
        · obtain ⟨gn, mm, q1, q2, q3⟩ := (HPRE.out.kept hgl hb2) j (by omega)
          have hx := hS.old
          exact ⟨gn, mm, q1, ⟨(hx _ (by omega) (by omega)).trans q2.c0, (hx _ (by omega) (by omega)).trans q2.c1, (hx _ (by omega) (by omega)).trans q2.c2, (hx _ (by omega) (by omega)).trans q2.c3⟩, q3.same (hS.other _ (by omega)) (Nat.le_of_eq hS.size.symm)⟩
      have hB2 := hbr.trans (hb2.mono hs)
      have hB4 : Below w.heap.size w (put4 w2 w.heap.size (k * 4) (.slice (some ⟨g2, 0, none⟩) nn nn) (.int .i64 y.ser) (.int .i64 y.tm) (.int .i64 y.rs)) := ⟨hB2.os, hB2.tape, hB2.output, by rw [hS.size]; exact hB2.size, fun l hl => (hS.other l (by omega)).trans (hB2.block l hl)⟩
      have FIN : Hid (_ ∧ _ ∧ _) := ⟨hS.own, hP, hB4⟩
      have hgl2 : w.heap.size < w2.heap.size := by omega
      clear fr cx hS hP hB4 hB2 hor2 hp2 hb2 hvl HPRE HOV HP HK
      unfold gov
      go_wp2
      go_roundw
      case rel => exact ⟨k + 1, by omega, by go_num, FIN.out.1, FIN.out.2.1, FIN.out.2.2⟩
      case measure => simp [intOf]; omega
    · obtain rfl : n = k := by omega
      clear HOV
      go_wp2
      go_ret
      exact ⟨rfl, HPRE.out, hgl, hbr⟩
theorem GoPre.gns {w : World} {g n : Nat} {xs : List GP} (h : GoPre w g n xs) (hl : xs.length = n) (hn : n ≤ 9223372036854775807) (hg : g < w.heap.size) : Gns w (some ⟨g, 0, none⟩) n xs := by
  refine ⟨hl, hn, fun k hk => ?_⟩
  obtain ⟨gn, nn, h1, h3, h4⟩ := h k hk
  exact ⟨g, 0, _, _, _, rfl, hg, by rw [Nat.zero_add]; exact h3, h4⟩

end Go.Proofs.YtbfjkmlmnhphoaaDoor
