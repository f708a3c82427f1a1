import Derived.Test.YtmmdklaajejeiaaWRd2
import Derived.Test.YtmmdklaajejeiaaW6
import Derived.Test.YtmmdklaajejeiaaW7
import Derived.Test.YtmmdklaajejeiaaWL1
namespace Go.Proofs.Ytmmdklaajejeiaa
open Go.RowKit

theorem row_set {w : World} {g n : Nat} {bs : List Int} (h : Row w (some ⟨g, 0, none⟩) n bs) (j : Nat) (hj : j < n) (x : Int) (hx : 0 ≤ x ∧ x ≤ 255) : Row (w.setCell ⟨g, j, none⟩ (.int .u8 x)) (some ⟨g, 0, none⟩) n (bs.set j x) := by
  refine ⟨by simp [h.len], fun k hk => ?_, getD_set_bytes h.byte j x hx⟩
  obtain ⟨b, off, ha, hb, hc⟩ := h.get k hk
  simp at ha
  obtain ⟨rfl, rfl⟩ := ha
  refine ⟨g, 0, rfl, by simpa [World.setCell] using hb, ?_⟩
  rw [Nat.zero_add] at hc ⊢
  by_cases e : j = k
  · subst e
    obtain ⟨v, hv⟩ : ∃ v, w.cell? ⟨g, j, none⟩ = some v := ⟨_, hc⟩
    rw [World.cell?_setCell_same _ _ _ hv]
    simp [h.len, hj]
  · have hne : (⟨g, j, none⟩ : Addr) ≠ ⟨g, k, none⟩ := by intro h0; injection h0 with _ h1; exact e h1
    rw [World.cell?_setCell_other (a := ⟨g, j, none⟩) (b := ⟨g, k, none⟩) (h := hne)]
    rw [hc]
    simp [e]

theorem hexT_byte (bs : List Int) (h : ∀ k, 0 ≤ bs.getD k 0 ∧ bs.getD k 0 ≤ 255) : ∀ k, 0 ≤ (hexT bs).getD k 0 ∧ (hexT bs).getD k 0 ≤ 255 := by
  induction bs with
  | nil => simp [hexT]
  | cons x r ih =>
    have hx : 0 ≤ x ∧ x ≤ 255 := by simpa using h 0
    have hr := ih (fun k => by simpa using h (k + 1))
    intro k
    match k with
    | 0 => simpa [hexT] using hexD_byte (x / 16) (by omega) (by omega)
    | 1 => simpa [hexT] using hexD_byte (x % 16) (by omega) (by omega)
    | k + 2 => simpa [hexT] using hr k

theorem getD_append_left' (l r : List Value) (j : Nat) (h : j < l.length) : (l ++ r)[j]? = l[j]? := List.getElem?_append_left h

/-- []byte(text): a row of its own that may be written. -/
theorem conv_bytes (w : World) (ys : List Int) (hy : ∀ k, 0 ≤ ys.getD k 0 ∧ ys.getD k 0 ≤ 255) (hl : ys.length ≤ 1000000) :
    ∃ cp W, (convert 9 22 (.string (strOfNums ys))).run Try.prog w = .ok (.slice (some ⟨w.heap.size, 0, none⟩) ys.length cp) W ∧ Row W (some ⟨w.heap.size, 0, none⟩) ys.length ys ∧ (∀ j, j < ys.length → W.frozen? ⟨w.heap.size, j, none⟩ = false) ∧ Below w.heap.size w W ∧ ys.length ≤ cp ∧ cp ≤ 9223372036854775807 := by
  have hr := run_bytes_of_string (P := Try.prog) w 9 22 5 (strOfNums ys) Try.underlying9 Try.underlying22 Try.underlying5
  rw [strOfNums_size] at hr
  obtain ⟨cp, hcp⟩ : ∃ cp, cp = grownCap w ys.length 0 5 := ⟨_, rfl⟩
  rw [← hcp] at hr
  refine ⟨cp, _, hr, ⟨rfl, fun k hk => ⟨w.heap.size, 0, rfl, by simp, ?_⟩, hy⟩, fun j hj => ?_, ((Below.refl _ _).drew).alloc (Nat.le_refl _) _, ?_, ?_⟩
  · rw [Nat.zero_add, cell_of_row _ w.heap.size k _ 5 _ (heap_alloc_new w.drew _)]
    have h1 : k < (strOfNums ys).data.size := by simpa [strOfNums] using hk
    unfold bytesRow
    rw [Array.getElem?_append_left (by simpa using h1), Array.getElem?_map, Array.getElem?_eq_getElem h1]
    have hb := hy k
    simp [hk] at hb
    simp [strOfNums, hk]
    omega
  · have hsz : ys.length ≤ (bytesRow (strOfNums ys) cp).size := by
      have h1 : (strOfNums ys).data.size = ys.length := by simp [strOfNums]
      unfold bytesRow
      rw [Array.size_append, Array.size_map, h1]
      omega
    have hh := heap_alloc_new w.drew (Obj.cells (bytesRow (strOfNums ys) cp) 5 ((bytesRow (strOfNums ys) cp).size, (bytesRow (strOfNums ys) cp).size + 1))
    have hh' : (w.drew.alloc (Obj.cells (bytesRow (strOfNums ys) cp) 5 ((bytesRow (strOfNums ys) cp).size, (bytesRow (strOfNums ys) cp).size + 1))).heap[w.heap.size]? = some (Obj.cells (bytesRow (strOfNums ys) cp) 5 ((bytesRow (strOfNums ys) cp).size, (bytesRow (strOfNums ys) cp).size + 1)) := hh
    simp only [World.frozen?, hh']
    simp
    omega
  · rw [hcp]; exact grownCap_ge _ _ _ _
  · rw [hcp]
    have := grownCap_le_maxLen w ys.length 0 5 (by unfold maxLen; omega)
    unfold maxLen at this
    omega

theorem lits7 : ∀ k, 0 ≤ ([103, 65, 70, 47, 58, 97, 57] : List Int).getD k 0 ∧ ([103, 65, 70, 47, 58, 97, 57] : List Int).getD k 0 ≤ 255 := by
  intro k
  match k with
  | 0 | 1 | 2 | 3 | 4 | 5 | 6 => decide
  | k + 7 => simp
theorem row_lits (w : World) : Row (w.alloc (.cells #[.int .u8 103, .int .u8 65, .int .u8 70, .int .u8 47, .int .u8 58, .int .u8 97, .int .u8 57] 5 (7, 8))) (some ⟨w.heap.size, 0, none⟩) 7 [103, 65, 70, 47, 58, 97, 57] := by
  refine ⟨rfl, fun k hk => ⟨w.heap.size, 0, rfl, by simp, ?_⟩, lits7⟩
  rw [Nat.zero_add, cell_of_row _ w.heap.size k _ 5 (7, 8) (heap_alloc_new w _)]
  have hc : k = 0 ∨ k = 1 ∨ k = 2 ∨ k = 3 ∨ k = 4 ∨ k = 5 ∨ k = 6 := by omega
  rcases hc with rfl | rfl | rfl | rfl | rfl | rfl | rfl <;> rfl

/-- The text of a row, or of what is behind its first byte. -/
theorem str_small (ys : List Int) (h : ys.length ≤ 100) : (strOfNums ys).size ≤ 1048576 := by rw [strOfNums_size]; omega

set_option maxHeartbeats 1000000 in
theorem drawHexRead_any (a : Option Addr) (n cap : Nat) (bs : List Int) (w : World) (h : Row w a n bs) (hn : n ≤ 1000000000) :
    Calls Try.prog 16 #[.slice a n cap] w fun e w' => ∃ t : ByteArray, e = .returned (.string t) ∧ t.size ≤ 1048576 ∧ Below w.heap.size w w' := by
  have H : Hid (Row w a n bs) := h
  clear h
  go_enter Try.func16, Try.ntmps16
  go_wp2_with fail
  refine (open_any a n cap bs _ H.out hn).mono ?_
  rintro e w1 ⟨rfl, hr1, hb1⟩
  have g1 := hr1.lt
  go_wp2_with fail
  refine (bytes_any _ a n cap bs 20 _ hr1 (by decide) (by decide)).mono ?_
  rintro e w2 ⟨a2, k2, c2, xs, rfl, hk2, ho2, hp2⟩
  go_wp2_with fail
  refine (specHexText_any a2 k2 c2 xs _ ho2.toRow (by omega)).mono ?_
  rintro e w3 ⟨rfl, hb3⟩
  have hp3 : RdPost w1 w.heap.size a n cap bs w3 := ⟨hp2.1.kept hb3, hp2.2.trans (Touch.of_below hb3)⟩
  have s1 := hb1.size
  have s3 := hp3.2.size
  obtain ⟨ys, hys⟩ : ∃ ys, ys = hexT xs := ⟨_, rfl⟩
  have hyb : ∀ k, 0 ≤ ys.getD k 0 ∧ ys.getD k 0 ≤ 255 := by rw [hys]; exact hexT_byte xs ho2.byte
  have hyl : ys.length ≤ 40 := by rw [hys, hexT_len, ho2.length]; omega
  rw [← hys]
  obtain ⟨cp, w4, hcv, hr4, hf4, hb4, hc4, hc5⟩ := conv_bytes w3 ys hyb (by omega)
  have hp4 : RdPost w1 w.heap.size a n cap bs w4 := ⟨hp3.1.kept hb4, hp3.2.trans (Touch.of_below hb4)⟩
  have s4 := hb4.size
  obtain ⟨m, hm⟩ : ∃ m, m = ys.length := ⟨_, rfl⟩
  rw [← hm] at hcv hr4 hf4 hc4 hyl
  have HM : Hid (m = ys.length) := hm
  clear hm hys hp2 hp3 ho2 hb3
  go_wp2_with fail
  refine (once_any _ a n cap bs 3 _ hp4.1 (by decide) (by decide)).mono ?_
  rintro e w5 ⟨o5, rfl, hp5⟩
  have hp45 := hp4.step hp5
  have r5 : Row w5 (some ⟨w3.heap.size, 0, none⟩) m ys := hr4.touch (p := w3.heap.size) (q := w3.heap.size + 1) (fun b off hb _ => by simp at hb; omega) (.inr (by omega)) hp5.2
  have f5 : ∀ j, j < m → w5.frozen? ⟨w3.heap.size, j, none⟩ = false := fun j hj => (World.frozen?_of_block (a := ⟨w3.heap.size, j, none⟩) (hp5.2.block w3.heap.size (by have := (hr4.get j hj); obtain ⟨b, off, hb, hlt, _⟩ := this; simp at hb; omega) (.inr (by omega)))).trans (hf4 j hj)
  by_cases hst : o5 = true ∧ 0 < m
  · obtain ⟨rfl, hmp⟩ := hst
    have hmpi : (0 : Int) < (m : Int) := by omega
    go_wp2_with fail
    refine (below_any _ a n cap bs m _ hp45.1 (by omega)).mono ?_
    rintro e w6 ⟨r, rfl, hr0, hr1', hp6⟩
    obtain ⟨rr, rfl⟩ := Int.eq_ofNat_of_zero_le hr0
    have hrm : rr < m := by omega
    have hrmi : (rr : Int) < (m : Int) := by omega
    have s5 := hp45.2.size
    have s6 := hp6.2.size
    have hcv2 := Lib.run_convert_bytes_const (P := Try.prog) w6 22 5 #[.int .u8 103, .int .u8 65, .int .u8 70, .int .u8 47, .int .u8 58, .int .u8 97, .int .u8 57] 7 7 Try.underlying22 Try.underlying5
    have hp6' := ((hp45.step hp6).alloc (.cells #[.int .u8 103, .int .u8 65, .int .u8 70, .int .u8 47, .int .u8 58, .int .u8 97, .int .u8 57] 5 (7, 8)))
    have hbl : Below w6.heap.size w6 (w6.alloc (.cells #[.int .u8 103, .int .u8 65, .int .u8 70, .int .u8 47, .int .u8 58, .int .u8 97, .int .u8 57] 5 (7, 8))) := (Below.refl _ _).alloc (Nat.le_refl _) _
    go_wp2_with fail
    refine (below_any _ a n cap bs 7 _ hp6'.1 (by decide)).mono ?_
    rintro e w8 ⟨q, rfl, hq0, hq1, hp8⟩
    obtain ⟨qq, rfl⟩ := Int.eq_ofNat_of_zero_le hq0
    have hq7 : qq < 7 := by omega
    have hq7i : (qq : Int) < 7 := by omega
    have hl8 := (row_lits w6).touch (p := w6.heap.size) (q := w6.heap.size + 1) (fun b off hb _ => by simp at hb; omega) (.inr (by omega)) hp8.2
    have r8 : Row w8 (some ⟨w3.heap.size, 0, none⟩) m ys := ((r5.touch (p := w3.heap.size) (q := w3.heap.size + 1) (fun b off hb _ => by simp at hb; omega) (.inr (by omega)) hp6.2).kept hbl).touch (p := w3.heap.size) (q := w3.heap.size + 1) (fun b off hb _ => by simp at hb; omega) (.inr (by omega)) hp8.2
    obtain ⟨b1, o1, e1, hlt1, hc1⟩ := hl8.get qq hq7
    simp only [Option.some.injEq, Addr.mk.injEq, and_true] at e1
    obtain ⟨rfl, rfl⟩ := e1
    rw [Nat.zero_add] at hc1
    obtain ⟨y, hy⟩ : ∃ y, y = ([103, 65, 70, 47, 58, 97, 57] : List Int).getD qq 0 := ⟨_, rfl⟩
    have hyr := lits7 qq
    rw [← hy] at hc1 hyr
    clear hy
    obtain ⟨b2, o2, e2, hlt2, hc2⟩ := r8.get rr hrm
    simp only [Option.some.injEq, Addr.mk.injEq, and_true] at e2
    obtain ⟨rfl, rfl⟩ := e2
    rw [Nat.zero_add] at hc2
    have hw3l : w3.heap.size < w5.heap.size := by obtain ⟨b, off, hb, hlt, _⟩ := r5.get rr hrm; simp at hb; omega
    have f8 : w8.frozen? ⟨w3.heap.size, rr, none⟩ = false := by
      have e5 := World.frozen?_of_block (a := ⟨w3.heap.size, rr, none⟩) (hp6.2.block w3.heap.size hw3l (.inr (by omega)))
      have e6 := World.frozen?_of_block (a := ⟨w3.heap.size, rr, none⟩) (hbl.block w3.heap.size (by omega))
      have e7 := World.frozen?_of_block (a := ⟨w3.heap.size, rr, none⟩) (hp8.2.block w3.heap.size (by simp; omega) (.inr (by omega)))
      rw [e7, e6, e5]; exact f5 rr hrm
    have rS := row_set r8 rr hrm y hyr
    have hp8' := hp6'.step hp8
    have s8 := hp8'.2.size
    have hpS : RdPost w1 w.heap.size a n cap bs (w8.setCell ⟨w3.heap.size, rr, none⟩ (.int .u8 y)) := by
      refine hp8'.grown (lo := w1.heap.size) (hi := w3.heap.size + 1) ?_ g1 (Nat.le_refl _)
      exact Touch.setCell (p := ⟨w3.heap.size, rr, none⟩) (Touch.same _ _ _) s3 (Nat.lt_succ_self _) _
    have HPS : Hid (RdPost w1 w.heap.size a n cap bs (w8.setCell ⟨w3.heap.size, rr, none⟩ (.int .u8 y))) := hpS
    have HRS : Hid (Row (w8.setCell ⟨w3.heap.size, rr, none⟩ (.int .u8 y)) (some ⟨w3.heap.size, 0, none⟩) m (ys.set rr y)) := rS
    clear hpS rS hl8 r8
    go_wp2_with fail
    have sP := HPS.out.2.size
    refine (once_any _ a n cap bs 8 _ HPS.out.1 (by decide) (by decide)).mono ?_
    rintro e w9 ⟨o9, rfl, hp9⟩
    have hpQ := HPS.out.step hp9
    have rQ : Row w9 (some ⟨w3.heap.size, 0, none⟩) m (ys.set rr y) := HRS.out.touch (p := w3.heap.size) (q := w3.heap.size + 1) (fun b off hb _ => by simp at hb; omega) (.inr (by omega)) hp9.2
    have bQ : Below w.heap.size w w9 := hpQ.below hb1
    clear hcv
    by_cases hst2 : o9 = true ∧ 0 < m
    · obtain ⟨rfl, hm2⟩ := hst2
      have hm2i : (0 : Int) < (m : Int) := by omega
      by_cases hcp : cp = 1
      · have hm1 : m = 1 := by omega
        subst hm1
        subst hcp
        have hcv3 := convert_row (cap := 0) (w := w9) (a := some ⟨w3.heap.size, 0, none⟩) (n := 0) (bs := []) ⟨rfl, fun k hk => absurd hk (Nat.not_lt_zero _), by simp⟩
        go_wp2
        go_ret
        exact ⟨_, rfl, by decide, bQ⟩
      · have hcv3 := convert_row (cap := cp - 1) (rQ.drop 1 (by omega))
        have hsm : (strOfNums ((ys.set rr y).drop 1)).size ≤ 1048576 := str_small _ (by rw [List.length_drop, rQ.len]; omega)
        go_wp2
        go_ret
        exact ⟨_, rfl, by simpa using hsm, bQ⟩
    · have hcv3 := convert_row (cap := cp) rQ
      have hsm : (strOfNums (ys.set rr y)).size ≤ 1048576 := str_small _ (by rw [rQ.len]; omega)
      rcases (show o9 = false ∨ o9 = true ∧ m = 0 by cases o9 <;> simp at hst2 ⊢; exact hst2) with rfl | ⟨rfl, hm0⟩
      · go_wp2
        go_ret
        exact ⟨_, rfl, hsm, bQ⟩
      · subst hm0
        go_wp2
        go_ret
        exact ⟨_, rfl, hsm, bQ⟩
  · rcases (show o5 = false ∨ o5 = true ∧ m = 0 by cases o5 <;> simp at hst ⊢; exact hst) with rfl | ⟨rfl, hm0⟩
    · go_wp2_with fail
      have sP := hp45.2.size
      refine (once_any _ a n cap bs 8 _ hp45.1 (by decide) (by decide)).mono ?_
      rintro e w9 ⟨o9, rfl, hp9⟩
      have hpQ := hp45.step hp9
      have rQ : Row w9 (some ⟨w3.heap.size, 0, none⟩) m ys := r5.touch (p := w3.heap.size) (q := w3.heap.size + 1) (fun b off hb _ => by simp at hb; omega) (.inr (by omega)) hp9.2
      have bQ : Below w.heap.size w w9 := hpQ.below hb1
      clear hcv
      by_cases hst2 : o9 = true ∧ 0 < m
      · obtain ⟨rfl, hm2⟩ := hst2
        have hm2i : (0 : Int) < (m : Int) := by omega
        by_cases hcp : cp = 1
        · have hm1 : m = 1 := by omega
          subst hm1
          subst hcp
          have hcv3 := convert_row (cap := 0) (w := w9) (a := some ⟨w3.heap.size, 0, none⟩) (n := 0) (bs := []) ⟨rfl, fun k hk => absurd hk (Nat.not_lt_zero _), by simp⟩
          go_wp2
          go_ret
          exact ⟨_, rfl, by decide, bQ⟩
        · have hcv3 := convert_row (cap := cp - 1) (rQ.drop 1 (by omega))
          have hsm : (strOfNums (ys.drop 1)).size ≤ 1048576 := str_small _ (by rw [List.length_drop, rQ.len]; omega)
          go_wp2
          go_ret
          exact ⟨_, rfl, by simpa using hsm, bQ⟩
      · have hcv3 := convert_row (cap := cp) rQ
        have hsm : (strOfNums ys).size ≤ 1048576 := str_small _ (by rw [rQ.len]; omega)
        rcases (show o9 = false ∨ o9 = true ∧ m = 0 by cases o9 <;> simp at hst2 ⊢; exact hst2) with rfl | ⟨rfl, hm0⟩
        · go_wp2
          go_ret
          exact ⟨_, rfl, hsm, bQ⟩
        · subst hm0
          go_wp2
          go_ret
          exact ⟨_, rfl, hsm, bQ⟩
    · subst hm0
      go_wp2_with fail
      refine (once_any _ a n cap bs 8 _ hp45.1 (by decide) (by decide)).mono ?_
      rintro e w9 ⟨o9, rfl, hp9⟩
      have hpQ := hp45.step hp9
      have rQ : Row w9 (some ⟨w3.heap.size, 0, none⟩) 0 ys := r5.touch (p := w3.heap.size) (q := w3.heap.size + 1) (fun b off hb h0 => absurd h0 (Nat.lt_irrefl _)) (.inr (by omega)) hp9.2
      have bQ : Below w.heap.size w w9 := hpQ.below hb1
      clear hcv
      have hcv3 := convert_row (cap := cp) rQ
      have hsm : (strOfNums ys).size ≤ 1048576 := str_small _ (by rw [rQ.len]; omega)
      cases o9 with
      | false =>
        go_wp2
        go_ret
        exact ⟨_, rfl, hsm, bQ⟩
      | true =>
        go_wp2
        go_ret
        exact ⟨_, rfl, hsm, bQ⟩

end Go.Proofs.Ytmmdklaajejeiaa
