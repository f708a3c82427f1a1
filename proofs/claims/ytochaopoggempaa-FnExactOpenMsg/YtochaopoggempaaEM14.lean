import Derived.Test.YtochaopoggempaaEM10
import Derived.Test.YtochaopoggempaaEM11
import Derived.Test.YtochaopoggempaaEM13
namespace Go.Proofs.Ytochaopoggempaa
open Go.RowKit Go.Sort

theorem results_e1 {fn : Func} {t : Tmp} (h : fn.results = #[.cell t 46]) (tmps : Array Value) (g : Nat) (ht : tmps.getD t undef = .pointer (some ⟨g, 0, none⟩)) (w : World) (c0 c1 c2 c3 : Value)
    (hb : w.heap[g]? = some (.cells #[c0, c1, c2, c3] 46 (0, 0))) : (results fn tmps).run Try.prog w = .ok (.agg #[c0, c1, c2, c3]) w := by
  have d0 : w.cell? ⟨g, 0, none⟩ = some c0 := (cell_of_row _ g 0 _ 46 (0, 0) hb).trans rfl
  have d1 : w.cell? ⟨g, 1, none⟩ = some c1 := (cell_of_row _ g 1 _ 46 (0, 0) hb).trans rfl
  have d2 : w.cell? ⟨g, 2, none⟩ = some c2 := (cell_of_row _ g 2 _ 46 (0, 0) hb).trans rfl
  have d3 : w.cell? ⟨g, 3, none⟩ = some c3 := (cell_of_row _ g 3 _ 46 (0, 0) hb).trans rfl
  clear hb
  have ht' : tmps[t]?.getD undef = .pointer (some ⟨g, 0, none⟩) := by rw [← ht]; simp
  simp [results, h, go_sem, ht', d0, d1, d2, d3]
/-- The law's own envelope in a block. -/
def BlkVL (w : World) (g : Nat) (c0 c1 c2 c3 : Value) : Prop := w.heap[g]? = some (.cells #[c0, c1, c2, c3] 58)
theorem BlkVL.cells {w : World} {g : Nat} {c0 c1 c2 c3 : Value} (h : BlkVL w g c0 c1 c2 c3) : w.cell? ⟨g, 0, none⟩ = some c0 ∧ w.cell? ⟨g, 1, none⟩ = some c1 ∧ w.cell? ⟨g, 2, none⟩ = some c2 ∧ w.cell? ⟨g, 3, none⟩ = some c3 :=
  ⟨(cell_of_row _ _ 0 _ 58 (0, 0) h).trans rfl, (cell_of_row _ _ 1 _ 58 (0, 0) h).trans rfl, (cell_of_row _ _ 2 _ 58 (0, 0) h).trans rfl, (cell_of_row _ _ 3 _ 58 (0, 0) h).trans rfl⟩
theorem BlkVL.lt {w : World} {g : Nat} {c0 c1 c2 c3 : Value} (h : BlkVL w g c0 c1 c2 c3) : g < w.heap.size := (Array.getElem?_eq_some_iff.1 h).1
theorem BlkVL.kept {w w' : World} {g : Nat} {c0 c1 c2 c3 : Value} (h : BlkVL w g c0 c1 c2 c3) (hb : Below w.heap.size w w') : BlkVL w' g c0 c1 c2 c3 := (hb.block _ h.lt).trans h
theorem BlkVL.off {w : World} {g g' i : Nat} {c0 c1 c2 c3 : Value} (h : BlkVL w g c0 c1 c2 c3) (v : Value) (hg : g ≠ g') : BlkVL (w.setCell ⟨g', i, none⟩ v) g c0 c1 c2 c3 := (Below.heap_setCell _ _ _ _ hg).trans h
theorem BlkVL.touch {lo hi : Nat} {w w' : World} {g : Nat} {c0 c1 c2 c3 : Value} (h : BlkVL w g c0 c1 c2 c3) (ht : Touch lo hi w w') (hg : g < lo ∨ hi ≤ g) : BlkVL w' g c0 c1 c2 c3 := (ht.block _ h.lt hg).trans h
theorem BlkV.set0 {w : World} {g : Nat} {c0 c1 c2 c3 : Value} (h : BlkV w g c0 c1 c2 c3) (v : Value) : BlkV (w.setCell ⟨g, 0, none⟩ v) g v c1 c2 c3 := heap_setCell_same w g 0 _ 46 v h

set_option maxRecDepth 10000 in
set_option maxHeartbeats 400000 in
theorem szByteS_v (a : Option Addr) (n cap : Nat) (l : Int) (w : World) (hl0 : 0 ≤ l) (hl : l ≤ 1048576) (hn : n ≤ 9223372036854775807) :
    Calls Try.prog 51 #[.slice a n cap, .int .i64 l] w fun e w' => e = .returned (.int .i64 (if l < n then -1 else l - n)) ∧ w' = w := by
  by_cases h : l < n
  · have h' : l - (n : Int) < 0 := by omega
    rw [if_pos h]
    go_enter Try.func51, Try.ntmps51
    go_wp2
    go_ret
    exact ⟨rfl, rfl⟩
  · have h' : 0 ≤ l - (n : Int) := by omega
    rw [if_neg h]
    go_enter Try.func51, Try.ntmps51
    go_wp2
    go_ret
    exact ⟨rfl, rfl⟩

set_option maxRecDepth 10000 in
set_option maxHeartbeats 1000000 in
theorem szEnv_any (eph : Int) (wa : Option Addr) (wn wc : Nat) (ba : Option Addr) (bn bc : Nat) (tg : Int) (w : World) (hn : wn ≤ 9223372036854775807) (hn2 : bn ≤ 9223372036854775807) :
    Calls Try.prog 32 #[evv eph wa wn wc ba bn bc tg, .int .i64 1048576] w fun e w' => ∃ v : Int, e = .returned (.int .i64 v) ∧ Hid (v < 0 ∨ 0 ≤ v ∧ wn + bn ≤ 1048576) ∧ Below w.heap.size w w' := by
  obtain ⟨wb, hwb⟩ : ∃ wb, wb = w.alloc (.cells #[.int .i64 eph, .slice wa wn wc, .slice ba bn bc, .int .u64 tg] 58) := ⟨_, rfl⟩
  have hbb : Below w.heap.size w wb := by rw [hwb]; exact (Below.refl _ _).alloc (Nat.le_refl _) _
  have HX : Hid (BlkVL wb w.heap.size (.int .i64 eph) (.slice wa wn wc) (.slice ba bn bc) (.int .u64 tg)) := by rw [hwb]; exact heap_alloc_new w _
  have HW : Hid (_ = _) := hwb
  clear hwb
  obtain ⟨p0, p1, p2, p3⟩ := HX.out.cells
  rw [evv]
  go_enter Try.func32, Try.ntmps32
  go_upto_region 1 with fail
  rw [← HW.out]
  clear HW
  go_wp2_with fail
  refine (szWrS_any wa wn wc 1048576 _ hn (by decide) (by decide)).mono ?_
  rintro e w2 ⟨rfl, hw⟩
  have hw2 := hw.symm
  subst hw2
  by_cases h1 : (1048576 : Int) < wn
  · rw [if_pos h1]
    go_wp2
    go_ret
    exact ⟨-1, rfl, .inl (by decide), hbb⟩
  · rw [if_neg h1]
    obtain ⟨l, hl⟩ : ∃ l, l = (1048576 : Int) - wn := ⟨_, rfl⟩
    have HL : Hid (l = 1048576 - wn) := hl
    have hl0 : 0 ≤ l := by omega
    have hl1 : l ≤ 1048576 := by omega
    have hl2 : ¬ l < 0 := by omega
    rw [← hl]
    clear hl h1
    go_wp2_with fail
    refine (szByteS_v ba bn bc l _ hl0 hl1 hn2).mono ?_
    rintro e w3 ⟨rfl, hw⟩
    have hw2 := hw.symm
    subst hw2
    by_cases h2 : l < bn
    · rw [if_pos h2]
      go_wp2
      go_ret
      exact ⟨-1, rfl, .inl (by decide), hbb⟩
    · rw [if_neg h2]
      obtain ⟨l3, hl3⟩ : ∃ l3, l3 = l - (bn : Int) := ⟨_, rfl⟩
      have h4 : ¬ l3 < 0 := by omega
      have HL3 : Hid (0 ≤ l3 ∧ wn + bn ≤ 1048576) := ⟨by omega, by have := HL.out; omega⟩
      rw [← hl3]
      clear hl3 h2
      go_wp2
      go_ret
      exact ⟨l3, rfl, .inr HL3.out, hbb⟩

set_option maxRecDepth 10000 in
set_option maxHeartbeats 2000000 in
theorem toEnv_any (eph : Int) (wa : Option Addr) (wn wc : Nat) (ba : Option Addr) (bn bc : Nat) (tg : Int) (ws : List (Int × Int)) (bs : List Int) (w : World) (h1 : RowWr w wa wn ws) (h2 : Row w ba bn bs) (hn : wn + bn ≤ 1048576) :
    Calls Try.prog 34 #[evv eph wa wn wc ba bn bc tg] w fun e w' => ∃ wa' ba', e = .returned (evv eph wa' wn wn ba' bn bn tg) ∧ EvW w.heap.size w'.heap.size w' wa' wn wn ws ba' bn bn bs ∧ (ba' = none → bn = 0) ∧ Below w.heap.size w w' := by
  obtain ⟨w1, hw1⟩ : ∃ w1, w1 = ((w.alloc (.cells #[.int .i64 eph, .slice wa wn wc, .slice ba bn bc, .int .u64 tg] 58)).alloc (.cells #[.int .i64 0, .slice none 0 0, .slice none 0 0, .int .u64 0] 46)).alloc (.cells #[.int .i64 eph, .slice none 0 0, .slice none 0 0, .int .u64 0] 46) := ⟨_, rfl⟩
  have hb1 : Below w.heap.size w w1 := by rw [hw1]; exact (((Below.refl _ _).alloc (Nat.le_refl _) _).alloc (by simp) _).alloc (by simp; omega) _
  have s1 : (w.alloc (.cells #[.int .i64 eph, .slice wa wn wc, .slice ba bn bc, .int .u64 tg] 58)).heap.size = w.heap.size + 1 := by simp
  have s2 : ((w.alloc (.cells #[.int .i64 eph, .slice wa wn wc, .slice ba bn bc, .int .u64 tg] 58)).alloc (.cells #[.int .i64 0, .slice none 0 0, .slice none 0 0, .int .u64 0] 46)).heap.size = w.heap.size + 1 + 1 := by simp
  have HA : Hid (BlkVL w1 w.heap.size (.int .i64 eph) (.slice wa wn wc) (.slice ba bn bc) (.int .u64 tg)) := by
    rw [hw1]
    exact (heap_alloc_old _ _ (by simp; omega)).trans ((heap_alloc_old _ _ (by simp)).trans (heap_alloc_new w _))
  have HZ1 : Hid (BlkV w1 (w.heap.size + 1) (.int .i64 0) (.slice none 0 0) (.slice none 0 0) (.int .u64 0)) := by
    rw [hw1]
    exact (heap_alloc_old _ _ (by simp)).trans (by rw [← s1]; exact heap_alloc_new _ _)
  have HZ2 : Hid (BlkV w1 (w.heap.size + 1 + 1) (.int .i64 eph) (.slice none 0 0) (.slice none 0 0) (.int .u64 0)) := by
    rw [hw1, ← s2]
    exact heap_alloc_new _ _
  have HW : Hid (_ = _) := hw1
  have H1 : Hid (RowWr w wa wn ws) := h1
  have H2 : Hid (Row w ba bn bs) := h2
  clear hw1 s1 s2 h1 h2
  obtain ⟨p0, p1, p2, p3⟩ := HA.out.cells
  rw [evv]
  go_enter Try.func34, Try.ntmps34
  go_upto_region 3 with fail
  rw [← HW.out]
  clear HW
  go_wp2_with fail
  refine (toWrS_any wa wn wc ws _ (H1.out.kept hb1) (by omega)).mono ?_
  rintro e w2 ⟨a2, rfl, ho2, hb2⟩
  have z1 := HZ2.out.lt
  have HA2 : Hid (BlkVL w2 w.heap.size (.int .i64 eph) (.slice wa wn wc) (.slice ba bn bc) (.int .u64 tg)) := HA.out.kept hb2
  have HZ12 : Hid (BlkV w2 (w.heap.size + 1) (.int .i64 0) (.slice none 0 0) (.slice none 0 0) (.int .u64 0)) := HZ1.out.kept hb2
  have HZ22 : Hid (BlkV w2 (w.heap.size + 1 + 1) (.int .i64 eph) (.slice none 0 0) (.slice none 0 0) (.int .u64 0)) := HZ2.out.kept hb2
  obtain ⟨⟨_, x1, _⟩, _, y1, _⟩ := HZ22.out.cells
  have B2 := keepT hb1 hb2
  have q2 := hb2.size
  obtain ⟨w3, hw3⟩ : ∃ w3, w3 = w2.setCell ⟨w.heap.size + 1 + 1, 1, none⟩ (.slice a2 wn wn) := ⟨_, rfl⟩
  have HA3 : Hid (BlkVL w3 w.heap.size (.int .i64 eph) (.slice wa wn wc) (.slice ba bn bc) (.int .u64 tg)) := by rw [hw3]; exact HA2.out.off _ (by omega)
  have HZ13 : Hid (BlkV w3 (w.heap.size + 1) (.int .i64 0) (.slice none 0 0) (.slice none 0 0) (.int .u64 0)) := by rw [hw3]; exact HZ12.out.off _ (by omega)
  have HZ23 : Hid (BlkV w3 (w.heap.size + 1 + 1) (.int .i64 eph) (.slice a2 wn wn) (.slice none 0 0) (.int .u64 0)) := by rw [hw3]; exact HZ22.out.set1 _
  have HO3 : Hid (OwnWr w1.heap.size w3 a2 wn wn ws) := by rw [hw3]; exact ho2.off 1 _ z1
  have B3 : Below w.heap.size w w3 := by rw [hw3]; exact B2.setCell (show w.heap.size ≤ w.heap.size + 1 + 1 by omega) _
  have q3 : w3.heap.size = w2.heap.size := by rw [hw3]; simp
  have HW3 : Hid (_ = _) := hw3
  clear hw3 HA HZ1 HZ2 HA2 HZ12 HZ22 p0 p1 p2 p3
  go_upto_region 4 with fail
  rw [← HW3.out]
  clear HW3 x1 y1
  obtain ⟨p0, p1, p2, p3⟩ := HA3.out.cells
  go_wp2_with fail
  refine (toByteS_any ba bn bc bs _ (H2.out.kept B3) (by omega)).mono ?_
  rintro e w5 ⟨a5, rfl, ho5, hb5⟩
  have HA5 : Hid (BlkVL w5 w.heap.size (.int .i64 eph) (.slice wa wn wc) (.slice ba bn bc) (.int .u64 tg)) := HA3.out.kept hb5
  have HZ15 : Hid (BlkV w5 (w.heap.size + 1) (.int .i64 0) (.slice none 0 0) (.slice none 0 0) (.int .u64 0)) := HZ13.out.kept hb5
  have HZ25 : Hid (BlkV w5 (w.heap.size + 1 + 1) (.int .i64 eph) (.slice a2 wn wn) (.slice none 0 0) (.int .u64 0)) := HZ23.out.kept hb5
  have HO5 : Hid (OwnWr w1.heap.size w5 a2 wn wn ws) := HO3.out.kept hb5
  have B5 := keepT B3 hb5
  have q5 := hb5.size
  obtain ⟨⟨_, _, x2, _⟩, _, _, y2, _⟩ := HZ25.out.cells
  obtain ⟨w6, hw6⟩ : ∃ w6, w6 = w5.setCell ⟨w.heap.size + 1 + 1, 2, none⟩ (.slice a5 bn bn) := ⟨_, rfl⟩
  have HA6 : Hid (BlkVL w6 w.heap.size (.int .i64 eph) (.slice wa wn wc) (.slice ba bn bc) (.int .u64 tg)) := by rw [hw6]; exact HA5.out.off _ (by omega)
  have HZ16 : Hid (BlkV w6 (w.heap.size + 1) (.int .i64 0) (.slice none 0 0) (.slice none 0 0) (.int .u64 0)) := by rw [hw6]; exact HZ15.out.off _ (by omega)
  have HZ26 : Hid (BlkV w6 (w.heap.size + 1 + 1) (.int .i64 eph) (.slice a2 wn wn) (.slice a5 bn bn) (.int .u64 0)) := by rw [hw6]; exact HZ25.out.set2 _
  have HO6 : Hid (OwnWr w1.heap.size w6 a2 wn wn ws) := by rw [hw6]; exact HO5.out.off 2 _ z1
  have HP6 : Hid (Own w1.heap.size w6 a5 bn bn bs) := by rw [hw6]; exact (ho5.mono (show w1.heap.size ≤ w3.heap.size by omega)).offE 2 _ z1
  have B6 : Below w.heap.size w w6 := by rw [hw6]; exact B5.setCell (show w.heap.size ≤ w.heap.size + 1 + 1 by omega) _
  have q6 : w6.heap.size = w5.heap.size := by rw [hw6]; simp
  have HW6 : Hid (_ = _) := hw6
  clear hw6 HA3 HZ13 HZ23 HO3 HA5 HZ15 HZ25 HO5 p0 p1 p2 p3
  go_upto_region 5 with fail
  rw [← HW6.out]
  clear HW6 x2 y2
  obtain ⟨p0, p1, p2, p3⟩ := HA6.out.cells
  obtain ⟨⟨_, _, _, x3⟩, _, _, _, y3⟩ := HZ26.out.cells
  have l6 := HZ26.out.lt
  obtain ⟨w7, hw7⟩ : ∃ w7, w7 = w6.setCell ⟨w.heap.size + 1 + 1, 3, none⟩ (.int .u64 tg) := ⟨_, rfl⟩
  have HZ17 : Hid (BlkV w7 (w.heap.size + 1) (.int .i64 0) (.slice none 0 0) (.slice none 0 0) (.int .u64 0)) := by rw [hw7]; exact HZ16.out.off _ (by omega)
  have HZ27 : Hid (BlkV w7 (w.heap.size + 1 + 1) (.int .i64 eph) (.slice a2 wn wn) (.slice a5 bn bn) (.int .u64 tg)) := by rw [hw7]; exact HZ26.out.set3 _
  have HO7 : Hid (OwnWr w1.heap.size w7 a2 wn wn ws) := by rw [hw7]; exact HO6.out.off 3 _ z1
  have HP7 : Hid (Own w1.heap.size w7 a5 bn bn bs) := by rw [hw7]; exact HP6.out.offE 3 _ z1
  have B7 : Below w.heap.size w w7 := by rw [hw7]; exact B6.setCell (show w.heap.size ≤ w.heap.size + 1 + 1 by omega) _
  have q7 : w7.heap.size = w6.heap.size := by rw [hw7]; simp
  have HW7 : Hid (_ = _) := hw7
  clear hw7 HA6 HZ16 HZ26 HO6 HP6
  go_upto_region 6 with fail
  rw [← HW7.out]
  clear HW7 x3 y3 p0 p1 p2 p3
  obtain ⟨⟨u0, u1, u2, u3⟩, v0, v1, v2, v3⟩ := HZ17.out.cells
  obtain ⟨⟨x0, x1, x2, x3⟩, y0, y1, y2, y3⟩ := HZ27.out.cells
  have l7 := HZ27.out.lt
  go_wp2
  try simp only [Exit.inBlock, Exit.then]
  refine bodyPost_ret (results_e1 rfl _ (w.heap.size + 1) rfl _ _ _ _ _ (heap_set4 HZ17.out _ _ _ _)) rfl ?_
  have T := touch4 w7 (w.heap.size + 1) (.int .i64 eph) (.slice a2 wn wn) (.slice a5 bn bn) (.int .u64 tg)
  have I2 : In a2 wn w1.heap.size w2.heap.size := ho2.in_
  have I5 : In a5 bn w3.heap.size w5.heap.size := ho5.in_
  have R2 := HO7.out.toRow.touch I2 (.inr (by omega)) T
  have R5 := HP7.out.toRow.touch I5 (.inr (by omega)) T
  exact ⟨a2, a5, rfl, ⟨R2, R5, fun hp => (HO7.out.touch I2 (.inr (by omega)) T hp).mono (by omega), fun hp => (HP7.out.touch I5 (.inr (by omega)) T hp).mono (by omega), w2.heap.size, by have := B2.size; omega, by rw [sizeV]; omega, .inl ⟨I2.mono (by omega) (Nat.le_refl _), I5.mono (by omega) (by rw [sizeV]; omega)⟩⟩, ho5.nil, belowV B7 _ (by omega) _ _ _ _⟩

end Go.Proofs.Ytochaopoggempaa
