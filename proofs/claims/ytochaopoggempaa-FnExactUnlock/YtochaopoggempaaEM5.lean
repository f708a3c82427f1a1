import Derived.Test.YtochaopoggempaaEM4
import Derived.Lib.QuietBelow
import Derived.BigQuiet
namespace Go.Proofs.Ytochaopoggempaa
open Go.RowKit Go.Sort

theorem results_s1 {fn : Func} {t : Tmp} (h : fn.results = #[.cell t 29]) (tmps : Array Value) (g : Nat) (ht : tmps.getD t undef = .pointer (some ⟨g, 0, none⟩)) (w : World) (c0 c1 c2 c3 : Value)
    (hb : w.heap[g]? = some (.cells #[c0, c1, c2, c3] 29 (0, 0))) : (results fn tmps).run Try.prog w = .ok (.agg #[c0, c1, c2, c3]) w := by
  have d0 : w.cell? ⟨g, 0, none⟩ = some c0 := (cell_of_row _ g 0 _ 29 (0, 0) hb).trans rfl
  have d1 : w.cell? ⟨g, 1, none⟩ = some c1 := (cell_of_row _ g 1 _ 29 (0, 0) hb).trans rfl
  have d2 : w.cell? ⟨g, 2, none⟩ = some c2 := (cell_of_row _ g 2 _ 29 (0, 0) hb).trans rfl
  have d3 : w.cell? ⟨g, 3, none⟩ = some c3 := (cell_of_row _ g 3 _ 29 (0, 0) hb).trans rfl
  clear hb
  have ht' : tmps[t]?.getD undef = .pointer (some ⟨g, 0, none⟩) := by rw [← ht]; simp
  simp [results, h, go_sem, ht', d0, d1, d2, d3]
/-- The law's own store in a block. -/
def Blk4L (w : World) (g : Nat) (c0 c1 c2 c3 : Value) : Prop := w.heap[g]? = some (.cells #[c0, c1, c2, c3] 36)
theorem Blk4L.cells {w : World} {g : Nat} {c0 c1 c2 c3 : Value} (h : Blk4L w g c0 c1 c2 c3) : w.cell? ⟨g, 0, none⟩ = some c0 ∧ w.cell? ⟨g, 1, none⟩ = some c1 ∧ w.cell? ⟨g, 2, none⟩ = some c2 ∧ w.cell? ⟨g, 3, none⟩ = some c3 :=
  ⟨(cell_of_row _ _ 0 _ 36 (0, 0) h).trans rfl, (cell_of_row _ _ 1 _ 36 (0, 0) h).trans rfl, (cell_of_row _ _ 2 _ 36 (0, 0) h).trans rfl, (cell_of_row _ _ 3 _ 36 (0, 0) h).trans rfl⟩
theorem Blk4L.lt {w : World} {g : Nat} {c0 c1 c2 c3 : Value} (h : Blk4L w g c0 c1 c2 c3) : g < w.heap.size := (Array.getElem?_eq_some_iff.1 h).1
theorem Blk4L.kept {w w' : World} {g : Nat} {c0 c1 c2 c3 : Value} (h : Blk4L w g c0 c1 c2 c3) (hb : Below w.heap.size w w') : Blk4L w' g c0 c1 c2 c3 := (hb.block _ h.lt).trans h
theorem Blk4L.off {w : World} {g g' i : Nat} {c0 c1 c2 c3 : Value} (h : Blk4L w g c0 c1 c2 c3) (v : Value) (hg : g ≠ g') : Blk4L (w.setCell ⟨g', i, none⟩ v) g c0 c1 c2 c3 := (Below.heap_setCell _ _ _ _ hg).trans h
theorem Blk4L.touch {lo hi : Nat} {w w' : World} {g : Nat} {c0 c1 c2 c3 : Value} (h : Blk4L w g c0 c1 c2 c3) (ht : Touch lo hi w w') (hg : g < lo ∨ hi ≤ g) : Blk4L w' g c0 c1 c2 c3 := (ht.block _ h.lt hg).trans h
theorem Blk4.off {w : World} {g g' i : Nat} {c0 c1 c2 c3 : Value} (h : Blk4 w g c0 c1 c2 c3) (v : Value) (hg : g ≠ g') : Blk4 (w.setCell ⟨g', i, none⟩ v) g c0 c1 c2 c3 := (Below.heap_setCell _ _ _ _ hg).trans h
theorem Blk4.set0 {w : World} {g : Nat} {c0 c1 c2 c3 : Value} (h : Blk4 w g c0 c1 c2 c3) (v : Value) : Blk4 (w.setCell ⟨g, 0, none⟩ v) g v c1 c2 c3 := heap_setCell_same w g 0 _ 29 v h
theorem Blk4.set1 {w : World} {g : Nat} {c0 c1 c2 c3 : Value} (h : Blk4 w g c0 c1 c2 c3) (v : Value) : Blk4 (w.setCell ⟨g, 1, none⟩ v) g c0 v c2 c3 := heap_setCell_same w g 1 _ 29 v h
theorem Blk4.set2 {w : World} {g : Nat} {c0 c1 c2 c3 : Value} (h : Blk4 w g c0 c1 c2 c3) (v : Value) : Blk4 (w.setCell ⟨g, 2, none⟩ v) g c0 c1 v c3 := heap_setCell_same w g 2 _ 29 v h
theorem Blk4.set3 {w : World} {g : Nat} {c0 c1 c2 c3 : Value} (h : Blk4 w g c0 c1 c2 c3) (v : Value) : Blk4 (w.setCell ⟨g, 3, none⟩ v) g c0 c1 c2 v := heap_setCell_same w g 3 _ 29 v h

set_option maxRecDepth 10000 in
set_option maxHeartbeats 400000 in
theorem szByteS_e (a : Option Addr) (n cap : Nat) (l : Int) (w : World) (hl0 : 0 ≤ l) (hl : l ≤ 1048576) (hn : n ≤ 9223372036854775807) :
    Calls Try.prog 51 #[.slice a n cap, .int .i64 l] w fun e w' => e = .returned (.int .i64 (if l < n then -1 else l - n)) ∧ w' = w := by
  by_cases h : l < n
  · have h' : l - (n : Int) < 0 := by omega
    rw [if_pos h]
    go_enter Try.func51, Try.ntmps51
    go_wp2
    go_ret
    exact ⟨rfl, rfl⟩
  · have h' : 0 ≤ l - (n : Int) := by omega
    rw [if_neg h]
    go_enter Try.func51, Try.ntmps51
    go_wp2
    go_ret
    exact ⟨rfl, rfl⟩

set_option maxRecDepth 10000 in
set_option maxHeartbeats 1000000 in
theorem szStore_any (sa : Option Addr) (sn sc : Nat) (rd : Int) (ba : Option Addr) (bn bc : Nat) (tg : Int) (w : World) (hn : sn ≤ 9223372036854775807) (hn2 : bn ≤ 9223372036854775807) :
    Calls Try.prog 18 #[stv sa sn sc rd ba bn bc tg, .int .i64 1048576] w fun e w' => ∃ v : Int, e = .returned (.int .i64 v) ∧ Hid (v < 0 ∨ 0 ≤ v ∧ sn + bn ≤ 1048576) ∧ Below w.heap.size w w' := by
  obtain ⟨wb, hwb⟩ : ∃ wb, wb = w.alloc (.cells #[.slice sa sn sc, .int .i64 rd, .slice ba bn bc, .int .u64 tg] 36) := ⟨_, rfl⟩
  have hbb : Below w.heap.size w wb := by rw [hwb]; exact (Below.refl _ _).alloc (Nat.le_refl _) _
  have HX : Hid (Blk4L wb w.heap.size (.slice sa sn sc) (.int .i64 rd) (.slice ba bn bc) (.int .u64 tg)) := by rw [hwb]; exact heap_alloc_new w _
  have HW : Hid (_ = _) := hwb
  clear hwb
  obtain ⟨p0, p1, p2, p3⟩ := HX.out.cells
  rw [stv]
  go_enter Try.func18, Try.ntmps18
  go_upto_region 1 with fail
  rw [← HW.out]
  clear HW
  go_wp2_with fail
  refine (szByteS_e sa sn sc 1048576 _ (by decide) (by decide) hn).mono ?_
  rintro e w2 ⟨rfl, hw⟩
  have hw2 := hw.symm
  subst hw2
  by_cases h1 : (1048576 : Int) < sn
  · rw [if_pos h1]
    go_wp2
    go_ret
    exact ⟨-1, rfl, .inl (by decide), hbb⟩
  · rw [if_neg h1]
    obtain ⟨l, hl⟩ : ∃ l, l = (1048576 : Int) - sn := ⟨_, rfl⟩
    have HL : Hid (l = 1048576 - sn) := hl
    have hl0 : 0 ≤ l := by omega
    have hl1 : l ≤ 1048576 := by omega
    have hl2 : ¬ l < 0 := by omega
    rw [← hl]
    clear hl h1
    go_wp2_with fail
    refine (szByteS_e ba bn bc l _ hl0 hl1 hn2).mono ?_
    rintro e w3 ⟨rfl, hw⟩
    have hw2 := hw.symm
    subst hw2
    by_cases h2 : l < bn
    · rw [if_pos h2]
      go_wp2
      go_ret
      exact ⟨-1, rfl, .inl (by decide), hbb⟩
    · rw [if_neg h2]
      obtain ⟨l3, hl3⟩ : ∃ l3, l3 = l - (bn : Int) := ⟨_, rfl⟩
      have h4 : ¬ l3 < 0 := by omega
      have HL3 : Hid (0 ≤ l3 ∧ sn + bn ≤ 1048576) := ⟨by omega, by have := HL.out; omega⟩
      rw [← hl3]
      clear hl3 h2
      go_wp2
      go_ret
      exact ⟨l3, rfl, .inr HL3.out, hbb⟩

set_option maxRecDepth 10000 in
set_option maxHeartbeats 2000000 in
theorem toStore_any (sa : Option Addr) (sn sc : Nat) (rd : Int) (ba : Option Addr) (bn bc : Nat) (tg : Int) (ss bs : List Int) (w : World) (h1 : Row w sa sn ss) (h2 : Row w ba bn bs) (hn : sn + bn ≤ 1048576) :
    Calls Try.prog 20 #[stv sa sn sc rd ba bn bc tg] w fun e w' => ∃ sa' ba', e = .returned (stv sa' sn sn rd ba' bn bn tg) ∧ StW w.heap.size w'.heap.size w' sa' sn sn ss ba' bn bn bs ∧ (sa' = none → sn = 0) ∧ (ba' = none → bn = 0) ∧ Below w.heap.size w w' := by
  obtain ⟨w1, hw1⟩ : ∃ w1, w1 = ((w.alloc (.cells #[.slice sa sn sc, .int .i64 rd, .slice ba bn bc, .int .u64 tg] 36)).alloc (.cells #[.slice none 0 0, .int .i64 0, .slice none 0 0, .int .u64 0] 29)).alloc (.cells #[.slice none 0 0, .int .i64 0, .slice none 0 0, .int .u64 0] 29) := ⟨_, rfl⟩
  have hb1 : Below w.heap.size w w1 := by rw [hw1]; exact (((Below.refl _ _).alloc (Nat.le_refl _) _).alloc (by simp) _).alloc (by simp; omega) _
  have s1 : (w.alloc (.cells #[.slice sa sn sc, .int .i64 rd, .slice ba bn bc, .int .u64 tg] 36)).heap.size = w.heap.size + 1 := by simp
  have s2 : ((w.alloc (.cells #[.slice sa sn sc, .int .i64 rd, .slice ba bn bc, .int .u64 tg] 36)).alloc (.cells #[.slice none 0 0, .int .i64 0, .slice none 0 0, .int .u64 0] 29)).heap.size = w.heap.size + 1 + 1 := by simp
  have HA : Hid (Blk4L w1 w.heap.size (.slice sa sn sc) (.int .i64 rd) (.slice ba bn bc) (.int .u64 tg)) := by
    rw [hw1]
    exact (heap_alloc_old _ _ (by simp; omega)).trans ((heap_alloc_old _ _ (by simp)).trans (heap_alloc_new w _))
  have HZ1 : Hid (Blk4 w1 (w.heap.size + 1) (.slice none 0 0) (.int .i64 0) (.slice none 0 0) (.int .u64 0)) := by
    rw [hw1]
    exact (heap_alloc_old _ _ (by simp)).trans (by rw [← s1]; exact heap_alloc_new _ _)
  have HZ2 : Hid (Blk4 w1 (w.heap.size + 1 + 1) (.slice none 0 0) (.int .i64 0) (.slice none 0 0) (.int .u64 0)) := by
    rw [hw1, ← s2]
    exact heap_alloc_new _ _
  have HW : Hid (_ = _) := hw1
  have H1 : Hid (Row w sa sn ss) := h1
  have H2 : Hid (Row w ba bn bs) := h2
  clear hw1 s1 s2 h1 h2
  obtain ⟨p0, p1, p2, p3⟩ := HA.out.cells
  rw [stv]
  go_enter Try.func20, Try.ntmps20
  go_upto_region 2 with fail
  rw [← HW.out]
  clear HW
  go_wp2_with fail
  refine (toByteS_any sa sn sc ss _ (H1.out.kept hb1) (by omega)).mono ?_
  rintro e w2 ⟨a2, rfl, ho2, hb2⟩
  have z1 := HZ2.out.lt
  have HA2 : Hid (Blk4L w2 w.heap.size (.slice sa sn sc) (.int .i64 rd) (.slice ba bn bc) (.int .u64 tg)) := HA.out.kept hb2
  have HZ12 : Hid (Blk4 w2 (w.heap.size + 1) (.slice none 0 0) (.int .i64 0) (.slice none 0 0) (.int .u64 0)) := HZ1.out.kept hb2
  have HZ22 : Hid (Blk4 w2 (w.heap.size + 1 + 1) (.slice none 0 0) (.int .i64 0) (.slice none 0 0) (.int .u64 0)) := HZ2.out.kept hb2
  obtain ⟨⟨x0, _⟩, y0, _⟩ := HZ22.out.cells
  have B2 := keepT hb1 hb2
  obtain ⟨w3, hw3⟩ : ∃ w3, w3 = w2.setCell ⟨w.heap.size + 1 + 1, 0, none⟩ (.slice a2 sn sn) := ⟨_, rfl⟩
  have HA3 : Hid (Blk4L w3 w.heap.size (.slice sa sn sc) (.int .i64 rd) (.slice ba bn bc) (.int .u64 tg)) := by rw [hw3]; exact HA2.out.off _ (by omega)
  have HZ13 : Hid (Blk4 w3 (w.heap.size + 1) (.slice none 0 0) (.int .i64 0) (.slice none 0 0) (.int .u64 0)) := by rw [hw3]; exact HZ12.out.off _ (by omega)
  have HZ23 : Hid (Blk4 w3 (w.heap.size + 1 + 1) (.slice a2 sn sn) (.int .i64 0) (.slice none 0 0) (.int .u64 0)) := by rw [hw3]; exact HZ22.out.set0 _
  have HO3 : Hid (Own w1.heap.size w3 a2 sn sn ss) := by rw [hw3]; exact ho2.off 0 _ z1
  have B3 : Below w.heap.size w w3 := by rw [hw3]; exact B2.setCell (show w.heap.size ≤ w.heap.size + 1 + 1 by omega) _
  have q3 : w3.heap.size = w2.heap.size := by rw [hw3]; simp
  have HW3 : Hid (_ = _) := hw3
  clear hw3 HA HZ1 HZ2 HA2 HZ12 HZ22 p0 p1 p2 p3
  go_upto_region 3 with fail
  rw [← HW3.out]
  clear HW3 x0 y0
  obtain ⟨p0, p1, p2, p3⟩ := HA3.out.cells
  obtain ⟨⟨_, x1, _⟩, _, y1, _⟩ := HZ23.out.cells
  have l3 := HZ23.out.lt
  obtain ⟨w4, hw4⟩ : ∃ w4, w4 = w3.setCell ⟨w.heap.size + 1 + 1, 1, none⟩ (.int .i64 rd) := ⟨_, rfl⟩
  have HA4 : Hid (Blk4L w4 w.heap.size (.slice sa sn sc) (.int .i64 rd) (.slice ba bn bc) (.int .u64 tg)) := by rw [hw4]; exact HA3.out.off _ (by omega)
  have HZ14 : Hid (Blk4 w4 (w.heap.size + 1) (.slice none 0 0) (.int .i64 0) (.slice none 0 0) (.int .u64 0)) := by rw [hw4]; exact HZ13.out.off _ (by omega)
  have HZ24 : Hid (Blk4 w4 (w.heap.size + 1 + 1) (.slice a2 sn sn) (.int .i64 rd) (.slice none 0 0) (.int .u64 0)) := by rw [hw4]; exact HZ23.out.set1 _
  have HO4 : Hid (Own w1.heap.size w4 a2 sn sn ss) := by rw [hw4]; exact HO3.out.off 1 _ z1
  have B4 : Below w.heap.size w w4 := by rw [hw4]; exact B3.setCell (show w.heap.size ≤ w.heap.size + 1 + 1 by omega) _
  have q4 : w4.heap.size = w3.heap.size := by rw [hw4]; simp
  have HW4 : Hid (_ = _) := hw4
  clear hw4 HA3 HZ13 HZ23 HO3
  go_upto_region 4 with fail
  rw [← HW4.out]
  clear HW4 x1 y1 p0 p1 p2 p3
  obtain ⟨p0, p1, p2, p3⟩ := HA4.out.cells
  go_wp2_with fail
  refine (toByteS_any ba bn bc bs _ (H2.out.kept B4) (by omega)).mono ?_
  rintro e w5 ⟨a5, rfl, ho5, hb5⟩
  have HA5 : Hid (Blk4L w5 w.heap.size (.slice sa sn sc) (.int .i64 rd) (.slice ba bn bc) (.int .u64 tg)) := HA4.out.kept hb5
  have HZ15 : Hid (Blk4 w5 (w.heap.size + 1) (.slice none 0 0) (.int .i64 0) (.slice none 0 0) (.int .u64 0)) := HZ14.out.kept hb5
  have HZ25 : Hid (Blk4 w5 (w.heap.size + 1 + 1) (.slice a2 sn sn) (.int .i64 rd) (.slice none 0 0) (.int .u64 0)) := HZ24.out.kept hb5
  have HO5 : Hid (Own w1.heap.size w5 a2 sn sn ss) := HO4.out.kept hb5
  have B5 := keepT B4 hb5
  have q5 := hb5.size
  obtain ⟨⟨_, _, x2, _⟩, _, _, y2, _⟩ := HZ25.out.cells
  obtain ⟨w6, hw6⟩ : ∃ w6, w6 = w5.setCell ⟨w.heap.size + 1 + 1, 2, none⟩ (.slice a5 bn bn) := ⟨_, rfl⟩
  have HA6 : Hid (Blk4L w6 w.heap.size (.slice sa sn sc) (.int .i64 rd) (.slice ba bn bc) (.int .u64 tg)) := by rw [hw6]; exact HA5.out.off _ (by omega)
  have HZ16 : Hid (Blk4 w6 (w.heap.size + 1) (.slice none 0 0) (.int .i64 0) (.slice none 0 0) (.int .u64 0)) := by rw [hw6]; exact HZ15.out.off _ (by omega)
  have HZ26 : Hid (Blk4 w6 (w.heap.size + 1 + 1) (.slice a2 sn sn) (.int .i64 rd) (.slice a5 bn bn) (.int .u64 0)) := by rw [hw6]; exact HZ25.out.set2 _
  have HO6 : Hid (Own w1.heap.size w6 a2 sn sn ss) := by rw [hw6]; exact HO5.out.off 2 _ z1
  have HP6 : Hid (Own w1.heap.size w6 a5 bn bn bs) := by rw [hw6]; exact (ho5.mono (show w1.heap.size ≤ w4.heap.size by have := hb2.size; omega)).off 2 _ z1
  have B6 : Below w.heap.size w w6 := by rw [hw6]; exact B5.setCell (show w.heap.size ≤ w.heap.size + 1 + 1 by omega) _
  have q6 : w6.heap.size = w5.heap.size := by rw [hw6]; simp
  have HW6 : Hid (_ = _) := hw6
  clear hw6 HA4 HZ14 HZ24 HO4 HA5 HZ15 HZ25 HO5 p0 p1 p2 p3
  go_upto_region 5 with fail
  rw [← HW6.out]
  clear HW6 x2 y2
  obtain ⟨p0, p1, p2, p3⟩ := HA6.out.cells
  obtain ⟨⟨_, _, _, x3⟩, _, _, _, y3⟩ := HZ26.out.cells
  have l6 := HZ26.out.lt
  obtain ⟨w7, hw7⟩ : ∃ w7, w7 = w6.setCell ⟨w.heap.size + 1 + 1, 3, none⟩ (.int .u64 tg) := ⟨_, rfl⟩
  have HZ17 : Hid (Blk4 w7 (w.heap.size + 1) (.slice none 0 0) (.int .i64 0) (.slice none 0 0) (.int .u64 0)) := by rw [hw7]; exact HZ16.out.off _ (by omega)
  have HZ27 : Hid (Blk4 w7 (w.heap.size + 1 + 1) (.slice a2 sn sn) (.int .i64 rd) (.slice a5 bn bn) (.int .u64 tg)) := by rw [hw7]; exact HZ26.out.set3 _
  have HO7 : Hid (Own w1.heap.size w7 a2 sn sn ss) := by rw [hw7]; exact HO6.out.off 3 _ z1
  have HP7 : Hid (Own w1.heap.size w7 a5 bn bn bs) := by rw [hw7]; exact HP6.out.off 3 _ z1
  have B7 : Below w.heap.size w w7 := by rw [hw7]; exact B6.setCell (show w.heap.size ≤ w.heap.size + 1 + 1 by omega) _
  have q7 : w7.heap.size = w6.heap.size := by rw [hw7]; simp
  have HW7 : Hid (_ = _) := hw7
  clear hw7 HA6 HZ16 HZ26 HO6 HP6
  go_upto_region 6 with fail
  rw [← HW7.out]
  clear HW7 x3 y3 p0 p1 p2 p3
  obtain ⟨⟨u0, u1, u2, u3⟩, v0, v1, v2, v3⟩ := HZ17.out.cells
  obtain ⟨⟨x0, x1, x2, x3⟩, y0, y1, y2, y3⟩ := HZ27.out.cells
  have l7 := HZ27.out.lt
  go_wp2
  try simp only [Exit.inBlock, Exit.then]
  have hQ3 := HO7.out.off4 (g := w.heap.size + 1) (.slice a2 sn sn) (.int .i64 rd) (.slice a5 bn bn) (.int .u64 tg) (by omega)
  have hQ4 := HP7.out.off4 (g := w.heap.size + 1) (.slice a2 sn sn) (.int .i64 rd) (.slice a5 bn bn) (.int .u64 tg) (by omega)
  refine bodyPost_ret (results_s1 rfl _ (w.heap.size + 1) rfl _ _ _ _ _ (heap_set4 HZ17.out _ _ _ _)) rfl ?_
  refine ⟨a2, a5, rfl, ⟨hQ3.toRow, hQ4.toRow, fun _ => hQ3.mono (by omega), fun _ => hQ4.mono (by omega), w2.heap.size, by have := B2.size; omega, by rw [size4]; omega, .inl ⟨ho2.in_.mono (by omega) (Nat.le_refl _), ?_⟩⟩, ho2.nil, ho5.nil, below4 B7 _ (by omega) _ _ _ _⟩
  rw [size4]
  exact ho5.in_.mono (by omega) (by omega)

open Classical in
/-- What Unlock answers. -/
noncomputable def unlR (ss : List Int) (rd : Int) (bs : List Int) (tg : Int) (s : ByteArray) : List Int × Int :=
  if lkP bs.length s.size ss.length rd then (if tg = tagN (pkN s ss rd.toNat) bs then (maskL (pkN s ss rd.toNat) bs, 0) else ([], 2)) else ([], 1)
theorem unlR_len (ss : List Int) (rd : Int) (bs : List Int) (tg : Int) (s : ByteArray) : (unlR ss rd bs tg s).1.length ≤ 4000 := by
  unfold unlR
  split
  · rename_i h
    split
    · show (maskL _ bs).length ≤ 4000
      rw [maskL_len]; exact h.1
    · simp
  · simp
def UlA (t : List Int × Int) (w : World) (e : Ending) (w' : World) : Prop :=
  ∃ a n c, e = .returned (.tuple #[.slice a n c, .int .i64 t.2]) ∧ Own w.heap.size w' a n c t.1 ∧ Below w.heap.size w w'

set_option maxRecDepth 10000 in
set_option maxHeartbeats 2000000 in
theorem implUnlock_any (sa : Option Addr) (sn sc : Nat) (rd : Int) (ba : Option Addr) (bn bc : Nat) (tg : Int) (ss bs : List Int) (s : ByteArray) (w : World) (h1 : Row w sa sn ss) (h2 : Row w ba bn bs) (hc1 : sa = none → sc = 0) (hc2 : ba = none → bc = 0) :
    Calls Try.prog 21 #[stv sa sn sc rd ba bn bc tg, .string s] w (UlA (unlR ss rd bs tg s) w) := by
  have L1 : Hid (ss.length = sn) := h1.len
  have L2 : Hid (bs.length = bn) := h2.len
  obtain ⟨wb, hwb⟩ : ∃ wb, wb = w.alloc (.cells #[.slice sa sn sc, .int .i64 rd, .slice ba bn bc, .int .u64 tg] 29) := ⟨_, rfl⟩
  have B0 : Below w.heap.size w wb := by rw [hwb]; exact (Below.refl _ _).alloc (Nat.le_refl _) _
  have HX : Hid (Blk4 wb w.heap.size (.slice sa sn sc) (.int .i64 rd) (.slice ba bn bc) (.int .u64 tg)) := by rw [hwb]; exact heap_alloc_new w _
  have HW : Hid (_ = _) := hwb
  have H1 : Hid (Row w sa sn ss) := h1
  have H2 : Hid (Row w ba bn bs) := h2
  clear hwb h1 h2
  obtain ⟨⟨x0, x1, x2, x3⟩, _⟩ := HX.out.cells
  rw [stv]
  by_cases hp : lkP bn s.size sn rd
  · have HP : Hid (lkP bn s.size sn rd) := hp
    obtain ⟨rn, rfl⟩ : ∃ rn : Nat, rd = (rn : Int) := ⟨rd.toNat, by have := hp.2.2.2; omega⟩
    have hn : bn ≤ 4000 := hp.1
    have hs : s.size ≤ 100 := hp.2.1
    have hm : sn ≤ 16 := hp.2.2.1
    have hrn : rn ≤ 1000 := by have := hp.2.2.2; omega
    clear hp
    obtain ⟨k, hk⟩ : ∃ k, k = pkN s ss rn := ⟨_, rfl⟩
    have hkb : U64 k := by rw [hk]; exact pkN_bd _ _ _
    have HK : Hid (k = pkN s ss rn) := hk
    clear hk
    go_enter Try.func21, Try.ntmps21
    go_upto_region 1 with fail
    rw [← HW.out]
    clear HW
    go_wp2_with fail
    refine (lockOk_t ba bn bc s sa sn sc (rn : Int) _ HP.out).mono ?_
    rintro e w1 ⟨rfl, hw⟩
    have hw2 := hw.symm
    subst hw2
    go_wp2_with fail
    refine (lockKey_any s sa sn sc ss rn _ (H1.out.kept B0) hs hm hc1 hrn).mono ?_
    rintro e w2 ⟨rfl, hb2⟩
    rw [← HK.out]
    have B2 := keepT B0 hb2
    have HX2 : Hid (Blk4 w2 w.heap.size (.slice sa sn sc) (.int .i64 rn) (.slice ba bn bc) (.int .u64 tg)) := HX.out.kept hb2
    have HR2 : Hid (Row w2 ba bn bs) := H2.out.kept B2
    clear x0 x1 x2 x3
    obtain ⟨⟨x0, x1, x2, x3⟩, _⟩ := HX2.out.cells
    have q2 := cell_regrown x2
    have q3 := cell_regrown x3
    have ca : Hid (∀ d os, Calls Try.prog 50 #[.int .u64 k, .slice ba bn bc] (grow (redrawn w2 d) os) fun e w'' => e = .returned (.int .u64 (tagN k bs)) ∧ ∃ p : Regrown, w'' = grow (redrawn w2 p.d) p.os) := fun d os => Calls.regrown_of (sealTag_any k ba bn bc bs _ hkb (HR2.out.kept (below_regrown w2 d os)) (by omega) hc2)
    obtain ⟨v, hv⟩ : ∃ v, v = tagN k bs := ⟨_, rfl⟩
    have HVT : Hid (v = tagN k bs) := hv
    rw [← hv] at ca
    clear hv
    by_cases ht : tg = v
    · subst ht
      have HV : Hid (unlR ss rn bs tg s = (maskL k bs, 0)) := by
        show _ = _
        unfold unlR
        rw [if_pos (by rw [L1.out, L2.out]; exact HP.out), Int.toNat_natCast, ← HK.out, if_pos HVT.out]
      have zt : (tg != tg) = false := by simp
      go_wp2_with fail
      refine wp_region_quiet_below (by kernel_rfl) (by kernel_rfl) ?_
      iterate 5 (go_big_quiet_step (fail))
      go_big_quiet_step (exact ca.out _ _)
      go_big_quiet_step (fail)
      refine wpQuiet_nil ?_
      intro _ hw'
      obtain ⟨⟨dq, osq⟩, hw''⟩ := hw'
      subst hw''
      have b3 := below_regrown w2 dq osq
      have B3 := keepT B2 b3
      have x2' := q2 dq osq
      have HR3 : Hid (Row (grow (redrawn w2 dq) osq) ba bn bs) := HR2.out.kept b3
      go_wp2_with fail
      refine (masked_any k ba bn bc bs _ hkb HR3.out (by omega) hc2).mono ?_
      rintro e w4 ⟨a4, c4, rfl, ho4, hb4⟩
      go_wp2
      go_ret2
      exact ⟨a4, bn, c4, by rw [HV.out]; rfl, by rw [HV.out]; exact ho4.mono B3.size, keepT B3 hb4⟩
    · have HV : Hid (unlR ss rn bs tg s = ([], 2)) := by
        show _ = _
        unfold unlR
        rw [if_pos (by rw [L1.out, L2.out]; exact HP.out), Int.toNat_natCast, ← HK.out, ← HVT.out, if_neg ht]
      have zt : (tg != v) = true := by simpa using ht
      go_wp2_with fail
      refine wp_region_quiet_below (by kernel_rfl) (by kernel_rfl) ?_
      iterate 5 (go_big_quiet_step (fail))
      go_big_quiet_step (exact ca.out _ _)
      go_big_quiet_step (fail)
      refine wpQuiet_nil ?_
      intro _ hw'
      obtain ⟨⟨dq, osq⟩, hw''⟩ := hw'
      subst hw''
      have B3 := keepT B2 (below_regrown w2 dq osq)
      go_wp2
      go_ret2
      exact ⟨none, 0, 0, by rw [HV.out]; rfl, by rw [HV.out]; exact own_nilE _ _, B3⟩
  · have HP : Hid (¬ lkP bn s.size sn rd) := hp
    have HV : Hid (unlR ss rd bs tg s = ([], 1)) := by show _ = _; unfold unlR; rw [if_neg (by rw [L1.out, L2.out]; exact HP.out)]
    clear hp
    go_enter Try.func21, Try.ntmps21
    go_upto_region 1 with fail
    rw [← HW.out]
    clear HW
    go_wp2_with fail
    refine (lockOk_f ba bn bc s sa sn sc rd _ HP.out).mono ?_
    rintro e w1 ⟨rfl, hw⟩
    have hw2 := hw.symm
    subst hw2
    go_wp2
    go_ret2
    exact ⟨none, 0, 0, by rw [HV.out]; rfl, by rw [HV.out]; exact own_nilE _ _, B0⟩

set_option maxRecDepth 10000 in
set_option maxHeartbeats 2000000 in
theorem specUnlock_any (sa : Option Addr) (sn sc : Nat) (rd : Int) (ba : Option Addr) (bn bc : Nat) (tg : Int) (ss bs : List Int) (s : ByteArray) (w : World) (h1 : Row w sa sn ss) (h2 : Row w ba bn bs) (hc1 : sa = none → sc = 0) (hc2 : ba = none → bc = 0) :
    Calls Try.prog 19 #[stv sa sn sc rd ba bn bc tg, .string s] w (UlA (unlR ss rd bs tg s) w) := by
  have L1 : Hid (ss.length = sn) := h1.len
  have L2 : Hid (bs.length = bn) := h2.len
  obtain ⟨wb, hwb⟩ : ∃ wb, wb = w.alloc (.cells #[.slice sa sn sc, .int .i64 rd, .slice ba bn bc, .int .u64 tg] 29) := ⟨_, rfl⟩
  have B0 : Below w.heap.size w wb := by rw [hwb]; exact (Below.refl _ _).alloc (Nat.le_refl _) _
  have HX : Hid (Blk4 wb w.heap.size (.slice sa sn sc) (.int .i64 rd) (.slice ba bn bc) (.int .u64 tg)) := by rw [hwb]; exact heap_alloc_new w _
  have HW : Hid (_ = _) := hwb
  have H1 : Hid (Row w sa sn ss) := h1
  have H2 : Hid (Row w ba bn bs) := h2
  clear hwb h1 h2
  obtain ⟨⟨x0, x1, x2, x3⟩, _⟩ := HX.out.cells
  rw [stv]
  by_cases hp : lkP bn s.size sn rd
  · have HP : Hid (lkP bn s.size sn rd) := hp
    obtain ⟨rn, rfl⟩ : ∃ rn : Nat, rd = (rn : Int) := ⟨rd.toNat, by have := hp.2.2.2; omega⟩
    have hn : bn ≤ 4000 := hp.1
    have hs : s.size ≤ 100 := hp.2.1
    have hm : sn ≤ 16 := hp.2.2.1
    have hrn : rn ≤ 1000 := by have := hp.2.2.2; omega
    clear hp
    obtain ⟨k, hk⟩ : ∃ k, k = pkN s ss rn := ⟨_, rfl⟩
    have hkb : U64 k := by rw [hk]; exact pkN_bd _ _ _
    have HK : Hid (k = pkN s ss rn) := hk
    clear hk
    go_enter Try.func19, Try.ntmps19
    go_upto_region 1 with fail
    rw [← HW.out]
    clear HW
    go_wp2_with fail
    refine (l17LockOk_t ba bn bc s sa sn sc (rn : Int) _ HP.out).mono ?_
    rintro e w1 ⟨rfl, hw⟩
    have hw2 := hw.symm
    subst hw2
    go_wp2_with fail
    refine (l17PassKey_any s sa sn sc ss rn _ (H1.out.kept B0) hs hm hc1 hrn).mono ?_
    rintro e w2 ⟨rfl, hb2⟩
    rw [← HK.out]
    have B2 := keepT B0 hb2
    have HX2 : Hid (Blk4 w2 w.heap.size (.slice sa sn sc) (.int .i64 rn) (.slice ba bn bc) (.int .u64 tg)) := HX.out.kept hb2
    have HR2 : Hid (Row w2 ba bn bs) := H2.out.kept B2
    clear x0 x1 x2 x3
    obtain ⟨⟨x0, x1, x2, x3⟩, _⟩ := HX2.out.cells
    have q2 := cell_regrown x2
    have q3 := cell_regrown x3
    have ca : Hid (∀ d os, Calls Try.prog 45 #[.int .u64 k, .slice ba bn bc] (grow (redrawn w2 d) os) fun e w'' => e = .returned (.int .u64 (tagN k bs)) ∧ ∃ p : Regrown, w'' = grow (redrawn w2 p.d) p.os) := fun d os => Calls.regrown_of (l17Tag_any k ba bn bc bs _ hkb (HR2.out.kept (below_regrown w2 d os)) (by omega) hc2)
    obtain ⟨v, hv⟩ : ∃ v, v = tagN k bs := ⟨_, rfl⟩
    have HVT : Hid (v = tagN k bs) := hv
    rw [← hv] at ca
    clear hv
    by_cases ht : tg = v
    · subst ht
      have HV : Hid (unlR ss rn bs tg s = (maskL k bs, 0)) := by
        show _ = _
        unfold unlR
        rw [if_pos (by rw [L1.out, L2.out]; exact HP.out), Int.toNat_natCast, ← HK.out, if_pos HVT.out]
      have zt : (tg != tg) = false := by simp
      go_wp2_with fail
      refine wp_region_quiet_below (by kernel_rfl) (by kernel_rfl) ?_
      iterate 5 (go_big_quiet_step (fail))
      go_big_quiet_step (exact ca.out _ _)
      go_big_quiet_step (fail)
      refine wpQuiet_nil ?_
      intro _ hw'
      obtain ⟨⟨dq, osq⟩, hw''⟩ := hw'
      subst hw''
      have b3 := below_regrown w2 dq osq
      have B3 := keepT B2 b3
      have x2' := q2 dq osq
      have HR3 : Hid (Row (grow (redrawn w2 dq) osq) ba bn bs) := HR2.out.kept b3
      go_wp2_with fail
      refine (l17Stream_any k ba bn bc bs _ hkb HR3.out (by omega) hc2).mono ?_
      rintro e w4 ⟨a4, c4, rfl, ho4, hb4⟩
      go_wp2
      go_ret2
      exact ⟨a4, bn, c4, by rw [HV.out]; rfl, by rw [HV.out]; exact ho4.mono B3.size, keepT B3 hb4⟩
    · have HV : Hid (unlR ss rn bs tg s = ([], 2)) := by
        show _ = _
        unfold unlR
        rw [if_pos (by rw [L1.out, L2.out]; exact HP.out), Int.toNat_natCast, ← HK.out, ← HVT.out, if_neg ht]
      have zt : (tg != v) = true := by simpa using ht
      go_wp2_with fail
      refine wp_region_quiet_below (by kernel_rfl) (by kernel_rfl) ?_
      iterate 5 (go_big_quiet_step (fail))
      go_big_quiet_step (exact ca.out _ _)
      go_big_quiet_step (fail)
      refine wpQuiet_nil ?_
      intro _ hw'
      obtain ⟨⟨dq, osq⟩, hw''⟩ := hw'
      subst hw''
      have B3 := keepT B2 (below_regrown w2 dq osq)
      go_wp2
      go_ret2
      exact ⟨_, 0, 0, by rw [HV.out]; rfl, by rw [HV.out]; exact own_zeroE _ _ _ (by first | rfl | simp | simp [grow]) (B3).size, (B3).alloc (B3).size _⟩
  · have HP : Hid (¬ lkP bn s.size sn rd) := hp
    have HV : Hid (unlR ss rd bs tg s = ([], 1)) := by show _ = _; unfold unlR; rw [if_neg (by rw [L1.out, L2.out]; exact HP.out)]
    clear hp
    go_enter Try.func19, Try.ntmps19
    go_upto_region 1 with fail
    rw [← HW.out]
    clear HW
    go_wp2_with fail
    refine (l17LockOk_f ba bn bc s sa sn sc rd _ HP.out).mono ?_
    rintro e w1 ⟨rfl, hw⟩
    have hw2 := hw.symm
    subst hw2
    go_wp2
    go_ret2
    exact ⟨_, 0, 0, by rw [HV.out]; rfl, by rw [HV.out]; exact own_zeroE _ _ _ (by first | rfl | simp | simp [grow]) (B0).size, (B0).alloc (B0).size _⟩

end Go.Proofs.Ytochaopoggempaa
