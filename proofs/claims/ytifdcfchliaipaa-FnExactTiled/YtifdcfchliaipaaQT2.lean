import Derived.Test.YtifdcfchliaipaaQT1
import Derived.Deep.DeepCutAuto
namespace Go.Proofs.Ytifdcfchliaipaa
open Go.RowKit Go.Sort

theorem results_tl {fn : Func} {t : Tmp} (h : fn.results = #[.cell t 74]) (tmps : Array Value) (g : Nat) (ht : tmps.getD t undef = .pointer (some ⟨g, 0, none⟩)) (w : World) (c0 c1 c2 : Value)
    (hb : w.heap[g]? = some (.cells #[c0, c1, c2] 74 (0, 0))) : (results fn tmps).run Try.prog w = .ok (.agg #[c0, c1, c2]) w := by
  have d0 : w.cell? ⟨g, 0, none⟩ = some c0 := (cell_of_row _ g 0 _ 74 (0, 0) hb).trans rfl
  have d1 : w.cell? ⟨g, 1, none⟩ = some c1 := (cell_of_row _ g 1 _ 74 (0, 0) hb).trans rfl
  have d2 : w.cell? ⟨g, 2, none⟩ = some c2 := (cell_of_row _ g 2 _ 74 (0, 0) hb).trans rfl
  clear hb
  have ht' : tmps[t]?.getD undef = .pointer (some ⟨g, 0, none⟩) := by rw [← ht]; simp
  simp [results, h, go_sem, ht', d0, d1, d2]
theorem heap_set3Q {w : World} {g t : Nat} {c0 c1 c2 : Value} (h : w.heap[g]? = some (.cells #[c0, c1, c2] t (0, 0))) (v0 v1 v2 : Value) : (((w.setCell ⟨g, 0, none⟩ v0).setCell ⟨g, 1, none⟩ v1).setCell ⟨g, 2, none⟩ v2).heap[g]? = some (.cells #[v0, v1, v2] t (0, 0)) :=
  heap_setCell_same _ _ 2 _ t _ (heap_setCell_same _ _ 1 _ t _ (heap_setCell_same _ _ 0 _ t _ h))

set_option maxRecDepth 10000 in
set_option maxHeartbeats 4000000 in
theorem toTileOf_any (lv ix : Int) (a : Option Addr) (n c : Nat) (hs : List Int) (w : World) (h : RowU w a n hs) (hn : n ≤ 1048576) :
    Calls Try.prog 53 #[tlv lv ix a n c] w fun e w' => ∃ a1, e = .returned (tlv lv ix a1 n n) ∧ OwnU w.heap.size w' a1 n n hs ∧ Below w.heap.size w w' := by
  obtain ⟨w1, hw1⟩ : ∃ w1, w1 = ((w.alloc (.cells #[.int .i64 lv, .int .i64 ix, .slice a n c] 73)).alloc (.cells #[.int .i64 0, .int .i64 0, .slice none 0 0] 74)).alloc (.cells #[.int .i64 lv, .int .i64 ix, .slice none 0 0] 74) := ⟨_, rfl⟩
  have hbb : Below w.heap.size w w1 := by rw [hw1]; exact (((Below.refl _ _).alloc (Nat.le_refl _) _).alloc (by simp) _).alloc (by simp; omega) _
  have hsz : w1.heap.size = w.heap.size + 3 := by rw [hw1]; simp
  have s1 : (w.alloc (.cells #[.int .i64 lv, .int .i64 ix, .slice a n c] 73)).heap.size = w.heap.size + 1 := by simp
  have B0 : w1.heap[w.heap.size]? = some (.cells #[.int .i64 lv, .int .i64 ix, .slice a n c] 73) := by
    rw [hw1]
    exact (heap_alloc_old _ _ (by simp; omega)).trans ((heap_alloc_old _ _ (by simp)).trans (heap_alloc_new w _))
  have B1 : w1.heap[w.heap.size + 1]? = some (.cells #[.int .i64 0, .int .i64 0, .slice none 0 0] 74) := by
    rw [hw1]
    exact (heap_alloc_old _ _ (by simp)).trans (by rw [← s1]; exact heap_alloc_new _ _)
  have B2 : w1.heap[w.heap.size + 1 + 1]? = some (.cells #[.int .i64 lv, .int .i64 ix, .slice none 0 0] 74) := by
    rw [hw1, ← s1]
    exact heap_alloc2_new _ _ _
  have HW : Hid (_ = _) := hw1
  have HE : Hid (RowU w a n hs) := h
  clear hw1 s1 h
  have l0 : w1.cell? ⟨w.heap.size, 2, none⟩ = some (.slice a n c) := (cell_of_row _ _ 2 _ 73 (0, 0) B0).trans rfl
  rw [tlv]
  go_enter Try.func53, Try.ntmps53
  go_upto_region 4 with fail
  rw [← HW.out]
  clear HW
  go_wp2_with fail
  refine (toUint64S_any a n c hs _ (HE.out.kept hbb) hn).mono ?_
  rintro e w2 ⟨a1, rfl, hr1, hb2⟩
  clear l0
  have B12 := (hb2.block _ (by omega)).trans B1
  have B22 := (hb2.block _ (by omega)).trans B2
  have x0 : w2.cell? ⟨w.heap.size + 1 + 1, 0, none⟩ = some (.int .i64 lv) := (cell_of_row _ _ 0 _ 74 (0, 0) B22).trans rfl
  have x1 : w2.cell? ⟨w.heap.size + 1 + 1, 1, none⟩ = some (.int .i64 ix) := (cell_of_row _ _ 1 _ 74 (0, 0) B22).trans rfl
  have x2 : w2.cell? ⟨w.heap.size + 1 + 1, 2, none⟩ = some (.slice none 0 0) := (cell_of_row _ _ 2 _ 74 (0, 0) B22).trans rfl
  have y2 : w2.frozen? ⟨w.heap.size + 1 + 1, 2, none⟩ = false := frozen_of_row w2 _ 2 _ 74 B22
  have r0 : w2.cell? ⟨w.heap.size + 1, 0, none⟩ = some (.int .i64 0) := (cell_of_row _ _ 0 _ 74 (0, 0) B12).trans rfl
  have r1 : w2.cell? ⟨w.heap.size + 1, 1, none⟩ = some (.int .i64 0) := (cell_of_row _ _ 1 _ 74 (0, 0) B12).trans rfl
  have r2 : w2.cell? ⟨w.heap.size + 1, 2, none⟩ = some (.slice none 0 0) := (cell_of_row _ _ 2 _ 74 (0, 0) B12).trans rfl
  have f0 : w2.frozen? ⟨w.heap.size + 1, 0, none⟩ = false := frozen_of_row w2 _ 0 _ 74 B12
  have f1 : w2.frozen? ⟨w.heap.size + 1, 1, none⟩ = false := frozen_of_row w2 _ 1 _ 74 B12
  have f2 : w2.frozen? ⟨w.heap.size + 1, 2, none⟩ = false := frozen_of_row w2 _ 2 _ 74 B12
  have HD1 : Hid (_ = _) := B12
  have HR2 : Hid (OwnU w1.heap.size w2 a1 n n hs) := hr1
  have HB2 : Hid (Below w.heap.size w w2) := keepT hbb hb2
  have hB1 := hbb.size
  have hs2 := hb2.size
  clear hr1 hb2 B12 B22 B0 B1 B2
  go_wp2_with fail
  try simp only [Exit.inBlock, Exit.then]
  refine bodyPost_ret (results_tl rfl _ (w.heap.size + 1) rfl _ _ _ _ (heap_set3Q ((Below.heap_setCell _ _ _ _ (by simp)).trans HD1.out) _ _ _)) rfl ⟨_, rfl, ?_, ?_⟩
  · exact ((((HR2.out.set (by omega) _ _).set (by omega) _ _).set (by omega) _ _).set (by omega) _ _).mono hB1
  · exact (((HB2.out.setCell (by simp; omega) _).setCell (by simp) _).setCell (by simp) _).setCell (by simp) _

theorem Try.infoTl : (Try.prog.info? 74).map (fun i => (i.zero, i.size, i.bytes)) = some (some (.agg #[.int .i64 0, .int .i64 0, .slice none 0 0]), 3, 40) := by kernel_rfl
/-- Three cells of the row g are written, from o on. -/
def put3 (w : World) (g o : Nat) (v0 v1 v2 : Value) : World := ((w.setCell ⟨g, o, none⟩ v0).setCell ⟨g, o + 1, none⟩ v1).setCell ⟨g, o + 2, none⟩ v2
theorem put3_other (w : World) (g o l : Nat) (h : l ≠ g) (v0 v1 v2 : Value) : (put3 w g o v0 v1 v2).heap[l]? = w.heap[l]? :=
  (Below.heap_setCell _ _ _ _ (by show l ≠ g; exact h)).trans ((Below.heap_setCell _ _ _ _ (by show l ≠ g; exact h)).trans (Below.heap_setCell _ _ _ _ (by show l ≠ g; exact h)))
theorem put3_below {B : Nat} {w0 w : World} (h : Below B w0 w) (g o : Nat) (hg : B ≤ g) (v0 v1 v2 : Value) : Below B w0 (put3 w g o v0 v1 v2) := ((h.setCell hg _).setCell hg _).setCell hg _
/-- The first k tiles lie in the row g, what they have behind it. -/
def TlPre (w : World) (g k : Nat) (xs : List TP) : Prop := ∀ j, j < k → ∃ p n, Cells3 w g (j * 3) p n n (xs.getD j default) ∧ OwnU (g + 1) w p n n (xs.getD j default).hs ∧ n ≤ 1048576
theorem TlPre.kept {w w' : World} {g k : Nat} {xs : List TP} (h : TlPre w g k xs) (hg : g < w.heap.size) (hb : Below w.heap.size w w') : TlPre w' g k xs := fun j hj => by
  obtain ⟨p, n, h3, h4, h5⟩ := h j hj
  exact ⟨p, n, h3.of (fun i => hb.cell (p := ⟨g, i, none⟩) hg), h4.kept hb, h5⟩
structure Put3 (B : Nat) (w w' : World) (g n cap i : Nat) (a1 : Option Addr) (n1 d1 : Nat) (x : TP) : Prop where
  own : ∃ vs, w'.ownsRow B 74 3 (.slice (some ⟨g, 0, none⟩) n cap) n vs
  old : ∀ j, j < n * 3 → j < i * 3 ∨ i * 3 + 3 ≤ j → w'.cell? ⟨g, j, none⟩ = w.cell? ⟨g, j, none⟩
  cells : Cells3 w' g (i * 3) a1 n1 d1 x
theorem put3_is {B : Nat} {w : World} {g n cap : Nat} {vs : List Value} (h : w.ownsRow B 74 3 (.slice (some ⟨g, 0, none⟩) n cap) n vs) (i : Nat) (hi : i < n) (a1 : Option Addr) (n1 d1 : Nat) (x : TP) : Put3 B w (put3 w g (i * 3) (.int .i64 x.lv) (.int .i64 x.ix) (.slice a1 n1 d1)) g n cap i a1 n1 d1 x := by
  have h1 := (((h.stored (i * 3) (.int .i64 x.lv)).1.stored (i * 3 + 1) (.int .i64 x.ix)).1.stored (i * 3 + 2) (.slice a1 n1 d1)).1
  have hl : vs.length = n * 3 := h.1
  have cc := fun j (hj : j < n * 3) => h1.cellAt j hj
  refine ⟨⟨_, h1⟩, fun j hj ho => ?_, ⟨?_, ?_, ?_⟩⟩
  · refine (cc j hj).trans ?_
    rw [h.cellAt j hj]
    rw [List.getElem?_set_ne (by omega), List.getElem?_set_ne (by omega), List.getElem?_set_ne (by omega)]
  · refine (cc _ (by omega)).trans ?_
    rw [List.getElem?_set_ne (by omega), List.getElem?_set_ne (by omega), List.getElem?_set_self (by omega)]
  · refine (cc _ (by omega)).trans ?_
    rw [List.getElem?_set_ne (by omega), List.getElem?_set_self (by simp; omega)]
  · refine (cc _ (by omega)).trans ?_
    rw [List.getElem?_set_self (by simp; omega)]

set_option maxRecDepth 10000 in
set_option maxHeartbeats 4000000 in
theorem toTileOfS_any (a : Option Addr) (n cap : Nat) (xs : List TP) (w : World) (h : Tls w a n xs) (hn : n ≤ 1048576) (hz : ∀ k, k < n → (xs.getD k default).hs.length ≤ 1048576) :
    Calls Try.prog 33 #[.slice a n cap] w fun e w' => ∃ a', e = .returned (.slice a' n n) ∧ Tls w' a' n xs ∧ Below w.heap.size w w' := by
  obtain ⟨i0, hi, hz0, hz1, hz2⟩ := info_parts Try.infoTl
  have HK : Hid (Tls w a n xs) := h
  have HZ : Hid (∀ k, k < n → (xs.getD k default).hs.length ≤ 1048576) := hz
  have hlen : Hid (xs.length = n) := h.len
  clear h hz
  go_enter Try.func33, Try.ntmps33
  go_wp2_with (first | (at_make; refine wpList_make_full _ rfl _ _ 46 rfl w.heap.size 74 i0 _ 3 Try.underlying46 hi hz0 hz1 _ _ _ _ n rfl rfl rfl rfl (by rw [hz2]; omega) (by unfold maxLen; omega) (by exact Nat.le_refl _) ?_; intro w1 hown hgrow))
  have hbl : Below w.heap.size w w1 := (Below.refl _ _).grown hgrow (Nat.le_refl _) (by simp)
  clear hgrow hi hz0 hz1 hz2
  go_loopw [4] (fun i wr => ∃ k : Nat, k ≤ n ∧ i = .int .i64 k ∧ Hid (∃ vs, wr.ownsRow w.heap.size 74 3 (.slice (some ⟨w.heap.size, 0, none⟩) n n) n vs) ∧ Hid (TlPre wr w.heap.size k xs) ∧ Below w.heap.size w wr) (fun i _ => n - (intOf i).toNat)
  case atStart => exact ⟨0, Nat.zero_le _, rfl, ⟨_, hown⟩, fun j hj => absurd hj (Nat.not_lt_zero _), hbl⟩
  case round =>
    obtain ⟨k, hk, rfl, HOR, HPRE, hbr⟩ := hrel
    obtain ⟨vs, hor⟩ := HOR.out
    have hgl := (hor.lt _ rfl).2
    have HOV : Hid (_) := hor
    clear HOR hor hown hbl
    by_cases hkn : k < n
    · obtain ⟨b, off, a1, n1, d1, rfl, hlb, hc, hp, hm⟩ := HK.out.get k hkn
      have hgp := HZ.out k hkn
      obtain ⟨y, hy⟩ : ∃ y, y = xs.getD k default := ⟨_, rfl⟩
      rw [← hy] at hc hp hgp
      have HY : Hid (y = xs.getD k default) := hy
      have hn1 : n1 ≤ 1048576 := by rw [← hp.len]; exact hgp
      obtain ⟨c0, c1, c2⟩ := hc.of (w' := wr) (fun i => hbr.cell (p := ⟨b, i, none⟩) hlb)
      have HP : Hid (RowU wr a1 n1 y.hs) := hp.kept hbr
      have hkni : (k : Int) < (n : Int) := by omega
      have hsz := hbr.size
      clear hc hy hp hgp
      go_wp2_with fail
      refine (toTileOf_any y.lv y.ix a1 n1 d1 y.hs _ HP.out hn1).mono ?_
      rintro e w2 ⟨p1, rfl, hp2, hb2⟩
      have hor2 : w2.ownsRow w.heap.size 74 3 (.slice (some ⟨w.heap.size, 0, none⟩) n n) n vs := ownsRow_below HOV.out hb2
      have hs2 := hb2.size
      have fr : ∀ j, w2.frozen? ⟨w.heap.size, j, none⟩ = false := fun j => hor2.frozenAt j
      have hvl : vs.length = n * 3 := hor2.1
      have cx : ∀ j, j < n * 3 → ∃ z, w2.cell? ⟨w.heap.size, j, none⟩ = some z := fun j hj => ⟨_, (hor2.cellAt j hj).trans (List.getElem?_eq_getElem (by omega))⟩
      obtain ⟨z0, x0⟩ := cx (k * 3) (by omega)
      obtain ⟨z1, x1⟩ := cx (k * 3 + 1) (by omega)
      obtain ⟨z2, x2⟩ := cx (k * 3 + 2) (by omega)
      have f0 := fr (k * 3)
      have f1 := fr (k * 3 + 1)
      have f2 := fr (k * 3 + 2)
      have hS := put3_is hor2 k hkn p1 n1 n1 y
      have hP : TlPre (put3 w2 w.heap.size (k * 3) (.int .i64 y.lv) (.int .i64 y.ix) (.slice p1 n1 n1)) w.heap.size (k + 1) xs := by
        intro j hj
        by_cases hjk : j = k
        · subst hjk
          rw [← HY.out]
          exact ⟨p1, n1, hS.cells, (((hp2.mono (by omega)).set (by omega) _ _).set (by omega) _ _).set (by omega) _ _, hn1⟩
        · obtain ⟨r1, m1, q2, q3, q4⟩ := (HPRE.out.kept hgl hb2) j (by omega)
          have hx := hS.old
          exact ⟨r1, m1, ⟨(hx _ (by omega) (by omega)).trans q2.c0, (hx _ (by omega) (by omega)).trans q2.c1, (hx _ (by omega) (by omega)).trans q2.c2⟩, ((q3.set (by omega) _ _).set (by omega) _ _).set (by omega) _ _, q4⟩
      have hB2 := hbr.trans (hb2.mono hsz)
      have hB4 : Below w.heap.size w (put3 w2 w.heap.size (k * 3) (.int .i64 y.lv) (.int .i64 y.ix) (.slice p1 n1 n1)) := put3_below hB2 _ _ (Nat.le_refl _) _ _ _
      have FIN : Hid (_ ∧ _ ∧ _) := ⟨hS.own, hP, hB4⟩
      have hgl2 : w.heap.size < w2.heap.size := by omega
      clear fr cx hS hP hB4 hB2 hor2 hp2 hb2 hvl HPRE HOV HP HK
      unfold tlv
      go_wp2
      go_roundw
      case rel => exact ⟨k + 1, by omega, by go_num, FIN.out.1, FIN.out.2.1, FIN.out.2.2⟩
      case measure => simp [intOf]; omega
    · obtain rfl : n = k := by omega
      have HX : Hid (n ≤ 9223372036854775807) := HK.out.max
      clear HOV HK
      go_wp2
      go_ret
      refine ⟨_, rfl, ⟨hlen.out, HX.out, fun j hj => ?_⟩, hbr⟩
      obtain ⟨p1, m1, h3, h4, h5⟩ := HPRE.out j hj
      exact ⟨w.heap.size, 0, _, _, _, rfl, hgl, by rw [Nat.zero_add]; exact h3, h4.toRow, by omega⟩

end Go.Proofs.Ytifdcfchliaipaa
