import Derived.Test.YtbfjkmlmnhphoaaDoorGN3N4
import Derived.Deep.RegionHeldLaw
import Derived.Test.YtbfjkmlmnhphoaaDoorN2
namespace Go.Proofs.YtbfjkmlmnhphoaaDoor
open Go.RowKit

/-- A variable that holds a name. -/
structure BoxN (t g : Nat) (W : World) (a : Option Addr) (n c : Nat) : Prop where
  heap : W.heap[g]? = some (.cells #[.slice a n c] t (0, 0))
theorem BoxN.cell {t g : Nat} {W : World} {a : Option Addr} {n c : Nat} (h : BoxN t g W a n c) : W.cell? ⟨g, 0, none⟩ = some (.slice a n c) := (cell_of_row _ g 0 _ t (0, 0) h.heap).trans rfl
theorem BoxN.kept {t g : Nat} {W W' : World} {a : Option Addr} {n c : Nat} (h : BoxN t g W a n c) (hb : Below W.heap.size W W') : BoxN t g W' a n c := ⟨(hb.block _ (Array.getElem?_eq_some_iff.1 h.heap).1).trans h.heap⟩
theorem boxN_new (t : Nat) (w : World) (a : Option Addr) (n c : Nat) : BoxN t w.heap.size (w.alloc (.cells #[.slice a n c] t)) a n c := ⟨heap_alloc_new w _⟩

theorem says_one {P : Prop} {a b : Bool} (h : Hid (a = true ↔ P)) (k : Hid (b = true ↔ P)) : a = b := by
  have h2 := h.out.trans k.out.symm
  cases a <;> cases b <;> simp_all

end Go.Proofs.YtbfjkmlmnhphoaaDoor

namespace Go.Proofs.YtbfjkmlmnhphoaaDoor
open Go.RowKit

/-- A text's Fold, as a text. -/
def FS (s : ByteArray) : ByteArray := strOfNums (foldL s)
def ptf (x : PT) : PT := ⟨x.attr, FS x.val⟩

/-- A variable that holds a part. -/
structure BoxP (t g : Nat) (W : World) (x : PT) : Prop where
  heap : W.heap[g]? = some (.cells #[.int .i64 x.attr, .string x.val] t (0, 0))
theorem BoxP.cells {t g : Nat} {W : World} {x : PT} (h : BoxP t g W x) : Cells2 W g 0 x := ⟨(cell_of_row _ g 0 _ t (0, 0) h.heap).trans rfl, (cell_of_row _ g 1 _ t (0, 0) h.heap).trans rfl⟩
theorem BoxP.kept {t g : Nat} {W W' : World} {x : PT} (h : BoxP t g W x) (hb : Below W.heap.size W W') : BoxP t g W' x := ⟨(hb.block _ (Array.getElem?_eq_some_iff.1 h.heap).1).trans h.heap⟩
theorem BoxP.lt {t g : Nat} {W : World} {x : PT} (h : BoxP t g W x) : g < W.heap.size := (Array.getElem?_eq_some_iff.1 h.heap).1
theorem BoxP.fr {t g : Nat} {W : World} {x : PT} (h : BoxP t g W x) (j : Nat) : W.frozen? ⟨g, j, none⟩ = false := frozen_of_row W g j _ t h.heap
theorem boxP_new (t : Nat) (w : World) (x : PT) : BoxP t w.heap.size (w.alloc (.cells #[.int .i64 x.attr, .string x.val] t)) x := ⟨heap_alloc_new w _⟩
theorem BoxN.lt {t g : Nat} {W : World} {a : Option Addr} {n c : Nat} (h : BoxN t g W a n c) : g < W.heap.size := (Array.getElem?_eq_some_iff.1 h.heap).1
theorem two_below (w : World) (o0 o1 : Obj) : Below w.heap.size w ((w.alloc o0).alloc o1) := ((Below.refl _ _).alloc (Nat.le_refl _) _).alloc (by simp) _
theorem two_blocks (w : World) (o0 o1 : Obj) : ((w.alloc o0).alloc o1).heap[w.heap.size]? = some o0 ∧ ((w.alloc o0).alloc o1).heap[w.heap.size + 1]? = some o1 := by
  have s1 : (w.alloc o0).heap.size = w.heap.size + 1 := by simp
  exact ⟨(alloc_old' _ o1 _ (by omega)).trans (heap_alloc_new w o0), by rw [← s1]; exact heap_alloc_new _ o1⟩

theorem drew_below' {W w1 : World} (h : Below W.drew.heap.size W.drew w1) : Below W.heap.size W w1 := (Below.refl _ _).drew.trans (h.mono (by simp))
theorem fold_after {w W0 w1 : World} {x : PT} (t : ByteArray) (hB0 : Below w.heap.size w W0) (X0 : BoxP 107 w.heap.size W0 x) (R0 : BoxP 107 (w.heap.size + 1) W0 ⟨0, { data := #[] }⟩) (D1 : Below W0.heap.size W0 w1) :
    w1.frozen? ⟨w.heap.size + 1, 0, none⟩ = false ∧ w1.frozen? ⟨w.heap.size + 1, 1, none⟩ = false ∧ w1.cell? ⟨w.heap.size + 1, 0, none⟩ = some (.int .i64 0) ∧ w1.cell? ⟨w.heap.size + 1, 1, none⟩ = some (.string { data := #[] }) ∧ BoxP 107 w.heap.size w1 x ∧ BoxP 107 w.heap.size ((w1.setCell ⟨w.heap.size + 1, 0, none⟩ (.int .i64 x.attr)).setCell ⟨w.heap.size + 1, 1, none⟩ (.string t)) x ∧
    ((w1.setCell ⟨w.heap.size + 1, 0, none⟩ (.int .i64 x.attr)).setCell ⟨w.heap.size + 1, 1, none⟩ (.string t)).heap[w.heap.size + 1]? = some (.cells #[.int .i64 x.attr, .string t] 107 (0, 0)) ∧ Below w.heap.size w ((w1.setCell ⟨w.heap.size + 1, 0, none⟩ (.int .i64 x.attr)).setCell ⟨w.heap.size + 1, 1, none⟩ (.string t)) := by
  have X := X0.kept D1
  have R := R0.kept D1
  have q1 := heap_setCell_same _ (w.heap.size + 1) 0 _ 107 (.int .i64 x.attr) R.heap
  have q2 := heap_setCell_same _ (w.heap.size + 1) 1 _ 107 (.string t) q1
  have hB1 := hB0.trans (D1.mono hB0.size)
  exact ⟨R.fr 0, R.fr 1, R.cells.c0, R.cells.c1, X, ⟨((heap_setCell_other _ _ _ _ (by simp)).trans (heap_setCell_other _ _ _ _ (by simp))).trans X.heap⟩, q2, (hB1.setCell (by simp) _).setCell (by simp) _⟩

set_option maxRecDepth 10000 in
set_option maxHeartbeats 2000000 in
theorem folded_any (x : PT) (w : World) (hs : x.val.size ≤ 1048576) :
    Calls Tryd.prog 104 #[ptv x] w fun e w' => e = .returned (ptv (ptf x)) ∧ Below w.heap.size w w' := by
  obtain ⟨W0, hW0⟩ : ∃ W0, W0 = ((w.alloc (.cells #[.int .i64 x.attr, .string x.val] 107)).alloc (.cells #[.int .i64 0, .string { data := #[] }] 107)) := ⟨_, rfl⟩
  have hB0 : Below w.heap.size w W0 := by rw [hW0]; exact two_below _ _ _
  have hS0 : W0.heap.size = w.heap.size + 1 + 1 := by rw [hW0]; simp
  have b0 := two_blocks w (.cells #[.int .i64 x.attr, .string x.val] 107) (.cells #[.int .i64 0, .string { data := #[] }] 107)
  rw [← hW0] at b0
  have BX : BoxP 107 w.heap.size W0 x := ⟨b0.1⟩
  have BR : BoxP 107 (w.heap.size + 1) W0 ⟨0, { data := #[] }⟩ := ⟨b0.2⟩
  have HSX : Hid (∀ w', BoxP 107 w.heap.size w' x → (fun w' => w'.cell? ⟨w.heap.size, 0, none⟩ = some (.int .i64 x.attr) ∧ w'.cell? ⟨w.heap.size, 1, none⟩ = some (.string x.val)) w') := fun w' X => ⟨X.cells.c0, X.cells.c1⟩
  have SS := HSX.out _ BX
  have FX : Hid (_ ∧ _) := ⟨BX, BR⟩
  clear b0 BX BR
  obtain ⟨t, ht⟩ : ∃ t, t = FS x.val := ⟨_, rfl⟩
  have HT : Hid (t = FS x.val) := ht
  clear ht
  unfold ptv
  go_enter Tryd.func104, Tryd.ntmps104
  go_upto_region 1 with fail
  rw [← hW0]
  clear hW0
  go_region_held_law (fun w' => w'.cell? ⟨w.heap.size, 0, none⟩ = some (.int .i64 x.attr) ∧ w'.cell? ⟨w.heap.size, 1, none⟩ = some (.string x.val)) (first | assumption | exact SS | exact SS1 | exact SS2)
    ((go_at_call 103; refine (implFold_any x.val _ hs).mono ?_; rintro e w1 ⟨rfl, hb_w1⟩; rw [show strOfNums (foldL x.val) = t from HT.out.symm]; obtain ⟨f0, f1, z0, z1, X, Y, q2, hB2⟩ := fold_after t hB0 FX.out.1 FX.out.2 (drew_below' hb_w1); have SS1 := HSX.out _ X; have SS2 := HSX.out _ Y; have F2 : Hid (_ ∧ _) := ⟨q2, hB2⟩; clear hb_w1 X Y q2 hB2))
  all_goals (
    go_wp2
    try simp only [Exit.inBlock, Exit.then]
    exact bodyPost_ret (results_pt rfl _ (w.heap.size + 1) rfl _ _ _ F2.out.1) rfl ⟨by unfold ptf; rw [← HT.out], F2.out.2⟩)

end Go.Proofs.YtbfjkmlmnhphoaaDoor

namespace Go.Proofs.YtbfjkmlmnhphoaaDoor
open Go.RowKit

/-- An entry: what it holds. -/
structure GP where
  parts : List PT
  ser : Int
  tm : Int
  rs : Int
instance : Inhabited GP := ⟨⟨[], 0, 0, 0⟩⟩
def gov (a : Option Addr) (n c : Nat) (x : GP) : Value := .agg #[.slice a n c, .int .i64 x.ser, .int .i64 x.tm, .int .i64 x.rs]

/-- The four cells of an entry from o on. -/
structure Cells4 (w : World) (b o : Nat) (a : Option Addr) (n c : Nat) (x : GP) : Prop where
  c0 : w.cell? ⟨b, o, none⟩ = some (.slice a n c)
  c1 : w.cell? ⟨b, o + 1, none⟩ = some (.int .i64 x.ser)
  c2 : w.cell? ⟨b, o + 2, none⟩ = some (.int .i64 x.tm)
  c3 : w.cell? ⟨b, o + 3, none⟩ = some (.int .i64 x.rs)
theorem Cells4.of {w w' : World} {b o : Nat} {a : Option Addr} {n c : Nat} {x : GP} (h : Cells4 w b o a n c x) (hc : ∀ i, w'.cell? ⟨b, i, none⟩ = w.cell? ⟨b, i, none⟩) : Cells4 w' b o a n c x :=
  ⟨(hc _).trans h.c0, (hc _).trans h.c1, (hc _).trans h.c2, (hc _).trans h.c3⟩

/-- The slice at a reads as these entries. -/
structure Gns (w : World) (a : Option Addr) (n : Nat) (xs : List GP) : Prop where
  len : xs.length = n
  max : n ≤ 9223372036854775807
  get : ∀ k, k < n → ∃ b off an nn cn, a = some ⟨b, off, none⟩ ∧ b < w.heap.size ∧ Cells4 w b (off + k * 4) an nn cn (xs.getD k default) ∧ Pts w an nn (xs.getD k default).parts
theorem Gns.kept {w w' : World} {a : Option Addr} {n : Nat} {xs : List GP} (h : Gns w a n xs) (hb : Below w.heap.size w w') : Gns w' a n xs := by
  refine ⟨h.len, h.max, fun k hk => ?_⟩
  obtain ⟨b, off, an, nn, cn, ha, hlt, hc, hp⟩ := h.get k hk
  exact ⟨b, off, an, nn, cn, ha, Nat.lt_of_lt_of_le hlt hb.size, hc.of (fun i => hb.cell (p := ⟨b, i, none⟩) hlt), hp.kept hb⟩
/-- Its names are small. -/
def GpOk (x : GP) : Prop := x.parts.length ≤ 1048576 ∧ ∀ k, k < x.parts.length → (x.parts.getD k default).val.size ≤ 1048576

set_option maxRecDepth 10000 in
set_option maxHeartbeats 1000000 in
theorem szGone_any (a : Option Addr) (n c : Nat) (x : GP) (lf : Int) (w : World) (h : Pts w a n x.parts) (h0 : 0 ≤ lf) (h1 : lf ≤ 1048576) :
    Calls Tryd.prog 65 #[gov a n c x, .int .i64 lf] w fun e w' => ∃ r, e = .returned (.int .i64 r) ∧ (r < 0 ∨ (0 ≤ r ∧ r ≤ 1048576 ∧ GpOk x)) ∧ Below w.heap.size w w' := by
  unfold gov
  have H0 : Hid (Pts w a n x.parts) := h
  have HN : Hid (x.parts.length = n) := h.len
  clear h
  have hbl : Below w.heap.size w (w.alloc (.cells #[.slice a n c, .int .i64 x.ser, .int .i64 x.tm, .int .i64 x.rs] 91)) := (Below.refl _ _).alloc (Nat.le_refl _) _
  go_enter Tryd.func65, Tryd.ntmps65
  go_wp2_with fail
  refine (szName_any a n c x.parts lf _ (H0.out.kept hbl) h0 h1).mono ?_
  rintro e w1 ⟨r, rfl, hr, hb1⟩
  have B1 : Below w.heap.size w w1 := hbl.trans (hb1.mono hbl.size)
  have HR : Hid (_) := hr
  by_cases hneg : r < 0
  · clear hr
    go_wp2
    go_ret
    exact ⟨_, rfl, .inl (by decide), B1⟩
  · have hr2 : 0 ≤ r ∧ r ≤ 1048576 := by omega
    clear hr
    go_wp2
    go_ret
    refine ⟨_, rfl, .inr ⟨hr2.1, hr2.2, ?_⟩, B1⟩
    have hn := HN.out
    rcases HR.out with h | ⟨_, _, h3, h4⟩
    · omega
    · exact ⟨by rw [hn]; exact h3, fun k hk => h4 k (by rw [← hn]; exact hk)⟩

set_option maxRecDepth 10000 in
set_option maxHeartbeats 2000000 in
theorem szGoneS_any (a : Option Addr) (n cap : Nat) (xs : List GP) (lf : Int) (w : World) (h : Gns w a n xs) (hl0 : 0 ≤ lf) (hl1 : lf ≤ 1048576) :
    Calls Tryd.prog 27 #[.slice a n cap, .int .i64 lf] w fun e w' => ∃ r, e = .returned (.int .i64 r) ∧ (r < 0 ∨ (0 ≤ r ∧ r ≤ 1048576 ∧ n ≤ 1048576 ∧ ∀ k, k < n → GpOk (xs.getD k default))) ∧ Below w.heap.size w w' := by
  have H0 : Hid (Gns w a n xs) := h
  have hn := h.max
  clear h
  by_cases hlt : (n : Int) ≤ lf
  · go_enter Tryd.func27, Tryd.ntmps27
    go_wp2
    go_loopw [1, 5] (fun l i wr => ∃ (k : Nat) (left : Int), k ≤ n ∧ i = .int .i64 k ∧ l = .int .i64 left ∧ 0 ≤ left ∧ left ≤ 1048576 ∧ Hid (∀ j, j < k → GpOk (xs.getD j default)) ∧ Below w.heap.size w wr) (fun _ i _ => n - (intOf i).toNat)
    case atStart => exact ⟨0, lf - n, Nat.zero_le _, rfl, rfl, by omega, by omega, fun j hj => absurd hj (Nat.not_lt_zero _), Below.refl _ _⟩
    case round =>
      obtain ⟨k, left, hk, rfl, rfl, h0, h1, HA, hbr⟩ := hrel
      by_cases hkn : k < n
      · obtain ⟨b, off, an, nn, cn, rfl, hlb, hc, hp⟩ := H0.out.get k hkn
        obtain ⟨y, hy⟩ : ∃ y, y = xs.getD k default := ⟨_, rfl⟩
        rw [← hy] at hc hp
        have HY : Hid (y = xs.getD k default) := hy
        obtain ⟨c0, c1, c2, c3⟩ := hc.of (w' := wr) (fun i => hbr.cell (p := ⟨b, i, none⟩) hlb)
        have HP : Hid (Pts wr an nn y.parts) := hp.kept hbr
        have hkni : (k : Int) < (n : Int) := by omega
        clear hc hy hp
        go_wp2_with fail
        refine (szGone_any an nn cn y left _ HP.out h0 h1).mono ?_
        rintro e w2 ⟨r, rfl, hr, hb2⟩
        have hb2' : Below w.heap.size w w2 := hbr.trans (hb2.mono hbr.size)
        by_cases hneg : r < 0
        · clear hr
          go_wp2
          go_ret
          exact ⟨_, rfl, .inl (by decide), hb2'⟩
        · have hr1 : 0 ≤ r := by omega
          have hr2 : r ≤ 1048576 := by omega
          have HR : Hid (GpOk y) := by rcases hr with h | h; exact absurd h hneg; exact h.2.2
          clear hr
          go_wp2
          go_roundw
          case rel =>
            refine ⟨k + 1, r, by omega, by go_num, rfl, hr1, hr2, fun j hj => ?_, hb2'⟩
            by_cases hjk : j = k
            · subst hjk; rw [← HY.out]; exact HR.out
            · exact HA.out j (by omega)
          case measure => simp [intOf]; omega
      · obtain rfl : n = k := by omega
        go_wp2
        go_ret
        exact ⟨_, rfl, .inr ⟨h0, h1, by omega, HA.out⟩, hbr⟩
  · go_enter Tryd.func27, Tryd.ntmps27
    go_wp2
    go_ret
    exact ⟨_, rfl, .inl (by decide), Below.refl _ _⟩

set_option maxRecDepth 10000 in
set_option maxHeartbeats 1000000 in
theorem eqGone_same (a b : Option Addr) (n ca cb : Nat) (x : GP) (w : World) (h : Pts w a n x.parts) (h2 : Pts w b n x.parts) :
    Calls Tryd.prog 73 #[gov a n ca x, gov b n cb x] w fun e w' => e = .returned (.bool true) ∧ Below w.heap.size w w' := by
  have H1 : Hid (Pts w a n x.parts) := h
  have H2 : Hid (Pts w b n x.parts) := h2
  clear h h2
  unfold gov
  have hbl : Below w.heap.size w ((w.alloc (.cells #[.slice a n ca, .int .i64 x.ser, .int .i64 x.tm, .int .i64 x.rs] 63)).alloc (.cells #[.slice b n cb, .int .i64 x.ser, .int .i64 x.tm, .int .i64 x.rs] 63)) := ((Below.refl _ _).alloc (Nat.le_refl _) _).alloc (by simp) _
  have t1 : (x.ser != x.ser) = false := by simp
  have t3 : (x.tm != x.tm) = false := by simp
  have t4 : (x.rs != x.rs) = false := by simp
  obtain ⟨W0, hW0⟩ : ∃ W0, W0 = ((w.alloc (.cells #[.slice a n ca, .int .i64 x.ser, .int .i64 x.tm, .int .i64 x.rs] 63)).alloc (.cells #[.slice b n cb, .int .i64 x.ser, .int .i64 x.tm, .int .i64 x.rs] 63)) := ⟨_, rfl⟩
  have b0 := two_blocks w (.cells #[.slice a n ca, .int .i64 x.ser, .int .i64 x.tm, .int .i64 x.rs] 63) (.cells #[.slice b n cb, .int .i64 x.ser, .int .i64 x.tm, .int .i64 x.rs] 63)
  rw [← hW0] at hbl b0
  go_enter Tryd.func73, Tryd.ntmps73
  go_wp2_with fail
  rw [← hW0]
  clear hW0
  refine (eqName_same a b n ca cb x.parts _ (H1.out.kept hbl) (H2.out.kept hbl)).mono ?_
  rintro e w2 ⟨rfl, hb2⟩
  have l0 := (Array.getElem?_eq_some_iff.1 b0.2).1
  have y0 := (hb2.block _ (by omega)).trans b0.1
  have y1 := (hb2.block _ l0).trans b0.2
  have c1 : w2.cell? ⟨w.heap.size, 1, none⟩ = some (.int .i64 x.ser) := (cell_of_row _ _ 1 _ 63 (0, 0) y0).trans rfl
  have c2 : w2.cell? ⟨w.heap.size, 2, none⟩ = some (.int .i64 x.tm) := (cell_of_row _ _ 2 _ 63 (0, 0) y0).trans rfl
  have c3 : w2.cell? ⟨w.heap.size, 3, none⟩ = some (.int .i64 x.rs) := (cell_of_row _ _ 3 _ 63 (0, 0) y0).trans rfl
  have d1 : w2.cell? ⟨w.heap.size + 1, 1, none⟩ = some (.int .i64 x.ser) := (cell_of_row _ _ 1 _ 63 (0, 0) y1).trans rfl
  have d2 : w2.cell? ⟨w.heap.size + 1, 2, none⟩ = some (.int .i64 x.tm) := (cell_of_row _ _ 2 _ 63 (0, 0) y1).trans rfl
  have d3 : w2.cell? ⟨w.heap.size + 1, 3, none⟩ = some (.int .i64 x.rs) := (cell_of_row _ _ 3 _ 63 (0, 0) y1).trans rfl
  have HF : Hid (Below w.heap.size w w2) := hbl.trans (hb2.mono hbl.size)
  clear hb2 y0 y1 b0 hbl
  go_wp2
  go_ret
  exact ⟨rfl, HF.out⟩

end Go.Proofs.YtbfjkmlmnhphoaaDoor
