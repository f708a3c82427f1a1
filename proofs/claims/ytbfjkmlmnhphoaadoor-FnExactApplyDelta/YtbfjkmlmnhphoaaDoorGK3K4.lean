import Derived.Test.YtbfjkmlmnhphoaaDoorK2
namespace Go.Proofs.YtbfjkmlmnhphoaaDoor
open Go.RowKit

theorem Tryd.infoGone : (Tryd.prog.info? 63).map (fun i => (i.zero, i.size, i.bytes)) = some (some (.agg #[.slice none 0 0, .int .i64 0, .int .i64 0, .int .i64 0]), 4, 48) := by kernel_rfl

/-- The first k entries lie in the row g, their names behind it. -/
def GoPre (w : World) (g k : Nat) (xs : List GP) : Prop := ∀ j, j < k → ∃ gn nn, g < gn ∧ Cells4 w g (j * 4) (some ⟨gn, 0, none⟩) nn nn (xs.getD j default) ∧ Pts w (some ⟨gn, 0, none⟩) nn (xs.getD j default).parts
theorem GoPre.kept {w w' : World} {g k : Nat} {xs : List GP} (h : GoPre w g k xs) (hg : g < w.heap.size) (hb : Below w.heap.size w w') : GoPre w' g k xs := fun j hj => by
  obtain ⟨gn, nn, h1, h3, h4⟩ := h j hj
  exact ⟨gn, nn, h1, h3.of (fun i => hb.cell (p := ⟨g, i, none⟩) hg), h4.kept hb⟩

structure Put4 (B : Nat) (w w' : World) (g n cap i : Nat) (an : Option Addr) (nn cn : Nat) (x : GP) : Prop where
  own : ∃ vs, w'.ownsRow B 63 4 (.slice (some ⟨g, 0, none⟩) n cap) n vs
  other : ∀ l, l ≠ g → w'.heap[l]? = w.heap[l]?
  size : w'.heap.size = w.heap.size
  old : ∀ j, j < n * 4 → j < i * 4 ∨ i * 4 + 4 ≤ j → w'.cell? ⟨g, j, none⟩ = w.cell? ⟨g, j, none⟩
  cells : Cells4 w' g (i * 4) an nn cn x
theorem put4_is {B : Nat} {w : World} {g n cap : Nat} {vs : List Value} (h : w.ownsRow B 63 4 (.slice (some ⟨g, 0, none⟩) n cap) n vs) (i : Nat) (hi : i < n) (an : Option Addr) (nn cn : Nat) (x : GP) : Put4 B w (put4 w g (i * 4) (.slice an nn cn) (.int .i64 x.ser) (.int .i64 x.tm) (.int .i64 x.rs)) g n cap i an nn cn x := by
  have h1 := ((((h.stored (i * 4) (.slice an nn cn)).1.stored (i * 4 + 1) (.int .i64 x.ser)).1.stored (i * 4 + 2) (.int .i64 x.tm)).1.stored (i * 4 + 3) (.int .i64 x.rs)).1
  have hl : vs.length = n * 4 := h.1
  have cc := fun j (hj : j < n * 4) => h1.cellAt j hj
  refine ⟨⟨_, h1⟩, fun l hl => put4_other _ _ _ _ hl _ _ _ _, put4_size _ _ _ _ _ _ _, fun j hj ho => ?_, ⟨?_, ?_, ?_, ?_⟩⟩
  · refine (cc j hj).trans ?_
    rw [h.cellAt j hj]
    rw [List.getElem?_set_ne (by omega), List.getElem?_set_ne (by omega), List.getElem?_set_ne (by omega), List.getElem?_set_ne (by omega)]
  · refine (cc _ (by omega)).trans ?_
    rw [List.getElem?_set_ne (by omega), List.getElem?_set_ne (by omega), List.getElem?_set_ne (by omega), List.getElem?_set_self (by omega)]
  · refine (cc _ (by omega)).trans ?_
    rw [List.getElem?_set_ne (by omega), List.getElem?_set_ne (by omega), List.getElem?_set_self (by simp; omega)]
  · refine (cc _ (by omega)).trans ?_
    rw [List.getElem?_set_ne (by omega), List.getElem?_set_self (by simp; omega)]
  · refine (cc _ (by omega)).trans ?_
    rw [List.getElem?_set_self (by simp; omega)]

set_option maxRecDepth 10000 in
set_option maxHeartbeats 4000000 in
theorem toGoneS_at (a : Option Addr) (n cap : Nat) (xs : List GP) (w : World) (h : Gns w a n xs) (hn : n ≤ 1048576) (hz : ∀ k, k < n → GpOk (xs.getD k default)) :
    Calls Tryd.prog 33 #[.slice a n cap] w fun e w' => e = .returned (.slice (some ⟨w.heap.size, 0, none⟩) n n) ∧ GoPre w' w.heap.size n xs ∧ w.heap.size < w'.heap.size ∧ Below w.heap.size w w' := by
  obtain ⟨i0, hi, hz0, hz1, hz2⟩ := info_parts Tryd.infoGone
  have HK : Hid (Gns w a n xs) := h
  have HZ : Hid (∀ k, k < n → GpOk (xs.getD k default)) := hz
  have hlen : Hid (xs.length = n) := h.len
  clear h hz
  go_enter Tryd.func33, Tryd.ntmps33
  go_wp2_with (first | (at_make; refine wpList_make_full _ rfl _ _ 34 rfl w.heap.size 63 i0 _ 4 Tryd.underlying34 hi hz0 hz1 _ _ _ _ n rfl rfl rfl rfl (by rw [hz2]; omega) (by unfold maxLen; omega) (by exact Nat.le_refl _) ?_; intro w1 hown hgrow))
  have hbl : Below w.heap.size w w1 := (Below.refl _ _).grown hgrow (Nat.le_refl _) (by simp)
  clear hgrow hi hz0 hz1 hz2
  go_loopw [4] (fun i wr => ∃ k : Nat, k ≤ n ∧ i = .int .i64 k ∧ Hid (∃ vs, wr.ownsRow w.heap.size 63 4 (.slice (some ⟨w.heap.size, 0, none⟩) n n) n vs) ∧ Hid (GoPre wr w.heap.size k xs) ∧ Below w.heap.size w wr) (fun i _ => n - (intOf i).toNat)
  case atStart => exact ⟨0, Nat.zero_le _, rfl, ⟨_, hown⟩, fun j hj => absurd hj (Nat.not_lt_zero _), hbl⟩
  case round =>
    obtain ⟨k, hk, rfl, HOR, HPRE, hbr⟩ := hrel
    obtain ⟨vs, hor⟩ := HOR.out
    have hgl := (hor.lt _ rfl).2
    have HOV : Hid (_) := hor
    clear HOR hor hown hbl
    by_cases hkn : k < n
    · obtain ⟨b, off, an, nn, cn, rfl, hlb, hc, hp⟩ := HK.out.get k hkn
      have hgp := HZ.out k hkn
      obtain ⟨y, hy⟩ : ∃ y, y = xs.getD k default := ⟨_, rfl⟩
      rw [← hy] at hc hp hgp
      have HY : Hid (y = xs.getD k default) := hy
      have hnn : nn ≤ 1048576 := by rw [← hp.len]; exact hgp.1
      obtain ⟨c0, c1, c2, c3⟩ := hc.of (w' := wr) (fun i => hbr.cell (p := ⟨b, i, none⟩) hlb)
      have HP : Hid (Pts wr an nn y.parts) := hp.kept hbr
      have hkni : (k : Int) < (n : Int) := by omega
      have hs := hbr.size
      clear hc hy hp hgp
      go_wp2_with fail
      refine (toGone_at an nn cn y _ HP.out hnn).mono ?_
      rintro e w2 ⟨g2, rfl, hg2, hp2, hb2⟩
      have hor2 : w2.ownsRow w.heap.size 63 4 (.slice (some ⟨w.heap.size, 0, none⟩) n n) n vs := ownsRow_below HOV.out hb2
      have hs2 := hb2.size
      have fr : ∀ j, w2.frozen? ⟨w.heap.size, j, none⟩ = false := fun j => hor2.frozenAt j
      have hvl : vs.length = n * 4 := hor2.1
      have cx : ∀ j, j < n * 4 → ∃ z, w2.cell? ⟨w.heap.size, j, none⟩ = some z := fun j hj => ⟨_, (hor2.cellAt j hj).trans (List.getElem?_eq_getElem (by omega))⟩
      obtain ⟨z0, x0⟩ := cx (k * 4) (by omega)
      obtain ⟨z1, x1⟩ := cx (k * 4 + 1) (by omega)
      obtain ⟨z2, x2⟩ := cx (k * 4 + 2) (by omega)
      obtain ⟨z3, x3⟩ := cx (k * 4 + 3) (by omega)
      have f0 := fr (k * 4)
      have f1 := fr (k * 4 + 1)
      have f2 := fr (k * 4 + 2)
      have f3 := fr (k * 4 + 3)
      have hS := put4_is hor2 k hkn (some ⟨g2, 0, none⟩) nn nn y
      have hP : GoPre (put4 w2 w.heap.size (k * 4) (.slice (some ⟨g2, 0, none⟩) nn nn) (.int .i64 y.ser) (.int .i64 y.tm) (.int .i64 y.rs)) w.heap.size (k + 1) xs := by
        intro j hj
        by_cases hjk : j = k
        · subst hjk
          rw [← HY.out]
          exact ⟨g2, nn, by omega, hS.cells, hp2.same (hS.other _ (by omega)) (Nat.le_of_eq hS.size.symm)⟩
        · obtain ⟨gn, mm, q1, q2, q3⟩ := (HPRE.out.kept hgl hb2) j (by omega)
          have hx := hS.old
          exact ⟨gn, mm, q1, ⟨(hx _ (by omega) (by omega)).trans q2.c0, (hx _ (by omega) (by omega)).trans q2.c1, (hx _ (by omega) (by omega)).trans q2.c2, (hx _ (by omega) (by omega)).trans q2.c3⟩, q3.same (hS.other _ (by omega)) (Nat.le_of_eq hS.size.symm)⟩
      have hB2 := hbr.trans (hb2.mono hs)
      have hB4 : Below w.heap.size w (put4 w2 w.heap.size (k * 4) (.slice (some ⟨g2, 0, none⟩) nn nn) (.int .i64 y.ser) (.int .i64 y.tm) (.int .i64 y.rs)) := ⟨hB2.os, hB2.tape, hB2.output, by rw [hS.size]; exact hB2.size, fun l hl => (hS.other l (by omega)).trans (hB2.block l hl)⟩
      have FIN : Hid (_ ∧ _ ∧ _) := ⟨hS.own, hP, hB4⟩
      have hgl2 : w.heap.size < w2.heap.size := by omega
      clear fr cx hS hP hB4 hB2 hor2 hp2 hb2 hvl HPRE HOV HP HK
      unfold gov
      go_wp2
      go_roundw
      case rel => exact ⟨k + 1, by omega, by go_num, FIN.out.1, FIN.out.2.1, FIN.out.2.2⟩
      case measure => simp [intOf]; omega
    · obtain rfl : n = k := by omega
      clear HOV
      go_wp2
      go_ret
      exact ⟨rfl, HPRE.out, hgl, hbr⟩
theorem GoPre.gns {w : World} {g n : Nat} {xs : List GP} (h : GoPre w g n xs) (hl : xs.length = n) (hn : n ≤ 9223372036854775807) (hg : g < w.heap.size) : Gns w (some ⟨g, 0, none⟩) n xs := by
  refine ⟨hl, hn, fun k hk => ?_⟩
  obtain ⟨gn, nn, h1, h3, h4⟩ := h k hk
  exact ⟨g, 0, _, _, _, rfl, hg, by rw [Nat.zero_add]; exact h3, h4⟩

end Go.Proofs.YtbfjkmlmnhphoaaDoor

namespace Go.Proofs.YtbfjkmlmnhphoaaDoor
open Go.RowKit

set_option maxRecDepth 10000 in
set_option maxHeartbeats 4000000 in
theorem eqGoneS_same (a b : Option Addr) (n ca cb : Nat) (xs : List GP) (w : World) (h : Gns w a n xs) (h2 : Gns w b n xs) :
    Calls Tryd.prog 40 #[.slice a n ca, .slice b n cb] w fun e w' => e = .returned (.bool true) ∧ Below w.heap.size w w' := by
  have HK : Hid (Gns w a n xs) := h
  have HK2 : Hid (Gns w b n xs) := h2
  have hn := h.max
  clear h h2
  go_enter Tryd.func40, Tryd.ntmps40
  go_wp2
  go_loopw [5] (fun i wr => ∃ k : Nat, k ≤ n ∧ i = .int .i64 k ∧ Below w.heap.size w wr) (fun i _ => n - (intOf i).toNat)
  case atStart => exact ⟨0, Nat.zero_le _, rfl, Below.refl _ _⟩
  case round =>
    obtain ⟨k, hk, rfl, hbr⟩ := hrel
    by_cases hkn : k < n
    · obtain ⟨b1, off1, an, nn, cn, rfl, hl1, hc1, hp1⟩ := HK.out.get k hkn
      obtain ⟨b2, off2, am, mm, cm, rfl, hl2, hc2, hp2⟩ := HK2.out.get k hkn
      obtain ⟨y, hy⟩ : ∃ y, y = xs.getD k default := ⟨_, rfl⟩
      rw [← hy] at hc1 hc2 hp1 hp2
      clear hy
      obtain rfl : mm = nn := by rw [← hp2.len, ← hp1.len]
      obtain ⟨c0, c1, c2, c3⟩ := hc1.of (w' := wr) (fun i => hbr.cell (p := ⟨b1, i, none⟩) hl1)
      obtain ⟨d0, d1, d2, d3⟩ := hc2.of (w' := wr) (fun i => hbr.cell (p := ⟨b2, i, none⟩) hl2)
      have HP1 : Hid (Pts wr.drew an mm y.parts) := hp1.kept hbr.drew
      have HP2 : Hid (Pts wr.drew am mm y.parts) := hp2.kept hbr.drew
      have hkni : (k : Int) < (n : Int) := by omega
      have hs := hbr.size
      clear hc1 hc2 hp1 hp2
      go_wp2_with fail
      go_region_with (go_at_call 73; refine (eqGone_same an am mm cn cm y _ HP1.out HP2.out).mono ?_; rintro e w2 ⟨rfl, hb2⟩)
      all_goals
        have b5 : Below w.heap.size w w2 := hbr.drew.trans (hb2.mono hs)
        go_wp2
        go_roundw
        case rel => exact ⟨k + 1, by omega, by go_num, b5⟩
        case measure => simp [intOf]; omega
    · go_wp2
      go_ret
      exact ⟨rfl, hbr⟩

/-- A list: what it holds. -/
structure CP where
  parts : List PT
  num : Int
  base : Int
  tm : Int
  next : Int
  scope : Int
  ind : Bool
  ents : List GP
  sig : List Int
def crv (a1 : Option Addr) (n1 c1 : Nat) (a2 : Option Addr) (n2 c2 : Nat) (a3 : Option Addr) (n3 c3 : Nat) (x : CP) : Value := .agg #[.slice a1 n1 c1, .int .i64 x.num, .int .i64 x.base, .int .i64 x.tm, .int .i64 x.next, .int .i64 x.scope, .bool x.ind, .slice a2 n2 c2, .slice a3 n3 c3]
/-- Its three slices are there. -/
structure Crs (w : World) (a1 : Option Addr) (n1 : Nat) (a2 : Option Addr) (n2 : Nat) (a3 : Option Addr) (n3 : Nat) (x : CP) : Prop where
  nm : Pts w a1 n1 x.parts
  en : Gns w a2 n2 x.ents
  sg : Row w a3 n3 x.sig
  mx : n3 ≤ 9223372036854775807
theorem Crs.kept {w w' : World} {a1 : Option Addr} {n1 : Nat} {a2 : Option Addr} {n2 : Nat} {a3 : Option Addr} {n3 : Nat} {x : CP} (h : Crs w a1 n1 a2 n2 a3 n3 x) (hb : Below w.heap.size w w') : Crs w' a1 n1 a2 n2 a3 n3 x := ⟨h.nm.kept hb, h.en.kept hb, h.sg.kept hb, h.mx⟩
def CpOk (n1 n2 n3 : Nat) (x : CP) : Prop := n1 ≤ 1048576 ∧ (∀ k, k < n1 → (x.parts.getD k default).val.size ≤ 1048576) ∧ n2 ≤ 1048576 ∧ (∀ k, k < n2 → GpOk (x.ents.getD k default)) ∧ n3 ≤ 1048576

set_option maxRecDepth 10000 in
set_option maxHeartbeats 400000 in
theorem szByteS_k (a : Option Addr) (n cap : Nat) (l : Int) (w : World) (hl0 : 0 ≤ l) (hl : l ≤ 1048576) (hn : n ≤ 9223372036854775807) :
    Calls Tryd.prog 28 #[.slice a n cap, .int .i64 l] w fun e w' => ∃ r, e = .returned (.int .i64 r) ∧ (r < 0 ∨ (0 ≤ r ∧ r ≤ 1048576 ∧ n ≤ 1048576)) ∧ w = w' := by
  by_cases hlt : (n : Int) ≤ l
  · go_enter Tryd.func28, Tryd.ntmps28
    go_wp2
    go_ret
    exact ⟨_, rfl, .inr (by omega), rfl⟩
  · go_enter Tryd.func28, Tryd.ntmps28
    go_wp2
    go_ret
    exact ⟨_, rfl, .inl (by decide), rfl⟩

set_option maxRecDepth 10000 in
set_option maxHeartbeats 2000000 in
theorem szCrl_any (a1 : Option Addr) (n1 c1 : Nat) (a2 : Option Addr) (n2 c2 : Nat) (a3 : Option Addr) (n3 c3 : Nat) (x : CP) (lf : Int) (w : World) (h : Crs w a1 n1 a2 n2 a3 n3 x) (hl0 : 0 ≤ lf) (hl1 : lf ≤ 1048576) :
    Calls Tryd.prog 7 #[crv a1 n1 c1 a2 n2 c2 a3 n3 c3 x, .int .i64 lf] w fun e w' => ∃ r, e = .returned (.int .i64 r) ∧ (r < 0 ∨ (0 ≤ r ∧ r ≤ 1048576 ∧ CpOk n1 n2 n3 x)) ∧ Below w.heap.size w w' := by
  unfold crv
  have HK : Hid (Crs w a1 n1 a2 n2 a3 n3 x) := h
  clear h
  obtain ⟨w0, hw0⟩ : ∃ w0, w0 = w.alloc (.cells #[.slice a1 n1 c1, .int .i64 x.num, .int .i64 x.base, .int .i64 x.tm, .int .i64 x.next, .int .i64 x.scope, .bool x.ind, .slice a2 n2 c2, .slice a3 n3 c3] 28) := ⟨_, rfl⟩
  have hb0 : Below w.heap.size w w0 := by rw [hw0]; exact (Below.refl _ _).alloc (Nat.le_refl _) _
  have hh0 : w0.heap[w.heap.size]? = some (.cells #[.slice a1 n1 c1, .int .i64 x.num, .int .i64 x.base, .int .i64 x.tm, .int .i64 x.next, .int .i64 x.scope, .bool x.ind, .slice a2 n2 c2, .slice a3 n3 c3] 28) := by rw [hw0]; exact heap_alloc_new w _
  have hl0' : w.heap.size < w0.heap.size := (Array.getElem?_eq_some_iff.1 hh0).1
  go_enter Tryd.func7, Tryd.ntmps7
  go_wp2_with fail
  rw [← hw0]
  clear hw0
  refine (szName_any a1 n1 c1 x.parts lf _ (HK.out.kept hb0).nm hl0 hl1).mono ?_
  rintro e w1 ⟨r1, rfl, hr1, hb1⟩
  have B1 : Below w.heap.size w w1 := hb0.trans (hb1.mono hb0.size)
  have hh1 := (hb1.block _ hl0').trans hh0
  have c7 : w1.cell? ⟨w.heap.size, 7, none⟩ = some (.slice a2 n2 c2) := (cell_of_row _ _ 7 _ 28 (0, 0) hh1).trans rfl
  by_cases hneg : r1 < 0
  · clear hr1 hh1 hh0 hb0 hb1
    go_wp2
    go_ret
    exact ⟨_, rfl, .inl (by decide), B1⟩
  · have hr1' : 0 ≤ r1 ∧ r1 ≤ 1048576 := by omega
    have HR1 : Hid (n1 ≤ 1048576 ∧ ∀ k, k < n1 → (x.parts.getD k default).val.size ≤ 1048576) := by rcases hr1 with h | h; exact absurd h hneg; exact h.2.2
    have hl1' : w.heap.size < w1.heap.size := (Array.getElem?_eq_some_iff.1 hh1).1
    have HH1 : Hid (_ = _) := hh1
    have HB1 : Hid (Below w.heap.size w w1) := B1
    clear hr1 hh0 hb0 hb1 hh1 B1
    go_wp2_with fail
    refine (szGoneS_any a2 n2 c2 x.ents r1 _ (HK.out.kept HB1.out).en hr1'.1 hr1'.2).mono ?_
    rintro e w2 ⟨r2, rfl, hr2, hb2⟩
    have B2 : Below w.heap.size w w2 := HB1.out.trans (hb2.mono HB1.out.size)
    have hh2 := (hb2.block _ hl1').trans HH1.out
    have c8 : w2.cell? ⟨w.heap.size, 8, none⟩ = some (.slice a3 n3 c3) := (cell_of_row _ _ 8 _ 28 (0, 0) hh2).trans rfl
    by_cases hneg2 : r2 < 0
    · clear hr2 hh2 hb2
      go_wp2
      go_ret
      exact ⟨_, rfl, .inl (by decide), B2⟩
    · have hr2' : 0 ≤ r2 ∧ r2 ≤ 1048576 := by omega
      have HR2 : Hid (n2 ≤ 1048576 ∧ ∀ k, k < n2 → GpOk (x.ents.getD k default)) := by rcases hr2 with h | h; exact absurd h hneg2; exact h.2.2
      have HB2 : Hid (Below w.heap.size w w2) := B2
      clear hr2 hh2 hb2 B2
      go_wp2_with fail
      refine (szByteS_k a3 n3 c3 r2 _ hr2'.1 hr2'.2 HK.out.mx).mono ?_
      rintro e w3 ⟨r3, rfl, hr3, rfl⟩
      by_cases hneg3 : r3 < 0
      · clear hr3
        go_wp2
        go_ret
        exact ⟨_, rfl, .inl (by decide), HB2.out⟩
      · have hr3' : 0 ≤ r3 ∧ r3 ≤ 1048576 := by omega
        have hn3 : n3 ≤ 1048576 := by omega
        clear hr3
        go_wp2
        go_ret
        exact ⟨_, rfl, .inr ⟨hr3'.1, hr3'.2, HR1.out.1, HR1.out.2, HR2.out.1, HR2.out.2, hn3⟩, HB2.out⟩

end Go.Proofs.YtbfjkmlmnhphoaaDoor
