import Derived.Test.YtoldngiclmidaaaGreatDoorGN3
import Derived.Test.YtoldngiclmidaaaGreatDoorN2
import Derived.Test.YtoldngiclmidaaaGreatDoorN6
import Derived.Test.YtoldngiclmidaaaGreatDoorGB4
import Derived.Test.YtoldngiclmidaaaGreatDoorN9
namespace Go.Proofs.YtoldngiclmidaaaGreatDoor
open Go.RowKit

/-- A general name: what it holds. -/
structure GE where
  g : GT
  parts : List PT
instance : Inhabited GE := ⟨⟨⟨0, ⟨#[]⟩, 0, 0⟩, []⟩⟩
/-- Its five cells from o on. -/
structure Cells5 (w : World) (b o : Nat) (an : Option Addr) (nn cn : Nat) (x : GE) : Prop where
  c0 : w.cell? ⟨b, o, none⟩ = some (.int .i64 x.g.kind)
  c1 : w.cell? ⟨b, o + 1, none⟩ = some (.string x.g.text)
  c2 : w.cell? ⟨b, o + 2, none⟩ = some (.int .i64 x.g.addr)
  c3 : w.cell? ⟨b, o + 3, none⟩ = some (.int .i64 x.g.bits)
  c4 : w.cell? ⟨b, o + 4, none⟩ = some (.slice an nn cn)
theorem Cells5.of {w w' : World} {b o : Nat} {a : Option Addr} {n c : Nat} {x : GE} (h : Cells5 w b o a n c x) (hc : ∀ i, w'.cell? ⟨b, i, none⟩ = w.cell? ⟨b, i, none⟩) : Cells5 w' b o a n c x :=
  ⟨(hc _).trans h.c0, (hc _).trans h.c1, (hc _).trans h.c2, (hc _).trans h.c3, (hc _).trans h.c4⟩
/-- The slice at a reads as these general names. -/
structure Ges (w : World) (a : Option Addr) (n : Nat) (xs : List GE) : Prop where
  len : xs.length = n
  max : n ≤ 9223372036854775807
  get : ∀ k, k < n → ∃ b off an nn cn, a = some ⟨b, off, none⟩ ∧ b < w.heap.size ∧ Cells5 w b (off + k * 5) an nn cn (xs.getD k default) ∧ Pts w an nn (xs.getD k default).parts ∧ (xs.getD k default).g.text.size ≤ 9223372036854775807
theorem Ges.kept {w w' : World} {a : Option Addr} {n : Nat} {xs : List GE} (h : Ges w a n xs) (hb : Below w.heap.size w w') : Ges w' a n xs := by
  refine ⟨h.len, h.max, fun k hk => ?_⟩
  obtain ⟨b, off, an, nn, cn, ha, hlt, hc, hp, hs⟩ := h.get k hk
  exact ⟨b, off, an, nn, cn, ha, Nat.lt_of_lt_of_le hlt hb.size, hc.of (fun i => hb.cell (p := ⟨b, i, none⟩) hlt), hp.kept hb, hs⟩
/-- It is small. -/
def GeOk (x : GE) : Prop := x.g.text.size ≤ 1048576 ∧ x.parts.length ≤ 1048576 ∧ ∀ k, k < x.parts.length → (x.parts.getD k default).val.size ≤ 1048576

set_option maxHeartbeats 2000000 in
theorem szGenNameS_any (a : Option Addr) (n cap : Nat) (xs : List GE) (lf : Int) (w : World) (h : Ges w a n xs) (hl0 : 0 ≤ lf) (hl1 : lf ≤ 1048576) :
    Calls Tryz.prog 16 #[.slice a n cap, .int .i64 lf] w fun e w' => ∃ r, e = .returned (.int .i64 r) ∧ (r < 0 ∨ (0 ≤ r ∧ r ≤ 1048576 ∧ n ≤ 1048576 ∧ ∀ k, k < n → GeOk (xs.getD k default))) ∧ Below w.heap.size w w' := by
  have H0 : Hid (Ges w a n xs) := h
  have hn := h.max
  clear h
  by_cases hlt : (n : Int) ≤ lf
  · go_enter Tryz.func16, Tryz.ntmps16
    go_wp2
    go_loopw [1, 5] (fun l i wr => ∃ (k : Nat) (left : Int), k ≤ n ∧ i = .int .i64 k ∧ l = .int .i64 left ∧ 0 ≤ left ∧ left ≤ 1048576 ∧ Hid (∀ j, j < k → GeOk (xs.getD j default)) ∧ Below w.heap.size w wr) (fun _ i _ => n - (intOf i).toNat)
    case atStart => exact ⟨0, lf - n, Nat.zero_le _, rfl, rfl, by omega, by omega, fun j hj => absurd hj (Nat.not_lt_zero _), Below.refl _ _⟩
    case round =>
      obtain ⟨k, left, hk, rfl, rfl, h0, h1, HA, hbr⟩ := hrel
      by_cases hkn : k < n
      · obtain ⟨b, off, an, nn, cn, rfl, hlb, hc, hp, hs⟩ := H0.out.get k hkn
        obtain ⟨y, hy⟩ : ∃ y, y = xs.getD k default := ⟨_, rfl⟩
        rw [← hy] at hc hp hs
        have HY : Hid (y = xs.getD k default) := hy
        obtain ⟨c0, c1, c2, c3, c4⟩ := hc.of (w' := wr) (fun i => hbr.cell (p := ⟨b, i, none⟩) hlb)
        have HP : Hid (Pts wr an nn y.parts) := hp.kept hbr
        have HN : Hid (y.parts.length = nn) := hp.len
        have hkni : (k : Int) < (n : Int) := by omega
        clear hc hy hp
        go_wp2_with fail
        refine (szGenName_any y.g an nn cn y.parts left _ HP.out hs h0 h1).mono ?_
        rintro e w2 ⟨r, rfl, hr, hb2⟩
        have hb2' : Below w.heap.size w w2 := hbr.trans (hb2.mono hbr.size)
        by_cases hneg : r < 0
        · clear hr
          go_wp2
          go_ret
          exact ⟨_, rfl, .inl (by decide), hb2'⟩
        · have hr1 : 0 ≤ r := by omega
          have hr2 : r ≤ 1048576 := by omega
          have HR : Hid (GeOk y) := by
            rcases hr with h | ⟨_, _, h3, h4, h5⟩
            · exact absurd h hneg
            · exact ⟨h3, by rw [HN.out]; exact h4, fun k hk => h5 k (by rw [← HN.out]; exact hk)⟩
          clear hr
          go_wp2
          go_roundw
          case rel =>
            refine ⟨k + 1, r, by omega, by go_num, rfl, hr1, hr2, fun j hj => ?_, hb2'⟩
            by_cases hjk : j = k
            · subst hjk; rw [← HY.out]; exact HR.out
            · exact HA.out j (by omega)
          case measure => simp [intOf]; omega
      · obtain rfl : n = k := by omega
        go_wp2
        go_ret
        exact ⟨_, rfl, .inr ⟨h0, h1, by omega, HA.out⟩, hbr⟩
  · go_enter Tryz.func16, Tryz.ntmps16
    go_wp2
    go_ret
    exact ⟨_, rfl, .inl (by decide), Below.refl _ _⟩

set_option maxRecDepth 10000 in
set_option maxHeartbeats 4000000 in
theorem eqGenNameS_same (a b : Option Addr) (n ca cb : Nat) (xs : List GE) (w : World) (h : Ges w a n xs) (h2 : Ges w b n xs) :
    Calls Tryz.prog 31 #[.slice a n ca, .slice b n cb] w fun e w' => e = .returned (.bool true) ∧ Below w.heap.size w w' := by
  have HK : Hid (Ges w a n xs) := h
  have HK2 : Hid (Ges w b n xs) := h2
  have hn := h.max
  clear h h2
  go_enter Tryz.func31, Tryz.ntmps31
  go_wp2
  go_loopw [5] (fun i wr => ∃ k : Nat, k ≤ n ∧ i = .int .i64 k ∧ Below w.heap.size w wr) (fun i _ => n - (intOf i).toNat)
  case atStart => exact ⟨0, Nat.zero_le _, rfl, Below.refl _ _⟩
  case round =>
    obtain ⟨k, hk, rfl, hbr⟩ := hrel
    by_cases hkn : k < n
    · obtain ⟨b1, off1, an, nn, cn, rfl, hl1, hc1, hp1, _⟩ := HK.out.get k hkn
      obtain ⟨b2, off2, am, mm, cm, rfl, hl2, hc2, hp2, _⟩ := HK2.out.get k hkn
      obtain ⟨y, hy⟩ : ∃ y, y = xs.getD k default := ⟨_, rfl⟩
      rw [← hy] at hc1 hc2 hp1 hp2
      clear hy
      obtain rfl : mm = nn := by rw [← hp2.len, ← hp1.len]
      obtain ⟨c0, c1, c2, c3, c4⟩ := hc1.of (w' := wr) (fun i => hbr.cell (p := ⟨b1, i, none⟩) hl1)
      obtain ⟨d0, d1, d2, d3, d4⟩ := hc2.of (w' := wr) (fun i => hbr.cell (p := ⟨b2, i, none⟩) hl2)
      have HP1 : Hid (Pts wr.drew an mm y.parts) := hp1.kept hbr.drew
      have HP2 : Hid (Pts wr.drew am mm y.parts) := hp2.kept hbr.drew
      have hkni : (k : Int) < (n : Int) := by omega
      have hs := hbr.size
      clear hc1 hc2 hp1 hp2
      go_wp2_with fail
      go_region_with (go_at_call 46; refine (eqGenName_same y.g an am mm cn cm y.parts _ HP1.out HP2.out).mono ?_; rintro e w2 ⟨rfl, hb2⟩)
      all_goals
        have b5 : Below w.heap.size w w2 := hbr.drew.trans (hb2.mono hs)
        go_wp2
        go_roundw
        case rel => exact ⟨k + 1, by omega, by go_num, b5⟩
        case measure => simp [intOf]; omega
    · go_wp2
      go_ret
      exact ⟨rfl, hbr⟩

end Go.Proofs.YtoldngiclmidaaaGreatDoor

namespace Go.Proofs.YtoldngiclmidaaaGreatDoor
open Go.RowKit

theorem Tryz.infoGe : (Tryz.prog.info? 53).map (fun i => (i.zero, i.size, i.bytes)) = some (some (.agg #[.int .i64 0, .string ⟨#[]⟩, .int .i64 0, .int .i64 0, .slice none 0 0]), 5, 64) := by kernel_rfl

/-- Five cells of the row g are written, from o on. -/
def put5 (w : World) (g o : Nat) (v0 v1 v2 v3 v4 : Value) : World := (((((w.setCell ⟨g, o, none⟩ v0).setCell ⟨g, o + 1, none⟩ v1).setCell ⟨g, o + 2, none⟩ v2).setCell ⟨g, o + 3, none⟩ v3).setCell ⟨g, o + 4, none⟩ v4)
theorem put5_other (w : World) (g o l : Nat) (h : l ≠ g) (v0 v1 v2 v3 v4 : Value) : (put5 w g o v0 v1 v2 v3 v4).heap[l]? = w.heap[l]? :=
  (Below.heap_setCell _ _ _ _ (by show l ≠ g; exact h)).trans ((Below.heap_setCell _ _ _ _ (by show l ≠ g; exact h)).trans ((Below.heap_setCell _ _ _ _ (by show l ≠ g; exact h)).trans ((Below.heap_setCell _ _ _ _ (by show l ≠ g; exact h)).trans (Below.heap_setCell _ _ _ _ (by show l ≠ g; exact h)))))
theorem put5_size (w : World) (g o : Nat) (v0 v1 v2 v3 v4 : Value) : (put5 w g o v0 v1 v2 v3 v4).heap.size = w.heap.size := by simp [put5]

/-- The first k general names lie in the row g, their parts behind it. -/
def GePre (w : World) (g k : Nat) (xs : List GE) : Prop := ∀ j, j < k → ∃ gn nn, g < gn ∧ Cells5 w g (j * 5) (some ⟨gn, 0, none⟩) nn nn (xs.getD j default) ∧ Pts w (some ⟨gn, 0, none⟩) nn (xs.getD j default).parts
theorem GePre.kept {w w' : World} {g k : Nat} {xs : List GE} (h : GePre w g k xs) (hg : g < w.heap.size) (hb : Below w.heap.size w w') : GePre w' g k xs := fun j hj => by
  obtain ⟨gn, nn, h1, h3, h4⟩ := h j hj
  exact ⟨gn, nn, h1, h3.of (fun i => hb.cell (p := ⟨g, i, none⟩) hg), h4.kept hb⟩

structure Put5 (B : Nat) (w w' : World) (g n cap i : Nat) (an : Option Addr) (nn cn : Nat) (x : GE) : Prop where
  own : ∃ vs, w'.ownsRow B 53 5 (.slice (some ⟨g, 0, none⟩) n cap) n vs
  other : ∀ l, l ≠ g → w'.heap[l]? = w.heap[l]?
  size : w'.heap.size = w.heap.size
  old : ∀ j, j < n * 5 → j < i * 5 ∨ i * 5 + 5 ≤ j → w'.cell? ⟨g, j, none⟩ = w.cell? ⟨g, j, none⟩
  cells : Cells5 w' g (i * 5) an nn cn x
theorem put5_is {B : Nat} {w : World} {g n cap : Nat} {vs : List Value} (h : w.ownsRow B 53 5 (.slice (some ⟨g, 0, none⟩) n cap) n vs) (i : Nat) (hi : i < n) (an : Option Addr) (nn cn : Nat) (x : GE) : Put5 B w (put5 w g (i * 5) (.int .i64 x.g.kind) (.string x.g.text) (.int .i64 x.g.addr) (.int .i64 x.g.bits) (.slice an nn cn)) g n cap i an nn cn x := by
  have h1 := (((((h.stored (i * 5) (.int .i64 x.g.kind)).1.stored (i * 5 + 1) (.string x.g.text)).1.stored (i * 5 + 2) (.int .i64 x.g.addr)).1.stored (i * 5 + 3) (.int .i64 x.g.bits)).1.stored (i * 5 + 4) (.slice an nn cn)).1
  have hl : vs.length = n * 5 := h.1
  have cc := fun j (hj : j < n * 5) => h1.cellAt j hj
  refine ⟨⟨_, h1⟩, fun l hl => put5_other _ _ _ _ hl _ _ _ _ _, put5_size _ _ _ _ _ _ _ _, fun j hj ho => ?_, ⟨?_, ?_, ?_, ?_, ?_⟩⟩
  · refine (cc j hj).trans ?_
    rw [h.cellAt j hj]
    rw [List.getElem?_set_ne (by omega), List.getElem?_set_ne (by omega), List.getElem?_set_ne (by omega), List.getElem?_set_ne (by omega), List.getElem?_set_ne (by omega)]
  · refine (cc _ (by omega)).trans ?_
    rw [List.getElem?_set_ne (by omega), List.getElem?_set_ne (by omega), List.getElem?_set_ne (by omega), List.getElem?_set_ne (by omega), List.getElem?_set_self (by omega)]
  · refine (cc _ (by omega)).trans ?_
    rw [List.getElem?_set_ne (by omega), List.getElem?_set_ne (by omega), List.getElem?_set_ne (by omega), List.getElem?_set_self (by simp; omega)]
  · refine (cc _ (by omega)).trans ?_
    rw [List.getElem?_set_ne (by omega), List.getElem?_set_ne (by omega), List.getElem?_set_self (by simp; omega)]
  · refine (cc _ (by omega)).trans ?_
    rw [List.getElem?_set_ne (by omega), List.getElem?_set_self (by simp; omega)]
  · refine (cc _ (by omega)).trans ?_
    rw [List.getElem?_set_self (by simp; omega)]

set_option maxRecDepth 10000 in
set_option maxHeartbeats 4000000 in
theorem toGenNameS_at (a : Option Addr) (n cap : Nat) (xs : List GE) (w : World) (h : Ges w a n xs) (hn : n ≤ 1048576) (hz : ∀ k, k < n → GeOk (xs.getD k default)) :
    Calls Tryz.prog 23 #[.slice a n cap] w fun e w' => e = .returned (.slice (some ⟨w.heap.size, 0, none⟩) n n) ∧ GePre w' w.heap.size n xs ∧ w.heap.size < w'.heap.size ∧ Below w.heap.size w w' := by
  obtain ⟨i0, hi, hz0, hz1, hz2⟩ := info_parts Tryz.infoGe
  have HK : Hid (Ges w a n xs) := h
  have HZ : Hid (∀ k, k < n → GeOk (xs.getD k default)) := hz
  have hlen : Hid (xs.length = n) := h.len
  clear h hz
  go_enter Tryz.func23, Tryz.ntmps23
  go_wp2_with (first | (at_make; refine wpList_make_full _ rfl _ _ 37 rfl w.heap.size 53 i0 _ 5 Tryz.underlying37 hi hz0 hz1 _ _ _ _ n rfl rfl rfl rfl (by rw [hz2]; omega) (by unfold maxLen; omega) (by exact Nat.le_refl _) ?_; intro w1 hown hgrow))
  have hbl : Below w.heap.size w w1 := (Below.refl _ _).grown hgrow (Nat.le_refl _) (by simp)
  clear hgrow hi hz0 hz1 hz2
  go_loopw [4] (fun i wr => ∃ k : Nat, k ≤ n ∧ i = .int .i64 k ∧ Hid (∃ vs, wr.ownsRow w.heap.size 53 5 (.slice (some ⟨w.heap.size, 0, none⟩) n n) n vs) ∧ Hid (GePre wr w.heap.size k xs) ∧ Below w.heap.size w wr) (fun i _ => n - (intOf i).toNat)
  case atStart => exact ⟨0, Nat.zero_le _, rfl, ⟨_, hown⟩, fun j hj => absurd hj (Nat.not_lt_zero _), hbl⟩
  case round =>
    obtain ⟨k, hk, rfl, HOR, HPRE, hbr⟩ := hrel
    obtain ⟨vs, hor⟩ := HOR.out
    have hgl := (hor.lt _ rfl).2
    have HOV : Hid (_) := hor
    clear HOR hor hown hbl
    by_cases hkn : k < n
    · obtain ⟨b, off, an, nn, cn, rfl, hlb, hc, hp, _⟩ := HK.out.get k hkn
      have hgp := HZ.out k hkn
      obtain ⟨y, hy⟩ : ∃ y, y = xs.getD k default := ⟨_, rfl⟩
      rw [← hy] at hc hp hgp
      have HY : Hid (y = xs.getD k default) := hy
      have hnn : nn ≤ 1048576 := by rw [← hp.len]; exact hgp.2.1
      obtain ⟨c0, c1, c2, c3, c4⟩ := hc.of (w' := wr) (fun i => hbr.cell (p := ⟨b, i, none⟩) hlb)
      have HP : Hid (Pts wr an nn y.parts) := hp.kept hbr
      have hkni : (k : Int) < (n : Int) := by omega
      have hs := hbr.size
      clear hc hy hp hgp
      go_wp2_with fail
      refine (toGenName_at y.g an nn cn y.parts _ HP.out hnn).mono ?_
      rintro e w2 ⟨g2, rfl, hg2, hp2, hb2⟩
      have hor2 : w2.ownsRow w.heap.size 53 5 (.slice (some ⟨w.heap.size, 0, none⟩) n n) n vs := ownsRow_below HOV.out hb2
      have hs2 := hb2.size
      have fr : ∀ j, w2.frozen? ⟨w.heap.size, j, none⟩ = false := fun j => hor2.frozenAt j
      have hvl : vs.length = n * 5 := hor2.1
      have cx : ∀ j, j < n * 5 → ∃ z, w2.cell? ⟨w.heap.size, j, none⟩ = some z := fun j hj => ⟨_, (hor2.cellAt j hj).trans (List.getElem?_eq_getElem (by omega))⟩
      obtain ⟨z0, x0⟩ := cx (k * 5) (by omega)
      obtain ⟨z1, x1⟩ := cx (k * 5 + 1) (by omega)
      obtain ⟨z2, x2⟩ := cx (k * 5 + 2) (by omega)
      obtain ⟨z3, x3⟩ := cx (k * 5 + 3) (by omega)
      obtain ⟨z4, x4⟩ := cx (k * 5 + 4) (by omega)
      have f0 := fr (k * 5)
      have f1 := fr (k * 5 + 1)
      have f2 := fr (k * 5 + 2)
      have f3 := fr (k * 5 + 3)
      have f4 := fr (k * 5 + 4)
      have hS := put5_is hor2 k hkn (some ⟨g2, 0, none⟩) nn nn y
      have hP : GePre (put5 w2 w.heap.size (k * 5) (.int .i64 y.g.kind) (.string y.g.text) (.int .i64 y.g.addr) (.int .i64 y.g.bits) (.slice (some ⟨g2, 0, none⟩) nn nn)) w.heap.size (k + 1) xs := by
        intro j hj
        by_cases hjk : j = k
        · subst hjk
          rw [← HY.out]
          exact ⟨g2, nn, by omega, hS.cells, hp2.same (hS.other _ (by omega)) (Nat.le_of_eq hS.size.symm)⟩
        · obtain ⟨gn, mm, q1, q2, q3⟩ := (HPRE.out.kept hgl hb2) j (by omega)
          have hx := hS.old
          exact ⟨gn, mm, q1, ⟨(hx _ (by omega) (by omega)).trans q2.c0, (hx _ (by omega) (by omega)).trans q2.c1, (hx _ (by omega) (by omega)).trans q2.c2, (hx _ (by omega) (by omega)).trans q2.c3, (hx _ (by omega) (by omega)).trans q2.c4⟩, q3.same (hS.other _ (by omega)) (Nat.le_of_eq hS.size.symm)⟩
      have hB2 := hbr.trans (hb2.mono hs)
      have hB4 : Below w.heap.size w (put5 w2 w.heap.size (k * 5) (.int .i64 y.g.kind) (.string y.g.text) (.int .i64 y.g.addr) (.int .i64 y.g.bits) (.slice (some ⟨g2, 0, none⟩) nn nn)) := ⟨hB2.os, hB2.tape, hB2.output, by rw [hS.size]; exact hB2.size, fun l hl => (hS.other l (by omega)).trans (hB2.block l hl)⟩
      have FIN : Hid (_ ∧ _ ∧ _) := ⟨hS.own, hP, hB4⟩
      have hgl2 : w.heap.size < w2.heap.size := by omega
      clear fr cx hS hP hB4 hB2 hor2 hp2 hb2 hvl HPRE HOV HP HK
      unfold gnv
      go_wp2
      go_roundw
      case rel => exact ⟨k + 1, by omega, by go_num, FIN.out.1, FIN.out.2.1, FIN.out.2.2⟩
      case measure => simp [intOf]; omega
    · obtain rfl : n = k := by omega
      clear HOV
      go_wp2
      go_ret
      exact ⟨rfl, HPRE.out, hgl, hbr⟩
theorem GePre.ges {w : World} {g n : Nat} {xs : List GE} (h : GePre w g n xs) (hl : xs.length = n) (hn : n ≤ 9223372036854775807) (hg : g < w.heap.size) (hz : ∀ k, k < n → GeOk (xs.getD k default)) : Ges w (some ⟨g, 0, none⟩) n xs := by
  refine ⟨hl, hn, fun k hk => ?_⟩
  obtain ⟨gn, nn, h1, h3, h4⟩ := h k hk
  exact ⟨g, 0, _, _, _, rfl, hg, by rw [Nat.zero_add]; exact h3, h4, Nat.le_trans (hz k hk).1 (by decide)⟩

end Go.Proofs.YtoldngiclmidaaaGreatDoor

namespace Go.Proofs.YtoldngiclmidaaaGreatDoor
open Go.RowKit

/-- An entry: what it holds. -/
structure GP where
  parts : List PT
  ser : Int
  tm : Int
  rs : Int
instance : Inhabited GP := ⟨⟨[], 0, 0, 0⟩⟩
def gov (a : Option Addr) (n c : Nat) (x : GP) : Value := .agg #[.slice a n c, .int .i64 x.ser, .int .i64 x.tm, .int .i64 x.rs]

/-- The four cells of an entry from o on. -/
structure Cells4 (w : World) (b o : Nat) (a : Option Addr) (n c : Nat) (x : GP) : Prop where
  c0 : w.cell? ⟨b, o, none⟩ = some (.slice a n c)
  c1 : w.cell? ⟨b, o + 1, none⟩ = some (.int .i64 x.ser)
  c2 : w.cell? ⟨b, o + 2, none⟩ = some (.int .i64 x.tm)
  c3 : w.cell? ⟨b, o + 3, none⟩ = some (.int .i64 x.rs)
theorem Cells4.of {w w' : World} {b o : Nat} {a : Option Addr} {n c : Nat} {x : GP} (h : Cells4 w b o a n c x) (hc : ∀ i, w'.cell? ⟨b, i, none⟩ = w.cell? ⟨b, i, none⟩) : Cells4 w' b o a n c x :=
  ⟨(hc _).trans h.c0, (hc _).trans h.c1, (hc _).trans h.c2, (hc _).trans h.c3⟩

/-- The slice at a reads as these entries. -/
structure Gns (w : World) (a : Option Addr) (n : Nat) (xs : List GP) : Prop where
  len : xs.length = n
  max : n ≤ 9223372036854775807
  get : ∀ k, k < n → ∃ b off an nn cn, a = some ⟨b, off, none⟩ ∧ b < w.heap.size ∧ Cells4 w b (off + k * 4) an nn cn (xs.getD k default) ∧ Pts w an nn (xs.getD k default).parts
theorem Gns.kept {w w' : World} {a : Option Addr} {n : Nat} {xs : List GP} (h : Gns w a n xs) (hb : Below w.heap.size w w') : Gns w' a n xs := by
  refine ⟨h.len, h.max, fun k hk => ?_⟩
  obtain ⟨b, off, an, nn, cn, ha, hlt, hc, hp⟩ := h.get k hk
  exact ⟨b, off, an, nn, cn, ha, Nat.lt_of_lt_of_le hlt hb.size, hc.of (fun i => hb.cell (p := ⟨b, i, none⟩) hlt), hp.kept hb⟩
/-- Its names are small. -/
def GpOk (x : GP) : Prop := x.parts.length ≤ 1048576 ∧ ∀ k, k < x.parts.length → (x.parts.getD k default).val.size ≤ 1048576

set_option maxHeartbeats 1000000 in
theorem szGone_any (a : Option Addr) (n c : Nat) (x : GP) (lf : Int) (w : World) (h : Pts w a n x.parts) (h0 : 0 ≤ lf) (h1 : lf ≤ 1048576) :
    Calls Tryz.prog 116 #[gov a n c x, .int .i64 lf] w fun e w' => ∃ r, e = .returned (.int .i64 r) ∧ (r < 0 ∨ (0 ≤ r ∧ r ≤ 1048576 ∧ GpOk x)) ∧ Below w.heap.size w w' := by
  unfold gov
  have H0 : Hid (Pts w a n x.parts) := h
  have HN : Hid (x.parts.length = n) := h.len
  clear h
  have hbl : Below w.heap.size w (w.alloc (.cells #[.slice a n c, .int .i64 x.ser, .int .i64 x.tm, .int .i64 x.rs] 149)) := (Below.refl _ _).alloc (Nat.le_refl _) _
  go_enter Tryz.func116, Tryz.ntmps116
  go_wp2_with fail
  refine (szName_any a n c x.parts lf _ (H0.out.kept hbl) h0 h1).mono ?_
  rintro e w1 ⟨r, rfl, hr, hb1⟩
  have B1 : Below w.heap.size w w1 := hbl.trans (hb1.mono hbl.size)
  have HR : Hid (_) := hr
  by_cases hneg : r < 0
  · clear hr
    go_wp2
    go_ret
    exact ⟨_, rfl, .inl (by decide), B1⟩
  · have hr2 : 0 ≤ r ∧ r ≤ 1048576 := by omega
    clear hr
    go_wp2
    go_ret
    refine ⟨_, rfl, .inr ⟨hr2.1, hr2.2, ?_⟩, B1⟩
    have hn := HN.out
    rcases HR.out with h | ⟨_, _, h3, h4⟩
    · omega
    · exact ⟨by rw [hn]; exact h3, fun k hk => h4 k (by rw [← hn]; exact hk)⟩

set_option maxHeartbeats 2000000 in
theorem szGoneS_any (a : Option Addr) (n cap : Nat) (xs : List GP) (lf : Int) (w : World) (h : Gns w a n xs) (hl0 : 0 ≤ lf) (hl1 : lf ≤ 1048576) :
    Calls Tryz.prog 92 #[.slice a n cap, .int .i64 lf] w fun e w' => ∃ r, e = .returned (.int .i64 r) ∧ (r < 0 ∨ (0 ≤ r ∧ r ≤ 1048576 ∧ n ≤ 1048576 ∧ ∀ k, k < n → GpOk (xs.getD k default))) ∧ Below w.heap.size w w' := by
  have H0 : Hid (Gns w a n xs) := h
  have hn := h.max
  clear h
  by_cases hlt : (n : Int) ≤ lf
  · go_enter Tryz.func92, Tryz.ntmps92
    go_wp2
    go_loopw [1, 5] (fun l i wr => ∃ (k : Nat) (left : Int), k ≤ n ∧ i = .int .i64 k ∧ l = .int .i64 left ∧ 0 ≤ left ∧ left ≤ 1048576 ∧ Hid (∀ j, j < k → GpOk (xs.getD j default)) ∧ Below w.heap.size w wr) (fun _ i _ => n - (intOf i).toNat)
    case atStart => exact ⟨0, lf - n, Nat.zero_le _, rfl, rfl, by omega, by omega, fun j hj => absurd hj (Nat.not_lt_zero _), Below.refl _ _⟩
    case round =>
      obtain ⟨k, left, hk, rfl, rfl, h0, h1, HA, hbr⟩ := hrel
      by_cases hkn : k < n
      · obtain ⟨b, off, an, nn, cn, rfl, hlb, hc, hp⟩ := H0.out.get k hkn
        obtain ⟨y, hy⟩ : ∃ y, y = xs.getD k default := ⟨_, rfl⟩
        rw [← hy] at hc hp
        have HY : Hid (y = xs.getD k default) := hy
        obtain ⟨c0, c1, c2, c3⟩ := hc.of (w' := wr) (fun i => hbr.cell (p := ⟨b, i, none⟩) hlb)
        have HP : Hid (Pts wr an nn y.parts) := hp.kept hbr
        have hkni : (k : Int) < (n : Int) := by omega
        clear hc hy hp
        go_wp2_with fail
        refine (szGone_any an nn cn y left _ HP.out h0 h1).mono ?_
        rintro e w2 ⟨r, rfl, hr, hb2⟩
        have hb2' : Below w.heap.size w w2 := hbr.trans (hb2.mono hbr.size)
        by_cases hneg : r < 0
        · clear hr
          go_wp2
          go_ret
          exact ⟨_, rfl, .inl (by decide), hb2'⟩
        · have hr1 : 0 ≤ r := by omega
          have hr2 : r ≤ 1048576 := by omega
          have HR : Hid (GpOk y) := by rcases hr with h | h; exact absurd h hneg; exact h.2.2
          clear hr
          go_wp2
          go_roundw
          case rel =>
            refine ⟨k + 1, r, by omega, by go_num, rfl, hr1, hr2, fun j hj => ?_, hb2'⟩
            by_cases hjk : j = k
            · subst hjk; rw [← HY.out]; exact HR.out
            · exact HA.out j (by omega)
          case measure => simp [intOf]; omega
      · obtain rfl : n = k := by omega
        go_wp2
        go_ret
        exact ⟨_, rfl, .inr ⟨h0, h1, by omega, HA.out⟩, hbr⟩
  · go_enter Tryz.func92, Tryz.ntmps92
    go_wp2
    go_ret
    exact ⟨_, rfl, .inl (by decide), Below.refl _ _⟩

set_option maxHeartbeats 1000000 in
theorem eqGone_same (a b : Option Addr) (n ca cb : Nat) (x : GP) (w : World) (h : Pts w a n x.parts) (h2 : Pts w b n x.parts) :
    Calls Tryz.prog 118 #[gov a n ca x, gov b n cb x] w fun e w' => e = .returned (.bool true) ∧ Below w.heap.size w w' := by
  have H1 : Hid (Pts w a n x.parts) := h
  have H2 : Hid (Pts w b n x.parts) := h2
  clear h h2
  unfold gov
  have hbl : Below w.heap.size w ((w.alloc (.cells #[.slice a n ca, .int .i64 x.ser, .int .i64 x.tm, .int .i64 x.rs] 151)).alloc (.cells #[.slice b n cb, .int .i64 x.ser, .int .i64 x.tm, .int .i64 x.rs] 151)) := ((Below.refl _ _).alloc (Nat.le_refl _) _).alloc (by simp) _
  have t1 : (x.ser != x.ser) = false := by simp
  have t3 : (x.tm != x.tm) = false := by simp
  have t4 : (x.rs != x.rs) = false := by simp
  obtain ⟨W0, hW0⟩ : ∃ W0, W0 = ((w.alloc (.cells #[.slice a n ca, .int .i64 x.ser, .int .i64 x.tm, .int .i64 x.rs] 151)).alloc (.cells #[.slice b n cb, .int .i64 x.ser, .int .i64 x.tm, .int .i64 x.rs] 151)) := ⟨_, rfl⟩
  have b0 := two_blocks w (.cells #[.slice a n ca, .int .i64 x.ser, .int .i64 x.tm, .int .i64 x.rs] 151) (.cells #[.slice b n cb, .int .i64 x.ser, .int .i64 x.tm, .int .i64 x.rs] 151)
  rw [← hW0] at hbl b0
  go_enter Tryz.func118, Tryz.ntmps118
  go_wp2_with fail
  rw [← hW0]
  clear hW0
  refine (eqName_same a b n ca cb x.parts _ (H1.out.kept hbl) (H2.out.kept hbl)).mono ?_
  rintro e w2 ⟨rfl, hb2⟩
  have l0 := (Array.getElem?_eq_some_iff.1 b0.2).1
  have y0 := (hb2.block _ (by omega)).trans b0.1
  have y1 := (hb2.block _ l0).trans b0.2
  have c1 : w2.cell? ⟨w.heap.size, 1, none⟩ = some (.int .i64 x.ser) := (cell_of_row _ _ 1 _ 151 (0, 0) y0).trans rfl
  have c2 : w2.cell? ⟨w.heap.size, 2, none⟩ = some (.int .i64 x.tm) := (cell_of_row _ _ 2 _ 151 (0, 0) y0).trans rfl
  have c3 : w2.cell? ⟨w.heap.size, 3, none⟩ = some (.int .i64 x.rs) := (cell_of_row _ _ 3 _ 151 (0, 0) y0).trans rfl
  have d1 : w2.cell? ⟨w.heap.size + 1, 1, none⟩ = some (.int .i64 x.ser) := (cell_of_row _ _ 1 _ 151 (0, 0) y1).trans rfl
  have d2 : w2.cell? ⟨w.heap.size + 1, 2, none⟩ = some (.int .i64 x.tm) := (cell_of_row _ _ 2 _ 151 (0, 0) y1).trans rfl
  have d3 : w2.cell? ⟨w.heap.size + 1, 3, none⟩ = some (.int .i64 x.rs) := (cell_of_row _ _ 3 _ 151 (0, 0) y1).trans rfl
  have HF : Hid (Below w.heap.size w w2) := hbl.trans (hb2.mono hbl.size)
  clear hb2 y0 y1 b0 hbl
  go_wp2
  go_ret
  exact ⟨rfl, HF.out⟩

end Go.Proofs.YtoldngiclmidaaaGreatDoor

namespace Go.Proofs.YtoldngiclmidaaaGreatDoor
open Go.RowKit

theorem results_go {fn : Func} {t : Tmp} (h : fn.results = #[.cell t 151]) (tmps : Array Value) (g : Nat) (ht : tmps.getD t undef = .pointer (some ⟨g, 0, none⟩)) (w : World) (c0 c1 c2 c3 : Value)
    (hb : w.heap[g]? = some (.cells #[c0, c1, c2, c3] 151 (0, 0))) : (results fn tmps).run Tryz.prog w = .ok (.agg #[c0, c1, c2, c3]) w := by
  have d0 : w.cell? ⟨g, 0, none⟩ = some c0 := (cell_of_row _ g 0 _ 151 (0, 0) hb).trans rfl
  have d1 : w.cell? ⟨g, 1, none⟩ = some c1 := (cell_of_row _ g 1 _ 151 (0, 0) hb).trans rfl
  have d2 : w.cell? ⟨g, 2, none⟩ = some c2 := (cell_of_row _ g 2 _ 151 (0, 0) hb).trans rfl
  have d3 : w.cell? ⟨g, 3, none⟩ = some c3 := (cell_of_row _ g 3 _ 151 (0, 0) hb).trans rfl
  clear hb
  have ht' : tmps[t]?.getD undef = .pointer (some ⟨g, 0, none⟩) := by rw [← ht]; simp
  simp [results, h, go_sem, ht', d0, d1, d2, d3]
/-- Four cells of the row g are written, from o on. -/
def put4 (w : World) (g o : Nat) (v0 v1 v2 v3 : Value) : World := (((w.setCell ⟨g, o, none⟩ v0).setCell ⟨g, o + 1, none⟩ v1).setCell ⟨g, o + 2, none⟩ v2).setCell ⟨g, o + 3, none⟩ v3
theorem put4_other (w : World) (g o l : Nat) (h : l ≠ g) (v0 v1 v2 v3 : Value) : (put4 w g o v0 v1 v2 v3).heap[l]? = w.heap[l]? :=
  (Below.heap_setCell _ _ _ _ (by show l ≠ g; exact h)).trans ((Below.heap_setCell _ _ _ _ (by show l ≠ g; exact h)).trans ((Below.heap_setCell _ _ _ _ (by show l ≠ g; exact h)).trans (Below.heap_setCell _ _ _ _ (by show l ≠ g; exact h))))
theorem put4_size (w : World) (g o : Nat) (v0 v1 v2 v3 : Value) : (put4 w g o v0 v1 v2 v3).heap.size = w.heap.size := by simp [put4]
theorem put4_row {w : World} {g t : Nat} {c0 c1 c2 c3 : Value} (h : w.heap[g]? = some (.cells #[c0, c1, c2, c3] t (0, 0))) (v0 v1 v2 v3 : Value) : (put4 w g 0 v0 v1 v2 v3).heap[g]? = some (.cells #[v0, v1, v2, v3] t (0, 0)) := by
  have q1 := heap_setCell_same w g 0 _ t v0 h
  have q2 := heap_setCell_same _ g 1 _ t v1 q1
  have q3 := heap_setCell_same _ g 2 _ t v2 q2
  exact heap_setCell_same _ g 3 _ t v3 q3


/-- An entry as it is copied: its argument, its answer's box, its own box. -/
structure TG (w W : World) (a : Option Addr) (n c : Nat) (x : GP) (g1 : Nat) (v0 v1 v2 v3 : Value) : Prop where
  b0 : W.heap[w.heap.size]? = some (.cells #[.slice a n c, .int .i64 x.ser, .int .i64 x.tm, .int .i64 x.rs] 149 (0, 0))
  b1 : W.heap[w.heap.size + 1]? = some (.cells #[.slice none 0 0, .int .i64 0, .int .i64 0, .int .i64 0] 151 (0, 0))
  b2 : W.heap[w.heap.size + 1 + 1]? = some (.cells #[v0, v1, v2, v3] 151 (0, 0))
  pts : Pts W (some ⟨g1, 0, none⟩) n x.parts
  below : Below w.heap.size w W
  g3 : w.heap.size + 3 ≤ g1
  lt : w.heap.size + 3 ≤ W.heap.size
theorem TG.set {w W : World} {a : Option Addr} {n c : Nat} {x : GP} {g1 : Nat} {v0 v1 v2 v3 u0 u1 u2 u3 : Value} (h : TG w W a n c x g1 v0 v1 v2 v3) (j : Nat) (u : Value) (e : (#[v0, v1, v2, v3] : Array Value).setIfInBounds j u = #[u0, u1, u2, u3]) : TG w (W.setCell ⟨w.heap.size + 1 + 1, j, none⟩ u) a n c x g1 u0 u1 u2 u3 := by
  have hg := h.g3
  have f : ∀ l, l ≠ w.heap.size + 2 → (W.setCell ⟨w.heap.size + 1 + 1, j, none⟩ u).heap[l]? = W.heap[l]? := fun l hl => Below.heap_setCell _ _ _ _ (by show l ≠ w.heap.size + 1 + 1; omega)
  refine ⟨(f _ (by omega)).trans h.b0, (f _ (by omega)).trans h.b1, ?_, h.pts.same (f _ (by omega)) (by simp), ⟨h.below.os, h.below.tape, h.below.output, by simpa [World.setCell] using h.below.size, fun l hl => (f l (by omega)).trans (h.below.block l hl)⟩, hg, by simpa [World.setCell] using h.lt⟩
  rw [← e]
  exact heap_setCell_same W (w.heap.size + 1 + 1) j _ 151 u h.b2
theorem TG.out {w W : World} {a : Option Addr} {n c : Nat} {x : GP} {g1 : Nat} {v0 v1 v2 v3 : Value} (h : TG w W a n c x g1 v0 v1 v2 v3) (j : Nat) : W.cell? ⟨w.heap.size + 1 + 1, j, none⟩ = (#[v0, v1, v2, v3] : Array Value)[j]? ∧ W.frozen? ⟨w.heap.size + 1 + 1, j, none⟩ = false ∧ W.cell? ⟨w.heap.size, j, none⟩ = (#[.slice a n c, .int .i64 x.ser, .int .i64 x.tm, .int .i64 x.rs] : Array Value)[j]? :=
  ⟨cell_of_row _ _ j _ 151 (0, 0) h.b2, frozen_of_row W _ j _ 151 h.b2, cell_of_row _ _ j _ 149 (0, 0) h.b0⟩
theorem TG.all {w W : World} {a : Option Addr} {n c : Nat} {x : GP} {g1 : Nat} {v0 v1 v2 v3 : Value} (h : TG w W a n c x g1 v0 v1 v2 v3) : (W.cell? ⟨w.heap.size + 1 + 1, 0, none⟩ = some v0 ∧ W.cell? ⟨w.heap.size + 1 + 1, 1, none⟩ = some v1 ∧ W.cell? ⟨w.heap.size + 1 + 1, 2, none⟩ = some v2 ∧ W.cell? ⟨w.heap.size + 1 + 1, 3, none⟩ = some v3) ∧ (W.cell? ⟨w.heap.size + 1, 0, none⟩ = some (.slice none 0 0) ∧ W.cell? ⟨w.heap.size + 1, 1, none⟩ = some (.int .i64 0) ∧ W.cell? ⟨w.heap.size + 1, 2, none⟩ = some (.int .i64 0) ∧ W.cell? ⟨w.heap.size + 1, 3, none⟩ = some (.int .i64 0)) ∧ W.frozen? ⟨w.heap.size + 1, 0, none⟩ = false ∧ W.frozen? ⟨w.heap.size + 1, 1, none⟩ = false ∧ W.frozen? ⟨w.heap.size + 1, 2, none⟩ = false ∧ W.frozen? ⟨w.heap.size + 1, 3, none⟩ = false :=
  ⟨⟨(h.out 0).1, (h.out 1).1, (h.out 2).1, (h.out 3).1⟩, ⟨(cell_of_row _ _ 0 _ 151 (0, 0) h.b1).trans rfl, (cell_of_row _ _ 1 _ 151 (0, 0) h.b1).trans rfl, (cell_of_row _ _ 2 _ 151 (0, 0) h.b1).trans rfl, (cell_of_row _ _ 3 _ 151 (0, 0) h.b1).trans rfl⟩, frozen_of_row W _ 0 _ 151 h.b1, frozen_of_row W _ 1 _ 151 h.b1, frozen_of_row W _ 2 _ 151 h.b1, frozen_of_row W _ 3 _ 151 h.b1⟩

set_option maxRecDepth 10000 in
set_option maxHeartbeats 2000000 in
theorem toGone_at (a : Option Addr) (n c : Nat) (x : GP) (w : World) (h : Pts w a n x.parts) (hn : n ≤ 1048576) :
    Calls Tryz.prog 117 #[gov a n c x] w fun e w' => ∃ g', e = .returned (gov (some ⟨g', 0, none⟩) n n x) ∧ w.heap.size ≤ g' ∧ Pts w' (some ⟨g', 0, none⟩) n x.parts ∧ Below w.heap.size w w' := by
  have HK : Hid (Pts w a n x.parts) := h
  clear h
  unfold gov
  obtain ⟨W0, hW0⟩ : ∃ W0, W0 = (((w.alloc (.cells #[.slice a n c, .int .i64 x.ser, .int .i64 x.tm, .int .i64 x.rs] 149)).alloc (.cells #[.slice none 0 0, .int .i64 0, .int .i64 0, .int .i64 0] 151)).alloc (.cells #[.slice none 0 0, .int .i64 0, .int .i64 0, .int .i64 0] 151)) := ⟨_, rfl⟩
  have hB0 : Below w.heap.size w W0 := by rw [hW0]; exact three_below _ _ _ _
  have hS0 : W0.heap.size = w.heap.size + 3 := by rw [hW0]; simp
  obtain ⟨b0, b1, b2⟩ := three_blocks' w (.cells #[.slice a n c, .int .i64 x.ser, .int .i64 x.tm, .int .i64 x.rs] 149) (.cells #[.slice none 0 0, .int .i64 0, .int .i64 0, .int .i64 0] 151) (.cells #[.slice none 0 0, .int .i64 0, .int .i64 0, .int .i64 0] 151)
  rw [← hW0] at b0 b1 b2
  go_enter Tryz.func117, Tryz.ntmps117
  go_wp2_with fail
  rw [← hW0]
  clear hW0
  refine (toName_at a n c x.parts _ (HK.out.kept hB0) hn).mono ?_
  rintro e w1 ⟨g1, rfl, hg1, ho1, hb1⟩
  have hs1 := hb1.size
  have T1 : Hid (TG w w1 a n c x g1 (.slice none 0 0) (.int .i64 0) (.int .i64 0) (.int .i64 0)) := ⟨heap_kept' hb1 (by omega) b0, heap_kept' hb1 (by omega) b1, heap_kept' hb1 (by omega) b2, ho1, hB0.trans (hb1.mono (by omega)), by omega, by omega⟩
  clear b0 b1 b2 ho1 hb1 hB0 hg1 hs1 hS0 HK
  unfold nmv
  obtain ⟨o0, f0, a0⟩ := T1.out.out 0
  have o0 : w1.cell? ⟨w.heap.size + 1 + 1, 0, none⟩ = some (.slice none 0 0) := o0
  have a0 : w1.cell? ⟨w.heap.size, 0, none⟩ = some (.slice a n c) := a0
  have hl0 := T1.out.lt
  obtain ⟨w2, hw2⟩ : ∃ w2, w2 = w1.setCell ⟨w.heap.size + 1 + 1, 0, none⟩ (.slice (some ⟨g1, 0, none⟩) n n) := ⟨_, rfl⟩
  have T2 : Hid (TG w w2 a n c x g1 (.slice (some ⟨g1, 0, none⟩) n n) (.int .i64 0) (.int .i64 0) (.int .i64 0)) := by rw [hw2]; exact T1.out.set 0 _ rfl
  have HW2 : Hid (_ = _) := hw2
  clear hw2
  go_upto_region 3 with fail
  rw [← HW2.out]
  clear HW2 o0 f0 a0 hl0 T1
  obtain ⟨o1, f1, a1⟩ := T2.out.out 1
  have o1 : w2.cell? ⟨w.heap.size + 1 + 1, 1, none⟩ = some (.int .i64 0) := o1
  have a1 : w2.cell? ⟨w.heap.size, 1, none⟩ = some (.int .i64 x.ser) := a1
  have hl1 := T2.out.lt
  obtain ⟨w3, hw3⟩ : ∃ w3, w3 = w2.setCell ⟨w.heap.size + 1 + 1, 1, none⟩ (.int .i64 x.ser) := ⟨_, rfl⟩
  have T3 : Hid (TG w w3 a n c x g1 (.slice (some ⟨g1, 0, none⟩) n n) (.int .i64 x.ser) (.int .i64 0) (.int .i64 0)) := by rw [hw3]; exact T2.out.set 1 _ rfl
  have HW3 : Hid (_ = _) := hw3
  clear hw3
  go_upto_region 4 with fail
  rw [← HW3.out]
  clear HW3 o1 f1 a1 hl1 T2
  obtain ⟨o2, f2, a2⟩ := T3.out.out 2
  have o2 : w3.cell? ⟨w.heap.size + 1 + 1, 2, none⟩ = some (.int .i64 0) := o2
  have a2 : w3.cell? ⟨w.heap.size, 2, none⟩ = some (.int .i64 x.tm) := a2
  have hl2 := T3.out.lt
  obtain ⟨w4, hw4⟩ : ∃ w4, w4 = w3.setCell ⟨w.heap.size + 1 + 1, 2, none⟩ (.int .i64 x.tm) := ⟨_, rfl⟩
  have T4 : Hid (TG w w4 a n c x g1 (.slice (some ⟨g1, 0, none⟩) n n) (.int .i64 x.ser) (.int .i64 x.tm) (.int .i64 0)) := by rw [hw4]; exact T3.out.set 2 _ rfl
  have HW4 : Hid (_ = _) := hw4
  clear hw4
  go_upto_region 5 with fail
  rw [← HW4.out]
  clear HW4 o2 f2 a2 hl2 T3
  obtain ⟨o3, f3, a3⟩ := T4.out.out 3
  have o3 : w4.cell? ⟨w.heap.size + 1 + 1, 3, none⟩ = some (.int .i64 0) := o3
  have a3 : w4.cell? ⟨w.heap.size, 3, none⟩ = some (.int .i64 x.rs) := a3
  have hl3 := T4.out.lt
  obtain ⟨w5, hw5⟩ : ∃ w5, w5 = w4.setCell ⟨w.heap.size + 1 + 1, 3, none⟩ (.int .i64 x.rs) := ⟨_, rfl⟩
  have T5 : Hid (TG w w5 a n c x g1 (.slice (some ⟨g1, 0, none⟩) n n) (.int .i64 x.ser) (.int .i64 x.tm) (.int .i64 x.rs)) := by rw [hw5]; exact T4.out.set 3 _ rfl
  have HW5 : Hid (_ = _) := hw5
  clear hw5
  go_upto_region 6 with fail
  rw [← HW5.out]
  clear HW5 o3 f3 a3 hl3 T4
  obtain ⟨⟨o0, o1, o2, o3⟩, ⟨r0, r1, r2, r3⟩, f0, f1, f2, f3⟩ := T5.out.all
  have hl5 := T5.out.lt
  go_wp2
  try simp only [Exit.inBlock, Exit.then]
  have hgg := T5.out.g3
  have q1 := put4_row T5.out.b1 (.slice (some ⟨g1, 0, none⟩) n n) (.int .i64 x.ser) (.int .i64 x.tm) (.int .i64 x.rs)
  refine bodyPost_ret (results_go rfl _ (w.heap.size + 1) rfl _ _ _ _ _ q1) rfl ⟨_, rfl, by omega, T5.out.pts.same (put4_other _ _ _ _ (by omega) _ _ _ _) (by simp), ?_⟩
  exact ⟨T5.out.below.os, T5.out.below.tape, T5.out.below.output, by simpa [World.setCell] using T5.out.below.size, fun l hl => (put4_other _ _ _ _ (by omega) _ _ _ _).trans (T5.out.below.block l hl)⟩

end Go.Proofs.YtoldngiclmidaaaGreatDoor

namespace Go.Proofs.YtoldngiclmidaaaGreatDoor
open Go.RowKit

theorem Tryz.infoGone : (Tryz.prog.info? 151).map (fun i => (i.zero, i.size, i.bytes)) = some (some (.agg #[.slice none 0 0, .int .i64 0, .int .i64 0, .int .i64 0]), 4, 48) := by kernel_rfl

/-- The first k entries lie in the row g, their names behind it. -/
def GoPre (w : World) (g k : Nat) (xs : List GP) : Prop := ∀ j, j < k → ∃ gn nn, g < gn ∧ Cells4 w g (j * 4) (some ⟨gn, 0, none⟩) nn nn (xs.getD j default) ∧ Pts w (some ⟨gn, 0, none⟩) nn (xs.getD j default).parts
theorem GoPre.kept {w w' : World} {g k : Nat} {xs : List GP} (h : GoPre w g k xs) (hg : g < w.heap.size) (hb : Below w.heap.size w w') : GoPre w' g k xs := fun j hj => by
  obtain ⟨gn, nn, h1, h3, h4⟩ := h j hj
  exact ⟨gn, nn, h1, h3.of (fun i => hb.cell (p := ⟨g, i, none⟩) hg), h4.kept hb⟩

structure Put4 (B : Nat) (w w' : World) (g n cap i : Nat) (an : Option Addr) (nn cn : Nat) (x : GP) : Prop where
  own : ∃ vs, w'.ownsRow B 151 4 (.slice (some ⟨g, 0, none⟩) n cap) n vs
  other : ∀ l, l ≠ g → w'.heap[l]? = w.heap[l]?
  size : w'.heap.size = w.heap.size
  old : ∀ j, j < n * 4 → j < i * 4 ∨ i * 4 + 4 ≤ j → w'.cell? ⟨g, j, none⟩ = w.cell? ⟨g, j, none⟩
  cells : Cells4 w' g (i * 4) an nn cn x
theorem put4_is {B : Nat} {w : World} {g n cap : Nat} {vs : List Value} (h : w.ownsRow B 151 4 (.slice (some ⟨g, 0, none⟩) n cap) n vs) (i : Nat) (hi : i < n) (an : Option Addr) (nn cn : Nat) (x : GP) : Put4 B w (put4 w g (i * 4) (.slice an nn cn) (.int .i64 x.ser) (.int .i64 x.tm) (.int .i64 x.rs)) g n cap i an nn cn x := by
  have h1 := ((((h.stored (i * 4) (.slice an nn cn)).1.stored (i * 4 + 1) (.int .i64 x.ser)).1.stored (i * 4 + 2) (.int .i64 x.tm)).1.stored (i * 4 + 3) (.int .i64 x.rs)).1
  have hl : vs.length = n * 4 := h.1
  have cc := fun j (hj : j < n * 4) => h1.cellAt j hj
  refine ⟨⟨_, h1⟩, fun l hl => put4_other _ _ _ _ hl _ _ _ _, put4_size _ _ _ _ _ _ _, fun j hj ho => ?_, ⟨?_, ?_, ?_, ?_⟩⟩
  · refine (cc j hj).trans ?_
    rw [h.cellAt j hj]
    rw [List.getElem?_set_ne (by omega), List.getElem?_set_ne (by omega), List.getElem?_set_ne (by omega), List.getElem?_set_ne (by omega)]
  · refine (cc _ (by omega)).trans ?_
    rw [List.getElem?_set_ne (by omega), List.getElem?_set_ne (by omega), List.getElem?_set_ne (by omega), List.getElem?_set_self (by omega)]
  · refine (cc _ (by omega)).trans ?_
    rw [List.getElem?_set_ne (by omega), List.getElem?_set_ne (by omega), List.getElem?_set_self (by simp; omega)]
  · refine (cc _ (by omega)).trans ?_
    rw [List.getElem?_set_ne (by omega), List.getElem?_set_self (by simp; omega)]
  · refine (cc _ (by omega)).trans ?_
    rw [List.getElem?_set_self (by simp; omega)]

set_option maxRecDepth 10000 in
set_option maxHeartbeats 4000000 in
theorem toGoneS_at (a : Option Addr) (n cap : Nat) (xs : List GP) (w : World) (h : Gns w a n xs) (hn : n ≤ 1048576) (hz : ∀ k, k < n → GpOk (xs.getD k default)) :
    Calls Tryz.prog 98 #[.slice a n cap] w fun e w' => e = .returned (.slice (some ⟨w.heap.size, 0, none⟩) n n) ∧ GoPre w' w.heap.size n xs ∧ w.heap.size < w'.heap.size ∧ Below w.heap.size w w' := by
  obtain ⟨i0, hi, hz0, hz1, hz2⟩ := info_parts Tryz.infoGone
  have HK : Hid (Gns w a n xs) := h
  have HZ : Hid (∀ k, k < n → GpOk (xs.getD k default)) := hz
  have hlen : Hid (xs.length = n) := h.len
  clear h hz
  go_enter Tryz.func98, Tryz.ntmps98
  go_wp2_with (first | (at_make; refine wpList_make_full _ rfl _ _ 106 rfl w.heap.size 151 i0 _ 4 Tryz.underlying106 hi hz0 hz1 _ _ _ _ n rfl rfl rfl rfl (by rw [hz2]; omega) (by unfold maxLen; omega) (by exact Nat.le_refl _) ?_; intro w1 hown hgrow))
  have hbl : Below w.heap.size w w1 := (Below.refl _ _).grown hgrow (Nat.le_refl _) (by simp)
  clear hgrow hi hz0 hz1 hz2
  go_loopw [4] (fun i wr => ∃ k : Nat, k ≤ n ∧ i = .int .i64 k ∧ Hid (∃ vs, wr.ownsRow w.heap.size 151 4 (.slice (some ⟨w.heap.size, 0, none⟩) n n) n vs) ∧ Hid (GoPre wr w.heap.size k xs) ∧ Below w.heap.size w wr) (fun i _ => n - (intOf i).toNat)
  case atStart => exact ⟨0, Nat.zero_le _, rfl, ⟨_, hown⟩, fun j hj => absurd hj (Nat.not_lt_zero _), hbl⟩
  case round =>
    obtain ⟨k, hk, rfl, HOR, HPRE, hbr⟩ := hrel
    obtain ⟨vs, hor⟩ := HOR.out
    have hgl := (hor.lt _ rfl).2
    have HOV : Hid (_) := hor
    clear HOR hor hown hbl
    by_cases hkn : k < n
    · obtain ⟨b, off, an, nn, cn, rfl, hlb, hc, hp⟩ := HK.out.get k hkn
      have hgp := HZ.out k hkn
      obtain ⟨y, hy⟩ : ∃ y, y = xs.getD k default := ⟨_, rfl⟩
      rw [← hy] at hc hp hgp
      have HY : Hid (y = xs.getD k default) := hy
      have hnn : nn ≤ 1048576 := by rw [← hp.len]; exact hgp.1
      obtain ⟨c0, c1, c2, c3⟩ := hc.of (w' := wr) (fun i => hbr.cell (p := ⟨b, i, none⟩) hlb)
      have HP : Hid (Pts wr an nn y.parts) := hp.kept hbr
      have hkni : (k : Int) < (n : Int) := by omega
      have hs := hbr.size
      clear hc hy hp hgp
      go_wp2_with fail
      refine (toGone_at an nn cn y _ HP.out hnn).mono ?_
      rintro e w2 ⟨g2, rfl, hg2, hp2, hb2⟩
      have hor2 : w2.ownsRow w.heap.size 151 4 (.slice (some ⟨w.heap.size, 0, none⟩) n n) n vs := ownsRow_below HOV.out hb2
      have hs2 := hb2.size
      have fr : ∀ j, w2.frozen? ⟨w.heap.size, j, none⟩ = false := fun j => hor2.frozenAt j
      have hvl : vs.length = n * 4 := hor2.1
      have cx : ∀ j, j < n * 4 → ∃ z, w2.cell? ⟨w.heap.size, j, none⟩ = some z := fun j hj => ⟨_, (hor2.cellAt j hj).trans (List.getElem?_eq_getElem (by omega))⟩
      obtain ⟨z0, x0⟩ := cx (k * 4) (by omega)
      obtain ⟨z1, x1⟩ := cx (k * 4 + 1) (by omega)
      obtain ⟨z2, x2⟩ := cx (k * 4 + 2) (by omega)
      obtain ⟨z3, x3⟩ := cx (k * 4 + 3) (by omega)
      have f0 := fr (k * 4)
      have f1 := fr (k * 4 + 1)
      have f2 := fr (k * 4 + 2)
      have f3 := fr (k * 4 + 3)
      have hS := put4_is hor2 k hkn (some ⟨g2, 0, none⟩) nn nn y
      have hP : GoPre (put4 w2 w.heap.size (k * 4) (.slice (some ⟨g2, 0, none⟩) nn nn) (.int .i64 y.ser) (.int .i64 y.tm) (.int .i64 y.rs)) w.heap.size (k + 1) xs := by
        intro j hj
        by_cases hjk : j = k
        · subst hjk
          rw [← HY.out]
          exact ⟨g2, nn, by omega, hS.cells, hp2.same (hS.other _ (by omega)) (Nat.le_of_eq hS.size.symm)⟩
        · obtain ⟨gn, mm, q1, q2, q3⟩ := (HPRE.out.kept hgl hb2) j (by omega)
          have hx := hS.old
          exact ⟨gn, mm, q1, ⟨(hx _ (by omega) (by omega)).trans q2.c0, (hx _ (by omega) (by omega)).trans q2.c1, (hx _ (by omega) (by omega)).trans q2.c2, (hx _ (by omega) (by omega)).trans q2.c3⟩, q3.same (hS.other _ (by omega)) (Nat.le_of_eq hS.size.symm)⟩
      have hB2 := hbr.trans (hb2.mono hs)
      have hB4 : Below w.heap.size w (put4 w2 w.heap.size (k * 4) (.slice (some ⟨g2, 0, none⟩) nn nn) (.int .i64 y.ser) (.int .i64 y.tm) (.int .i64 y.rs)) := ⟨hB2.os, hB2.tape, hB2.output, by rw [hS.size]; exact hB2.size, fun l hl => (hS.other l (by omega)).trans (hB2.block l hl)⟩
      have FIN : Hid (_ ∧ _ ∧ _) := ⟨hS.own, hP, hB4⟩
      have hgl2 : w.heap.size < w2.heap.size := by omega
      clear fr cx hS hP hB4 hB2 hor2 hp2 hb2 hvl HPRE HOV HP HK
      unfold gov
      go_wp2
      go_roundw
      case rel => exact ⟨k + 1, by omega, by go_num, FIN.out.1, FIN.out.2.1, FIN.out.2.2⟩
      case measure => simp [intOf]; omega
    · obtain rfl : n = k := by omega
      clear HOV
      go_wp2
      go_ret
      exact ⟨rfl, HPRE.out, hgl, hbr⟩
theorem GoPre.gns {w : World} {g n : Nat} {xs : List GP} (h : GoPre w g n xs) (hl : xs.length = n) (hn : n ≤ 9223372036854775807) (hg : g < w.heap.size) : Gns w (some ⟨g, 0, none⟩) n xs := by
  refine ⟨hl, hn, fun k hk => ?_⟩
  obtain ⟨gn, nn, h1, h3, h4⟩ := h k hk
  exact ⟨g, 0, _, _, _, rfl, hg, by rw [Nat.zero_add]; exact h3, h4⟩

end Go.Proofs.YtoldngiclmidaaaGreatDoor

namespace Go.Proofs.YtoldngiclmidaaaGreatDoor
open Go.RowKit

set_option maxRecDepth 10000 in
set_option maxHeartbeats 4000000 in
theorem eqGoneS_same (a b : Option Addr) (n ca cb : Nat) (xs : List GP) (w : World) (h : Gns w a n xs) (h2 : Gns w b n xs) :
    Calls Tryz.prog 100 #[.slice a n ca, .slice b n cb] w fun e w' => e = .returned (.bool true) ∧ Below w.heap.size w w' := by
  have HK : Hid (Gns w a n xs) := h
  have HK2 : Hid (Gns w b n xs) := h2
  have hn := h.max
  clear h h2
  go_enter Tryz.func100, Tryz.ntmps100
  go_wp2
  go_loopw [5] (fun i wr => ∃ k : Nat, k ≤ n ∧ i = .int .i64 k ∧ Below w.heap.size w wr) (fun i _ => n - (intOf i).toNat)
  case atStart => exact ⟨0, Nat.zero_le _, rfl, Below.refl _ _⟩
  case round =>
    obtain ⟨k, hk, rfl, hbr⟩ := hrel
    by_cases hkn : k < n
    · obtain ⟨b1, off1, an, nn, cn, rfl, hl1, hc1, hp1⟩ := HK.out.get k hkn
      obtain ⟨b2, off2, am, mm, cm, rfl, hl2, hc2, hp2⟩ := HK2.out.get k hkn
      obtain ⟨y, hy⟩ : ∃ y, y = xs.getD k default := ⟨_, rfl⟩
      rw [← hy] at hc1 hc2 hp1 hp2
      clear hy
      obtain rfl : mm = nn := by rw [← hp2.len, ← hp1.len]
      obtain ⟨c0, c1, c2, c3⟩ := hc1.of (w' := wr) (fun i => hbr.cell (p := ⟨b1, i, none⟩) hl1)
      obtain ⟨d0, d1, d2, d3⟩ := hc2.of (w' := wr) (fun i => hbr.cell (p := ⟨b2, i, none⟩) hl2)
      have HP1 : Hid (Pts wr.drew an mm y.parts) := hp1.kept hbr.drew
      have HP2 : Hid (Pts wr.drew am mm y.parts) := hp2.kept hbr.drew
      have hkni : (k : Int) < (n : Int) := by omega
      have hs := hbr.size
      clear hc1 hc2 hp1 hp2
      go_wp2_with fail
      go_region_with (go_at_call 118; refine (eqGone_same an am mm cn cm y _ HP1.out HP2.out).mono ?_; rintro e w2 ⟨rfl, hb2⟩)
      all_goals
        have b5 : Below w.heap.size w w2 := hbr.drew.trans (hb2.mono hs)
        go_wp2
        go_roundw
        case rel => exact ⟨k + 1, by omega, by go_num, b5⟩
        case measure => simp [intOf]; omega
    · go_wp2
      go_ret
      exact ⟨rfl, hbr⟩

/-- A list: what it holds. -/
structure CP where
  parts : List PT
  num : Int
  base : Int
  tm : Int
  next : Int
  scope : Int
  ind : Bool
  ents : List GP
  sig : List Int
def crv (a1 : Option Addr) (n1 c1 : Nat) (a2 : Option Addr) (n2 c2 : Nat) (a3 : Option Addr) (n3 c3 : Nat) (x : CP) : Value := .agg #[.slice a1 n1 c1, .int .i64 x.num, .int .i64 x.base, .int .i64 x.tm, .int .i64 x.next, .int .i64 x.scope, .bool x.ind, .slice a2 n2 c2, .slice a3 n3 c3]
/-- Its three slices are there. -/
structure Crs (w : World) (a1 : Option Addr) (n1 : Nat) (a2 : Option Addr) (n2 : Nat) (a3 : Option Addr) (n3 : Nat) (x : CP) : Prop where
  nm : Pts w a1 n1 x.parts
  en : Gns w a2 n2 x.ents
  sg : Row w a3 n3 x.sig
  mx : n3 ≤ 9223372036854775807
theorem Crs.kept {w w' : World} {a1 : Option Addr} {n1 : Nat} {a2 : Option Addr} {n2 : Nat} {a3 : Option Addr} {n3 : Nat} {x : CP} (h : Crs w a1 n1 a2 n2 a3 n3 x) (hb : Below w.heap.size w w') : Crs w' a1 n1 a2 n2 a3 n3 x := ⟨h.nm.kept hb, h.en.kept hb, h.sg.kept hb, h.mx⟩
def CpOk (n1 n2 n3 : Nat) (x : CP) : Prop := n1 ≤ 1048576 ∧ (∀ k, k < n1 → (x.parts.getD k default).val.size ≤ 1048576) ∧ n2 ≤ 1048576 ∧ (∀ k, k < n2 → GpOk (x.ents.getD k default)) ∧ n3 ≤ 1048576

set_option maxHeartbeats 400000 in
theorem szByteS_k (a : Option Addr) (n cap : Nat) (l : Int) (w : World) (hl0 : 0 ≤ l) (hl : l ≤ 1048576) (hn : n ≤ 9223372036854775807) :
    Calls Tryz.prog 93 #[.slice a n cap, .int .i64 l] w fun e w' => ∃ r, e = .returned (.int .i64 r) ∧ (r < 0 ∨ (0 ≤ r ∧ r ≤ 1048576 ∧ n ≤ 1048576)) ∧ w = w' := by
  by_cases hlt : (n : Int) ≤ l
  · go_enter Tryz.func93, Tryz.ntmps93
    go_wp2
    go_ret
    exact ⟨_, rfl, .inr (by omega), rfl⟩
  · go_enter Tryz.func93, Tryz.ntmps93
    go_wp2
    go_ret
    exact ⟨_, rfl, .inl (by decide), rfl⟩

set_option maxRecDepth 10000 in
set_option maxHeartbeats 2000000 in
theorem szCrl_any (a1 : Option Addr) (n1 c1 : Nat) (a2 : Option Addr) (n2 c2 : Nat) (a3 : Option Addr) (n3 c3 : Nat) (x : CP) (lf : Int) (w : World) (h : Crs w a1 n1 a2 n2 a3 n3 x) (hl0 : 0 ≤ lf) (hl1 : lf ≤ 1048576) :
    Calls Tryz.prog 60 #[crv a1 n1 c1 a2 n2 c2 a3 n3 c3 x, .int .i64 lf] w fun e w' => ∃ r, e = .returned (.int .i64 r) ∧ (r < 0 ∨ (0 ≤ r ∧ r ≤ 1048576 ∧ CpOk n1 n2 n3 x)) ∧ Below w.heap.size w w' := by
  unfold crv
  have HK : Hid (Crs w a1 n1 a2 n2 a3 n3 x) := h
  clear h
  obtain ⟨w0, hw0⟩ : ∃ w0, w0 = w.alloc (.cells #[.slice a1 n1 c1, .int .i64 x.num, .int .i64 x.base, .int .i64 x.tm, .int .i64 x.next, .int .i64 x.scope, .bool x.ind, .slice a2 n2 c2, .slice a3 n3 c3] 103) := ⟨_, rfl⟩
  have hb0 : Below w.heap.size w w0 := by rw [hw0]; exact (Below.refl _ _).alloc (Nat.le_refl _) _
  have hh0 : w0.heap[w.heap.size]? = some (.cells #[.slice a1 n1 c1, .int .i64 x.num, .int .i64 x.base, .int .i64 x.tm, .int .i64 x.next, .int .i64 x.scope, .bool x.ind, .slice a2 n2 c2, .slice a3 n3 c3] 103) := by rw [hw0]; exact heap_alloc_new w _
  have hl0' : w.heap.size < w0.heap.size := (Array.getElem?_eq_some_iff.1 hh0).1
  go_enter Tryz.func60, Tryz.ntmps60
  go_wp2_with fail
  rw [← hw0]
  clear hw0
  refine (szName_any a1 n1 c1 x.parts lf _ (HK.out.kept hb0).nm hl0 hl1).mono ?_
  rintro e w1 ⟨r1, rfl, hr1, hb1⟩
  have B1 : Below w.heap.size w w1 := hb0.trans (hb1.mono hb0.size)
  have hh1 := (hb1.block _ hl0').trans hh0
  have c7 : w1.cell? ⟨w.heap.size, 7, none⟩ = some (.slice a2 n2 c2) := (cell_of_row _ _ 7 _ 103 (0, 0) hh1).trans rfl
  by_cases hneg : r1 < 0
  · clear hr1 hh1 hh0 hb0 hb1
    go_wp2
    go_ret
    exact ⟨_, rfl, .inl (by decide), B1⟩
  · have hr1' : 0 ≤ r1 ∧ r1 ≤ 1048576 := by omega
    have HR1 : Hid (n1 ≤ 1048576 ∧ ∀ k, k < n1 → (x.parts.getD k default).val.size ≤ 1048576) := by rcases hr1 with h | h; exact absurd h hneg; exact h.2.2
    have hl1' : w.heap.size < w1.heap.size := (Array.getElem?_eq_some_iff.1 hh1).1
    have HH1 : Hid (_ = _) := hh1
    have HB1 : Hid (Below w.heap.size w w1) := B1
    clear hr1 hh0 hb0 hb1 hh1 B1
    go_wp2_with fail
    refine (szGoneS_any a2 n2 c2 x.ents r1 _ (HK.out.kept HB1.out).en hr1'.1 hr1'.2).mono ?_
    rintro e w2 ⟨r2, rfl, hr2, hb2⟩
    have B2 : Below w.heap.size w w2 := HB1.out.trans (hb2.mono HB1.out.size)
    have hh2 := (hb2.block _ hl1').trans HH1.out
    have c8 : w2.cell? ⟨w.heap.size, 8, none⟩ = some (.slice a3 n3 c3) := (cell_of_row _ _ 8 _ 103 (0, 0) hh2).trans rfl
    by_cases hneg2 : r2 < 0
    · clear hr2 hh2 hb2
      go_wp2
      go_ret
      exact ⟨_, rfl, .inl (by decide), B2⟩
    · have hr2' : 0 ≤ r2 ∧ r2 ≤ 1048576 := by omega
      have HR2 : Hid (n2 ≤ 1048576 ∧ ∀ k, k < n2 → GpOk (x.ents.getD k default)) := by rcases hr2 with h | h; exact absurd h hneg2; exact h.2.2
      have HB2 : Hid (Below w.heap.size w w2) := B2
      clear hr2 hh2 hb2 B2
      go_wp2_with fail
      refine (szByteS_k a3 n3 c3 r2 _ hr2'.1 hr2'.2 HK.out.mx).mono ?_
      rintro e w3 ⟨r3, rfl, hr3, rfl⟩
      by_cases hneg3 : r3 < 0
      · clear hr3
        go_wp2
        go_ret
        exact ⟨_, rfl, .inl (by decide), HB2.out⟩
      · have hr3' : 0 ≤ r3 ∧ r3 ≤ 1048576 := by omega
        have hn3 : n3 ≤ 1048576 := by omega
        clear hr3
        go_wp2
        go_ret
        exact ⟨_, rfl, .inr ⟨hr3'.1, hr3'.2, HR1.out.1, HR1.out.2, HR2.out.1, HR2.out.2, hn3⟩, HB2.out⟩

end Go.Proofs.YtoldngiclmidaaaGreatDoor

namespace Go.Proofs.YtoldngiclmidaaaGreatDoor
open Go.RowKit

theorem results_cr {fn : Func} {t : Tmp} (h : fn.results = #[.cell t 108]) (tmps : Array Value) (g : Nat) (ht : tmps.getD t undef = .pointer (some ⟨g, 0, none⟩)) (w : World) (c0 c1 c2 c3 c4 c5 c6 c7 c8 : Value)
    (hb : w.heap[g]? = some (.cells #[c0, c1, c2, c3, c4, c5, c6, c7, c8] 108 (0, 0))) : (results fn tmps).run Tryz.prog w = .ok (.agg #[c0, c1, c2, c3, c4, c5, c6, c7, c8]) w := by
  have d0 : w.cell? ⟨g, 0, none⟩ = some c0 := (cell_of_row _ g 0 _ 108 (0, 0) hb).trans rfl
  have d1 : w.cell? ⟨g, 1, none⟩ = some c1 := (cell_of_row _ g 1 _ 108 (0, 0) hb).trans rfl
  have d2 : w.cell? ⟨g, 2, none⟩ = some c2 := (cell_of_row _ g 2 _ 108 (0, 0) hb).trans rfl
  have d3 : w.cell? ⟨g, 3, none⟩ = some c3 := (cell_of_row _ g 3 _ 108 (0, 0) hb).trans rfl
  have d4 : w.cell? ⟨g, 4, none⟩ = some c4 := (cell_of_row _ g 4 _ 108 (0, 0) hb).trans rfl
  have d5 : w.cell? ⟨g, 5, none⟩ = some c5 := (cell_of_row _ g 5 _ 108 (0, 0) hb).trans rfl
  have d6 : w.cell? ⟨g, 6, none⟩ = some c6 := (cell_of_row _ g 6 _ 108 (0, 0) hb).trans rfl
  have d7 : w.cell? ⟨g, 7, none⟩ = some c7 := (cell_of_row _ g 7 _ 108 (0, 0) hb).trans rfl
  have d8 : w.cell? ⟨g, 8, none⟩ = some c8 := (cell_of_row _ g 8 _ 108 (0, 0) hb).trans rfl
  clear hb
  have ht' : tmps[t]?.getD undef = .pointer (some ⟨g, 0, none⟩) := by rw [← ht]; simp
  simp [results, h, go_sem, ht', d0, d1, d2, d3, d4, d5, d6, d7, d8]

/-- What hangs on the blocks from B on alone. -/
def Stab (B : Nat) (R : World → Prop) : Prop := ∀ W W' : World, (∀ l, B ≤ l → l < W.heap.size → W'.heap[l]? = W.heap[l]?) → W.heap.size ≤ W'.heap.size → R W → R W'
theorem stab_and {B : Nat} {R Q : World → Prop} (h : Stab B R) (k : Stab B Q) : Stab B (fun W => R W ∧ Q W) := fun W W' e s r => ⟨h W W' e s r.1, k W W' e s r.2⟩
theorem stab_lt (B g : Nat) : Stab B (fun W => g < W.heap.size) := fun _ _ _ s h => Nat.lt_of_lt_of_le h s
theorem pts_move {B g n : Nat} {xs : List PT} (hB : B ≤ g) (W W' : World) (e : ∀ l, B ≤ l → l < W.heap.size → W'.heap[l]? = W.heap[l]?) (s : W.heap.size ≤ W'.heap.size) (h : Pts W (some ⟨g, 0, none⟩) n xs) : Pts W' (some ⟨g, 0, none⟩) n xs := by
  refine ⟨h.len, h.max, fun k hk => ?_⟩
  obtain ⟨b, off, ha, hlt, hc, hn⟩ := h.get k hk
  simp only [Option.some.injEq, Addr.mk.injEq, and_true] at ha
  obtain ⟨rfl, rfl⟩ := ha
  exact ⟨g, 0, rfl, Nat.lt_of_lt_of_le hlt s, hc.of (fun i => by simp [World.cell?, e g hB hlt]), hn⟩
theorem stab_pts {B g n : Nat} {xs : List PT} (hB : B ≤ g) : Stab B (fun W => Pts W (some ⟨g, 0, none⟩) n xs) := fun W W' e s h => pts_move hB W W' e s h
theorem stab_go {B g n : Nat} {xs : List GP} (hB : B ≤ g) : Stab B (fun W => GoPre W g n xs) := fun W W' e s h j hj => by
  obtain ⟨gn, nn, h1, h3, h4⟩ := h j hj
  have hlt : g < W.heap.size := World.block_lt_of_cell? W _ h3.c0
  exact ⟨gn, nn, h1, h3.of (fun i => by simp [World.cell?, e g hB hlt]), pts_move (by omega) W W' e s h4⟩
theorem stab_own {B B' : Nat} {a : Option Addr} {n cap : Nat} {bs : List Int} (hB : B ≤ B') : Stab B (fun W => Own B' W a n cap bs) := fun W W' e s h => by
  refine ⟨⟨h.row.1, ?_⟩, h.byte⟩
  rcases h.row.2 with q | ⟨g, c, cur, h1, hb, hg, r⟩
  · exact .inl q
  · exact .inr ⟨g, c, cur, h1, hb, (e g (by omega) (Array.getElem?_eq_some_iff.1 hg).1).trans hg, r⟩

/-- A list as it is copied. -/
structure TC (w W : World) (a1 : Option Addr) (n1 c1 : Nat) (a2 : Option Addr) (n2 c2 : Nat) (a3 : Option Addr) (n3 c3 : Nat) (x : CP) (R : World → Prop) (vs : Array Value) : Prop where
  b0 : W.heap[w.heap.size]? = some (.cells #[.slice a1 n1 c1, .int .i64 x.num, .int .i64 x.base, .int .i64 x.tm, .int .i64 x.next, .int .i64 x.scope, .bool x.ind, .slice a2 n2 c2, .slice a3 n3 c3] 103 (0, 0))
  b1 : W.heap[w.heap.size + 1]? = some (.cells #[.slice none 0 0, .int .i64 0, .int .i64 0, .int .i64 0, .int .i64 0, .int .i64 0, .bool false, .slice none 0 0, .slice none 0 0] 108 (0, 0))
  b2 : W.heap[w.heap.size + 1 + 1]? = some (.cells vs 108 (0, 0))
  st : Stab (w.heap.size + 3) R
  r : R W
  below : Below w.heap.size w W
  lt : w.heap.size + 3 ≤ W.heap.size
theorem TC.set {w W : World} {a1 : Option Addr} {n1 c1 : Nat} {a2 : Option Addr} {n2 c2 : Nat} {a3 : Option Addr} {n3 c3 : Nat} {x : CP} {R : World → Prop} {vs : Array Value} (h : TC w W a1 n1 c1 a2 n2 c2 a3 n3 c3 x R vs) {us : Array Value} (j : Nat) (u : Value) (e : vs.setIfInBounds j u = us) : TC w (W.setCell ⟨w.heap.size + 1 + 1, j, none⟩ u) a1 n1 c1 a2 n2 c2 a3 n3 c3 x R us := by
  have f : ∀ l, l ≠ w.heap.size + 2 → (W.setCell ⟨w.heap.size + 1 + 1, j, none⟩ u).heap[l]? = W.heap[l]? := fun l hl => Below.heap_setCell _ _ _ _ (by show l ≠ w.heap.size + 1 + 1; omega)
  refine ⟨(f _ (by omega)).trans h.b0, (f _ (by omega)).trans h.b1, ?_, h.st, h.st W _ (fun l hl _ => f l (by omega)) (by simp) h.r, ⟨h.below.os, h.below.tape, h.below.output, by simpa [World.setCell] using h.below.size, fun l hl => (f l (by omega)).trans (h.below.block l hl)⟩, by simpa [World.setCell] using h.lt⟩
  rw [← e]
  exact heap_setCell_same W (w.heap.size + 1 + 1) j _ 108 u h.b2
theorem TC.on {w W : World} {a1 : Option Addr} {n1 c1 : Nat} {a2 : Option Addr} {n2 c2 : Nat} {a3 : Option Addr} {n3 c3 : Nat} {x : CP} {R : World → Prop} {vs : Array Value} {W' : World} (h : TC w W a1 n1 c1 a2 n2 c2 a3 n3 c3 x R vs) (hb : Below W.heap.size W W') : TC w W' a1 n1 c1 a2 n2 c2 a3 n3 c3 x R vs := by
  have hl := h.lt
  have hs := hb.size
  exact ⟨(hb.block _ (by omega)).trans h.b0, (hb.block _ (by omega)).trans h.b1, (hb.block _ (by omega)).trans h.b2, h.st, h.st W W' (fun l _ hl => hb.block l hl) hs h.r, h.below.trans (hb.mono h.below.size), by omega⟩
theorem TC.more {w W : World} {a1 : Option Addr} {n1 c1 : Nat} {a2 : Option Addr} {n2 c2 : Nat} {a3 : Option Addr} {n3 c3 : Nat} {x : CP} {R : World → Prop} {vs : Array Value} {Q : World → Prop} (h : TC w W a1 n1 c1 a2 n2 c2 a3 n3 c3 x R vs) (s : Stab (w.heap.size + 3) Q) (q : Q W) : TC w W a1 n1 c1 a2 n2 c2 a3 n3 c3 x Q vs := ⟨h.b0, h.b1, h.b2, s, q, h.below, h.lt⟩
theorem TC.out {w W : World} {a1 : Option Addr} {n1 c1 : Nat} {a2 : Option Addr} {n2 c2 : Nat} {a3 : Option Addr} {n3 c3 : Nat} {x : CP} {R : World → Prop} {vs : Array Value} (h : TC w W a1 n1 c1 a2 n2 c2 a3 n3 c3 x R vs) (j : Nat) : W.cell? ⟨w.heap.size + 1 + 1, j, none⟩ = vs[j]? ∧ W.frozen? ⟨w.heap.size + 1 + 1, j, none⟩ = false ∧ W.cell? ⟨w.heap.size, j, none⟩ = (#[.slice a1 n1 c1, .int .i64 x.num, .int .i64 x.base, .int .i64 x.tm, .int .i64 x.next, .int .i64 x.scope, .bool x.ind, .slice a2 n2 c2, .slice a3 n3 c3] : Array Value)[j]? :=
  ⟨cell_of_row _ _ j _ 108 (0, 0) h.b2, frozen_of_row W _ j _ 108 h.b2, cell_of_row _ _ j _ 103 (0, 0) h.b0⟩
theorem TC.res {w W : World} {a1 : Option Addr} {n1 c1 : Nat} {a2 : Option Addr} {n2 c2 : Nat} {a3 : Option Addr} {n3 c3 : Nat} {x : CP} {R : World → Prop} {vs : Array Value} (h : TC w W a1 n1 c1 a2 n2 c2 a3 n3 c3 x R vs) (j : Nat) : W.cell? ⟨w.heap.size + 1, j, none⟩ = (#[.slice none 0 0, .int .i64 0, .int .i64 0, .int .i64 0, .int .i64 0, .int .i64 0, .bool false, .slice none 0 0, .slice none 0 0] : Array Value)[j]? ∧ W.frozen? ⟨w.heap.size + 1, j, none⟩ = false :=
  ⟨cell_of_row _ _ j _ 108 (0, 0) h.b1, frozen_of_row W _ j _ 108 h.b1⟩

set_option maxRecDepth 10000 in
set_option maxHeartbeats 4000000 in
theorem toCrl_any (a1 : Option Addr) (n1 c1 : Nat) (a2 : Option Addr) (n2 c2 : Nat) (a3 : Option Addr) (n3 c3 : Nat) (x : CP) (w : World) (h : Crs w a1 n1 a2 n2 a3 n3 x) (hz : CpOk n1 n2 n3 x) :
    Calls Tryz.prog 64 #[crv a1 n1 c1 a2 n2 c2 a3 n3 c3 x] w fun e w' => ∃ b1 b2 b3, e = .returned (crv b1 n1 n1 b2 n2 n2 b3 n3 n3 x) ∧ Crs w' b1 n1 b2 n2 b3 n3 x ∧ Below w.heap.size w w' := by
  have HK : Hid (Crs w a1 n1 a2 n2 a3 n3 x) := h
  have HZ : Hid (CpOk n1 n2 n3 x) := hz
  clear h hz
  unfold crv
  obtain ⟨W0, hW0⟩ : ∃ W0, W0 = (((w.alloc (.cells #[.slice a1 n1 c1, .int .i64 x.num, .int .i64 x.base, .int .i64 x.tm, .int .i64 x.next, .int .i64 x.scope, .bool x.ind, .slice a2 n2 c2, .slice a3 n3 c3] 103)).alloc (.cells #[.slice none 0 0, .int .i64 0, .int .i64 0, .int .i64 0, .int .i64 0, .int .i64 0, .bool false, .slice none 0 0, .slice none 0 0] 108)).alloc (.cells #[.slice none 0 0, .int .i64 0, .int .i64 0, .int .i64 0, .int .i64 0, .int .i64 0, .bool false, .slice none 0 0, .slice none 0 0] 108)) := ⟨_, rfl⟩
  have hB0 : Below w.heap.size w W0 := by rw [hW0]; exact three_below _ _ _ _
  have hS0 : W0.heap.size = w.heap.size + 3 := by rw [hW0]; simp
  obtain ⟨b0, b1, b2⟩ := three_blocks' w (.cells #[.slice a1 n1 c1, .int .i64 x.num, .int .i64 x.base, .int .i64 x.tm, .int .i64 x.next, .int .i64 x.scope, .bool x.ind, .slice a2 n2 c2, .slice a3 n3 c3] 103) (.cells #[.slice none 0 0, .int .i64 0, .int .i64 0, .int .i64 0, .int .i64 0, .int .i64 0, .bool false, .slice none 0 0, .slice none 0 0] 108) (.cells #[.slice none 0 0, .int .i64 0, .int .i64 0, .int .i64 0, .int .i64 0, .int .i64 0, .bool false, .slice none 0 0, .slice none 0 0] 108)
  rw [← hW0] at b0 b1 b2
  go_enter Tryz.func64, Tryz.ntmps64
  go_wp2_with fail
  rw [← hW0]
  clear hW0
  refine (toName_at a1 n1 c1 x.parts _ (HK.out.kept hB0).nm HZ.out.1).mono ?_
  rintro e w1 ⟨g1, rfl, hg1, ho1, hb1⟩
  have hs1 := hb1.size
  have T1 : Hid (TC w w1 a1 n1 c1 a2 n2 c2 a3 n3 c3 x (fun W => Pts W (some ⟨g1, 0, none⟩) n1 x.parts) #[.slice none 0 0, .int .i64 0, .int .i64 0, .int .i64 0, .int .i64 0, .int .i64 0, .bool false, .slice none 0 0, .slice none 0 0]) := ⟨heap_kept' hb1 (by omega) b0, heap_kept' hb1 (by omega) b1, heap_kept' hb1 (by omega) b2, stab_pts (by omega), ho1, hB0.trans (hb1.mono (by omega)), by omega⟩
  clear b0 b1 b2 ho1 hb1 hB0 hg1 hs1 hS0
  unfold nmv
  obtain ⟨o0, f0, l0⟩ := T1.out.out 0
  have o0 : w1.cell? ⟨w.heap.size + 1 + 1, 0, none⟩ = some (.slice none 0 0) := o0
  have l0 : w1.cell? ⟨w.heap.size, 0, none⟩ = some (.slice a1 n1 c1) := l0
  have m0 := T1.out.lt
  obtain ⟨w2, hw2⟩ : ∃ W, W = w1.setCell ⟨w.heap.size + 1 + 1, 0, none⟩ (.slice (some ⟨g1, 0, none⟩) n1 n1) := ⟨_, rfl⟩
  have T2 : Hid (TC w w2 a1 n1 c1 a2 n2 c2 a3 n3 c3 x (fun W => Pts W (some ⟨g1, 0, none⟩) n1 x.parts) #[.slice (some ⟨g1, 0, none⟩) n1 n1, .int .i64 0, .int .i64 0, .int .i64 0, .int .i64 0, .int .i64 0, .bool false, .slice none 0 0, .slice none 0 0]) := by rw [hw2]; exact T1.out.set 0 _ rfl
  have HW2 : Hid (_ = _) := hw2
  clear hw2
  go_upto_region 3 with fail
  rw [← HW2.out]
  clear HW2 o0 f0 l0 m0 T1
  obtain ⟨o1, f1, l1⟩ := T2.out.out 1
  have o1 : w2.cell? ⟨w.heap.size + 1 + 1, 1, none⟩ = some (.int .i64 0) := o1
  have l1 : w2.cell? ⟨w.heap.size, 1, none⟩ = some (.int .i64 x.num) := l1
  have m1 := T2.out.lt
  obtain ⟨w3, hw3⟩ : ∃ W, W = w2.setCell ⟨w.heap.size + 1 + 1, 1, none⟩ (.int .i64 x.num) := ⟨_, rfl⟩
  have T3 : Hid (TC w w3 a1 n1 c1 a2 n2 c2 a3 n3 c3 x (fun W => Pts W (some ⟨g1, 0, none⟩) n1 x.parts) #[.slice (some ⟨g1, 0, none⟩) n1 n1, .int .i64 x.num, .int .i64 0, .int .i64 0, .int .i64 0, .int .i64 0, .bool false, .slice none 0 0, .slice none 0 0]) := by rw [hw3]; exact T2.out.set 1 _ rfl
  have HW3 : Hid (_ = _) := hw3
  clear hw3
  go_upto_region 4 with fail
  rw [← HW3.out]
  clear HW3 o1 f1 l1 m1 T2
  obtain ⟨o2, f2, l2⟩ := T3.out.out 2
  have o2 : w3.cell? ⟨w.heap.size + 1 + 1, 2, none⟩ = some (.int .i64 0) := o2
  have l2 : w3.cell? ⟨w.heap.size, 2, none⟩ = some (.int .i64 x.base) := l2
  have m2 := T3.out.lt
  obtain ⟨w4, hw4⟩ : ∃ W, W = w3.setCell ⟨w.heap.size + 1 + 1, 2, none⟩ (.int .i64 x.base) := ⟨_, rfl⟩
  have T4 : Hid (TC w w4 a1 n1 c1 a2 n2 c2 a3 n3 c3 x (fun W => Pts W (some ⟨g1, 0, none⟩) n1 x.parts) #[.slice (some ⟨g1, 0, none⟩) n1 n1, .int .i64 x.num, .int .i64 x.base, .int .i64 0, .int .i64 0, .int .i64 0, .bool false, .slice none 0 0, .slice none 0 0]) := by rw [hw4]; exact T3.out.set 2 _ rfl
  have HW4 : Hid (_ = _) := hw4
  clear hw4
  go_upto_region 5 with fail
  rw [← HW4.out]
  clear HW4 o2 f2 l2 m2 T3
  obtain ⟨o3, f3, l3⟩ := T4.out.out 3
  have o3 : w4.cell? ⟨w.heap.size + 1 + 1, 3, none⟩ = some (.int .i64 0) := o3
  have l3 : w4.cell? ⟨w.heap.size, 3, none⟩ = some (.int .i64 x.tm) := l3
  have m3 := T4.out.lt
  obtain ⟨w5, hw5⟩ : ∃ W, W = w4.setCell ⟨w.heap.size + 1 + 1, 3, none⟩ (.int .i64 x.tm) := ⟨_, rfl⟩
  have T5 : Hid (TC w w5 a1 n1 c1 a2 n2 c2 a3 n3 c3 x (fun W => Pts W (some ⟨g1, 0, none⟩) n1 x.parts) #[.slice (some ⟨g1, 0, none⟩) n1 n1, .int .i64 x.num, .int .i64 x.base, .int .i64 x.tm, .int .i64 0, .int .i64 0, .bool false, .slice none 0 0, .slice none 0 0]) := by rw [hw5]; exact T4.out.set 3 _ rfl
  have HW5 : Hid (_ = _) := hw5
  clear hw5
  go_upto_region 6 with fail
  rw [← HW5.out]
  clear HW5 o3 f3 l3 m3 T4
  obtain ⟨o4, f4, l4⟩ := T5.out.out 4
  have o4 : w5.cell? ⟨w.heap.size + 1 + 1, 4, none⟩ = some (.int .i64 0) := o4
  have l4 : w5.cell? ⟨w.heap.size, 4, none⟩ = some (.int .i64 x.next) := l4
  have m4 := T5.out.lt
  obtain ⟨w6, hw6⟩ : ∃ W, W = w5.setCell ⟨w.heap.size + 1 + 1, 4, none⟩ (.int .i64 x.next) := ⟨_, rfl⟩
  have T6 : Hid (TC w w6 a1 n1 c1 a2 n2 c2 a3 n3 c3 x (fun W => Pts W (some ⟨g1, 0, none⟩) n1 x.parts) #[.slice (some ⟨g1, 0, none⟩) n1 n1, .int .i64 x.num, .int .i64 x.base, .int .i64 x.tm, .int .i64 x.next, .int .i64 0, .bool false, .slice none 0 0, .slice none 0 0]) := by rw [hw6]; exact T5.out.set 4 _ rfl
  have HW6 : Hid (_ = _) := hw6
  clear hw6
  go_upto_region 7 with fail
  rw [← HW6.out]
  clear HW6 o4 f4 l4 m4 T5
  obtain ⟨o5, f5, l5⟩ := T6.out.out 5
  have o5 : w6.cell? ⟨w.heap.size + 1 + 1, 5, none⟩ = some (.int .i64 0) := o5
  have l5 : w6.cell? ⟨w.heap.size, 5, none⟩ = some (.int .i64 x.scope) := l5
  have m5 := T6.out.lt
  obtain ⟨w7, hw7⟩ : ∃ W, W = w6.setCell ⟨w.heap.size + 1 + 1, 5, none⟩ (.int .i64 x.scope) := ⟨_, rfl⟩
  have T7 : Hid (TC w w7 a1 n1 c1 a2 n2 c2 a3 n3 c3 x (fun W => Pts W (some ⟨g1, 0, none⟩) n1 x.parts) #[.slice (some ⟨g1, 0, none⟩) n1 n1, .int .i64 x.num, .int .i64 x.base, .int .i64 x.tm, .int .i64 x.next, .int .i64 x.scope, .bool false, .slice none 0 0, .slice none 0 0]) := by rw [hw7]; exact T6.out.set 5 _ rfl
  have HW7 : Hid (_ = _) := hw7
  clear hw7
  go_upto_region 8 with fail
  rw [← HW7.out]
  clear HW7 o5 f5 l5 m5 T6
  obtain ⟨o6, f6, l6⟩ := T7.out.out 6
  have o6 : w7.cell? ⟨w.heap.size + 1 + 1, 6, none⟩ = some (.bool false) := o6
  have l6 : w7.cell? ⟨w.heap.size, 6, none⟩ = some (.bool x.ind) := l6
  have m6 := T7.out.lt
  obtain ⟨w8, hw8⟩ : ∃ W, W = w7.setCell ⟨w.heap.size + 1 + 1, 6, none⟩ (.bool x.ind) := ⟨_, rfl⟩
  have T8 : Hid (TC w w8 a1 n1 c1 a2 n2 c2 a3 n3 c3 x (fun W => Pts W (some ⟨g1, 0, none⟩) n1 x.parts) #[.slice (some ⟨g1, 0, none⟩) n1 n1, .int .i64 x.num, .int .i64 x.base, .int .i64 x.tm, .int .i64 x.next, .int .i64 x.scope, .bool x.ind, .slice none 0 0, .slice none 0 0]) := by rw [hw8]; exact T7.out.set 6 _ rfl
  have HW8 : Hid (_ = _) := hw8
  clear hw8
  go_upto_region 9 with fail
  rw [← HW8.out]
  clear HW8 o6 f6 l6 m6 T7
  obtain ⟨_, _, l7⟩ := T8.out.out 7
  have l7 : w8.cell? ⟨w.heap.size, 7, none⟩ = some (.slice a2 n2 c2) := l7
  have m7 := T8.out.lt
  go_wp2_with fail
  refine (toGoneS_at a2 n2 c2 x.ents _ (HK.out.kept T8.out.below).en HZ.out.2.2.1 HZ.out.2.2.2.1).mono ?_
  rintro e w9 ⟨rfl, hp9, hl9, hb9⟩
  obtain ⟨g2, hg2⟩ : ∃ g2, g2 = w8.heap.size := ⟨_, rfl⟩
  rw [← hg2] at hp9 hl9 ⊢
  have hg23 : w.heap.size + 3 ≤ g2 := by omega
  have T9 : Hid (TC w w9 a1 n1 c1 a2 n2 c2 a3 n3 c3 x (fun W => Pts W (some ⟨g1, 0, none⟩) n1 x.parts ∧ (GoPre W g2 n2 x.ents ∧ g2 < W.heap.size)) #[.slice (some ⟨g1, 0, none⟩) n1 n1, .int .i64 x.num, .int .i64 x.base, .int .i64 x.tm, .int .i64 x.next, .int .i64 x.scope, .bool x.ind, .slice none 0 0, .slice none 0 0]) := (T8.out.on hb9).more (stab_and T8.out.st (stab_and (stab_go hg23) (stab_lt _ _))) ⟨(T8.out.on hb9).r, hp9, hl9⟩
  clear hb9 hp9 hl9 hg2 T8 l7 m7
  obtain ⟨o7, f7, l7⟩ := T9.out.out 7
  have o7 : w9.cell? ⟨w.heap.size + 1 + 1, 7, none⟩ = some (.slice none 0 0) := o7
  have l7 : w9.cell? ⟨w.heap.size, 7, none⟩ = some (.slice a2 n2 c2) := l7
  have m7 := T9.out.lt
  obtain ⟨w10, hw10⟩ : ∃ W, W = w9.setCell ⟨w.heap.size + 1 + 1, 7, none⟩ (.slice (some ⟨g2, 0, none⟩) n2 n2) := ⟨_, rfl⟩
  have T10 : Hid (TC w w10 a1 n1 c1 a2 n2 c2 a3 n3 c3 x (fun W => Pts W (some ⟨g1, 0, none⟩) n1 x.parts ∧ (GoPre W g2 n2 x.ents ∧ g2 < W.heap.size)) #[.slice (some ⟨g1, 0, none⟩) n1 n1, .int .i64 x.num, .int .i64 x.base, .int .i64 x.tm, .int .i64 x.next, .int .i64 x.scope, .bool x.ind, .slice (some ⟨g2, 0, none⟩) n2 n2, .slice none 0 0]) := by rw [hw10]; exact T9.out.set 7 _ rfl
  have HW10 : Hid (_ = _) := hw10
  clear hw10
  go_upto_region 10 with fail
  rw [← HW10.out]
  clear HW10 o7 f7 l7 m7 T9
  obtain ⟨_, _, l8⟩ := T10.out.out 8
  have l8 : w10.cell? ⟨w.heap.size, 8, none⟩ = some (.slice a3 n3 c3) := l8
  have m8 := T10.out.lt
  go_wp2_with fail
  refine (toByteS_any a3 n3 c3 x.sig _ (HK.out.kept T10.out.below).sg HZ.out.2.2.2.2).mono ?_
  rintro e w11 ⟨s3, rfl, ho11, hb11⟩
  obtain ⟨s3b, hs3b⟩ : ∃ s3b, s3b = w10.heap.size := ⟨_, rfl⟩
  rw [← hs3b] at ho11
  have hs33 : w.heap.size + 3 ≤ s3b := by omega
  have T11 : Hid (TC w w11 a1 n1 c1 a2 n2 c2 a3 n3 c3 x (fun W => (Pts W (some ⟨g1, 0, none⟩) n1 x.parts ∧ (GoPre W g2 n2 x.ents ∧ g2 < W.heap.size)) ∧ Own s3b W s3 n3 n3 x.sig) #[.slice (some ⟨g1, 0, none⟩) n1 n1, .int .i64 x.num, .int .i64 x.base, .int .i64 x.tm, .int .i64 x.next, .int .i64 x.scope, .bool x.ind, .slice (some ⟨g2, 0, none⟩) n2 n2, .slice none 0 0]) := (T10.out.on hb11).more (stab_and T10.out.st (stab_own hs33)) ⟨(T10.out.on hb11).r, ho11⟩
  clear hb11 ho11 hs3b T10 l8 m8
  obtain ⟨o8, f8, l8⟩ := T11.out.out 8
  have o8 : w11.cell? ⟨w.heap.size + 1 + 1, 8, none⟩ = some (.slice none 0 0) := o8
  have l8 : w11.cell? ⟨w.heap.size, 8, none⟩ = some (.slice a3 n3 c3) := l8
  have m8 := T11.out.lt
  obtain ⟨w12, hw12⟩ : ∃ W, W = w11.setCell ⟨w.heap.size + 1 + 1, 8, none⟩ (.slice s3 n3 n3) := ⟨_, rfl⟩
  have T12 : Hid (TC w w12 a1 n1 c1 a2 n2 c2 a3 n3 c3 x (fun W => (Pts W (some ⟨g1, 0, none⟩) n1 x.parts ∧ (GoPre W g2 n2 x.ents ∧ g2 < W.heap.size)) ∧ Own s3b W s3 n3 n3 x.sig) #[.slice (some ⟨g1, 0, none⟩) n1 n1, .int .i64 x.num, .int .i64 x.base, .int .i64 x.tm, .int .i64 x.next, .int .i64 x.scope, .bool x.ind, .slice (some ⟨g2, 0, none⟩) n2 n2, .slice s3 n3 n3]) := by rw [hw12]; exact T11.out.set 8 _ rfl
  have HW12 : Hid (_ = _) := hw12
  clear hw12
  go_upto_region 11 with fail
  rw [← HW12.out]
  clear HW12 o8 f8 l8 m8 T11
  have o0 : w12.cell? ⟨w.heap.size + 1 + 1, 0, none⟩ = some (.slice (some ⟨g1, 0, none⟩) n1 n1) := (T12.out.out 0).1
  have r0 : w12.cell? ⟨w.heap.size + 1, 0, none⟩ = some (.slice none 0 0) := (T12.out.res 0).1
  have f0 : w12.frozen? ⟨w.heap.size + 1, 0, none⟩ = false := (T12.out.res 0).2
  have o1 : w12.cell? ⟨w.heap.size + 1 + 1, 1, none⟩ = some (.int .i64 x.num) := (T12.out.out 1).1
  have r1 : w12.cell? ⟨w.heap.size + 1, 1, none⟩ = some (.int .i64 0) := (T12.out.res 1).1
  have f1 : w12.frozen? ⟨w.heap.size + 1, 1, none⟩ = false := (T12.out.res 1).2
  have o2 : w12.cell? ⟨w.heap.size + 1 + 1, 2, none⟩ = some (.int .i64 x.base) := (T12.out.out 2).1
  have r2 : w12.cell? ⟨w.heap.size + 1, 2, none⟩ = some (.int .i64 0) := (T12.out.res 2).1
  have f2 : w12.frozen? ⟨w.heap.size + 1, 2, none⟩ = false := (T12.out.res 2).2
  have o3 : w12.cell? ⟨w.heap.size + 1 + 1, 3, none⟩ = some (.int .i64 x.tm) := (T12.out.out 3).1
  have r3 : w12.cell? ⟨w.heap.size + 1, 3, none⟩ = some (.int .i64 0) := (T12.out.res 3).1
  have f3 : w12.frozen? ⟨w.heap.size + 1, 3, none⟩ = false := (T12.out.res 3).2
  have o4 : w12.cell? ⟨w.heap.size + 1 + 1, 4, none⟩ = some (.int .i64 x.next) := (T12.out.out 4).1
  have r4 : w12.cell? ⟨w.heap.size + 1, 4, none⟩ = some (.int .i64 0) := (T12.out.res 4).1
  have f4 : w12.frozen? ⟨w.heap.size + 1, 4, none⟩ = false := (T12.out.res 4).2
  have o5 : w12.cell? ⟨w.heap.size + 1 + 1, 5, none⟩ = some (.int .i64 x.scope) := (T12.out.out 5).1
  have r5 : w12.cell? ⟨w.heap.size + 1, 5, none⟩ = some (.int .i64 0) := (T12.out.res 5).1
  have f5 : w12.frozen? ⟨w.heap.size + 1, 5, none⟩ = false := (T12.out.res 5).2
  have o6 : w12.cell? ⟨w.heap.size + 1 + 1, 6, none⟩ = some (.bool x.ind) := (T12.out.out 6).1
  have r6 : w12.cell? ⟨w.heap.size + 1, 6, none⟩ = some (.bool false) := (T12.out.res 6).1
  have f6 : w12.frozen? ⟨w.heap.size + 1, 6, none⟩ = false := (T12.out.res 6).2
  have o7 : w12.cell? ⟨w.heap.size + 1 + 1, 7, none⟩ = some (.slice (some ⟨g2, 0, none⟩) n2 n2) := (T12.out.out 7).1
  have r7 : w12.cell? ⟨w.heap.size + 1, 7, none⟩ = some (.slice none 0 0) := (T12.out.res 7).1
  have f7 : w12.frozen? ⟨w.heap.size + 1, 7, none⟩ = false := (T12.out.res 7).2
  have o8 : w12.cell? ⟨w.heap.size + 1 + 1, 8, none⟩ = some (.slice s3 n3 n3) := (T12.out.out 8).1
  have r8 : w12.cell? ⟨w.heap.size + 1, 8, none⟩ = some (.slice none 0 0) := (T12.out.res 8).1
  have f8 : w12.frozen? ⟨w.heap.size + 1, 8, none⟩ = false := (T12.out.res 8).2
  have hl12 := T12.out.lt
  have HLN : Hid (x.ents.length = n2 ∧ n2 ≤ 9223372036854775807) := ⟨HK.out.en.len, HK.out.en.max⟩
  have HMX : Hid (n3 ≤ 9223372036854775807) := HK.out.mx
  clear HK
  go_wp2
  try simp only [Exit.inBlock, Exit.then]
  have q0 := heap_setCell_same w12 (w.heap.size + 1) 0 _ 108 (.slice (some ⟨g1, 0, none⟩) n1 n1) T12.out.b1
  have q1 := heap_setCell_same _ (w.heap.size + 1) 1 _ 108 (.int .i64 x.num) q0
  have q2 := heap_setCell_same _ (w.heap.size + 1) 2 _ 108 (.int .i64 x.base) q1
  have q3 := heap_setCell_same _ (w.heap.size + 1) 3 _ 108 (.int .i64 x.tm) q2
  have q4 := heap_setCell_same _ (w.heap.size + 1) 4 _ 108 (.int .i64 x.next) q3
  have q5 := heap_setCell_same _ (w.heap.size + 1) 5 _ 108 (.int .i64 x.scope) q4
  have q6 := heap_setCell_same _ (w.heap.size + 1) 6 _ 108 (.bool x.ind) q5
  have q7 := heap_setCell_same _ (w.heap.size + 1) 7 _ 108 (.slice (some ⟨g2, 0, none⟩) n2 n2) q6
  have q8 := heap_setCell_same _ (w.heap.size + 1) 8 _ 108 (.slice s3 n3 n3) q7
  have tt : Touch (w.heap.size + 1) (w.heap.size + 2) w12 (((((((((w12.setCell ⟨w.heap.size + 1, 0, none⟩ (.slice (some ⟨g1, 0, none⟩) n1 n1)).setCell ⟨w.heap.size + 1, 1, none⟩ (.int .i64 x.num)).setCell ⟨w.heap.size + 1, 2, none⟩ (.int .i64 x.base)).setCell ⟨w.heap.size + 1, 3, none⟩ (.int .i64 x.tm)).setCell ⟨w.heap.size + 1, 4, none⟩ (.int .i64 x.next)).setCell ⟨w.heap.size + 1, 5, none⟩ (.int .i64 x.scope)).setCell ⟨w.heap.size + 1, 6, none⟩ (.bool x.ind)).setCell ⟨w.heap.size + 1, 7, none⟩ (.slice (some ⟨g2, 0, none⟩) n2 n2)).setCell ⟨w.heap.size + 1, 8, none⟩ (.slice s3 n3 n3)) := (((((((((touch_set' _ _ _ _ (Nat.le_refl _) (Nat.lt_succ_self _)).trans (touch_set' _ _ _ _ (Nat.le_refl _) (Nat.lt_succ_self _))).trans (touch_set' _ _ _ _ (Nat.le_refl _) (Nat.lt_succ_self _))).trans (touch_set' _ _ _ _ (Nat.le_refl _) (Nat.lt_succ_self _))).trans (touch_set' _ _ _ _ (Nat.le_refl _) (Nat.lt_succ_self _))).trans (touch_set' _ _ _ _ (Nat.le_refl _) (Nat.lt_succ_self _))).trans (touch_set' _ _ _ _ (Nat.le_refl _) (Nat.lt_succ_self _))).trans (touch_set' _ _ _ _ (Nat.le_refl _) (Nat.lt_succ_self _))).trans (touch_set' _ _ _ _ (Nat.le_refl _) (Nat.lt_succ_self _)))
  have hr := T12.out.st w12 (((((((((w12.setCell ⟨w.heap.size + 1, 0, none⟩ (.slice (some ⟨g1, 0, none⟩) n1 n1)).setCell ⟨w.heap.size + 1, 1, none⟩ (.int .i64 x.num)).setCell ⟨w.heap.size + 1, 2, none⟩ (.int .i64 x.base)).setCell ⟨w.heap.size + 1, 3, none⟩ (.int .i64 x.tm)).setCell ⟨w.heap.size + 1, 4, none⟩ (.int .i64 x.next)).setCell ⟨w.heap.size + 1, 5, none⟩ (.int .i64 x.scope)).setCell ⟨w.heap.size + 1, 6, none⟩ (.bool x.ind)).setCell ⟨w.heap.size + 1, 7, none⟩ (.slice (some ⟨g2, 0, none⟩) n2 n2)).setCell ⟨w.heap.size + 1, 8, none⟩ (.slice s3 n3 n3)) (fun l hl hl2 => tt.block l hl2 (.inr (by omega))) tt.size T12.out.r
  refine bodyPost_ret (results_cr rfl _ (w.heap.size + 1) rfl _ _ _ _ _ _ _ _ _ _ q8) rfl ⟨_, _, _, rfl, ⟨hr.1.1, hr.1.2.1.gns HLN.out.1 HLN.out.2 hr.1.2.2, hr.2.toRow, HMX.out⟩, ?_⟩
  exact T12.out.below.trans (tt.below (by omega) (by omega))

end Go.Proofs.YtoldngiclmidaaaGreatDoor

namespace Go.Proofs.YtoldngiclmidaaaGreatDoor
open Go.RowKit

def U64 (v : Int) : Prop := 0 ≤ v ∧ v ≤ 18446744073709551615
theorem keepT {w w1 w2 : World} (h : Below w.heap.size w w1) (k : Below w1.heap.size w1 w2) : Below w.heap.size w w2 := h.trans (k.mono h.size)
theorem alloc_oldT (w : World) (o : Obj) (g : Nat) (hg : g < w.heap.size) : (w.alloc o).heap[g]? = w.heap[g]? := ((Below.refl w.heap.size w).alloc (Nat.le_refl _) o).block g hg
def kpv (sc y h : Int) : Value := .agg #[.int .i64 sc, .int .u64 y, .int .i64 h]
theorem wrap_big {x : Int} (hx : U64 x) (hb : ¬ x ≤ 9223372036854775807) : wrap64 x = x - 18446744073709551616 := by
  have := hx.2
  unfold wrap64
  omega

set_option maxHeartbeats 1000000 in
theorem schemeOf_1 (w : World) : Calls Tryz.prog 76 #[.int .i64 1] w fun e w' => e = .returned (.tuple #[.iface 138 (.agg #[]), .bool true]) ∧ w' = w := by
  go_enter Tryz.func76, Tryz.ntmps76
  go_wp2
  go_ret2
  exact ⟨rfl, rfl⟩

set_option maxHeartbeats 1000000 in
theorem schemeOf_2 (w : World) : Calls Tryz.prog 76 #[.int .i64 2] w fun e w' => e = .returned (.tuple #[.iface 139 (.agg #[]), .bool true]) ∧ w' = w := by
  go_enter Tryz.func76, Tryz.ntmps76
  go_wp2
  go_ret2
  exact ⟨rfl, rfl⟩

set_option maxHeartbeats 1000000 in
theorem schemeOf_o (k : Int) (w : World) (h1 : k ≠ 1) (h2 : k ≠ 2) : Calls Tryz.prog 76 #[.int .i64 k] w fun e w' => e = .returned (.tuple #[.nilIface, .bool false]) ∧ w' = w := by
  have z1 : (k == 1) = false := beq_false_of_ne h1
  have z2 : (k == 2) = false := beq_false_of_ne h2
  clear h1 h2
  go_enter Tryz.func76, Tryz.ntmps76
  go_wp2
  go_ret2
  exact ⟨rfl, rfl⟩

def gkP (y h : Int) : Prop := keyP y ∧ h = 0
instance (y h : Int) : Decidable (gkP y h) := by unfold gkP; infer_instance
def hbP (h : Int) : Prop := 0 ≤ h ∧ h ≤ 5
instance (h : Int) : Decidable (hbP h) := by unfold hbP; infer_instance
def pubP (sc y h : Int) : Prop := (sc = 1 ∧ gkP y h) ∨ (sc = 2 ∧ hbP h)
instance (sc y h : Int) : Decidable (pubP sc y h) := by unfold pubP; infer_instance
def ifvP (sc : Int) : Value := if sc = 1 then .iface 138 (.agg #[]) else if sc = 2 then .iface 139 (.agg #[]) else .nilIface
theorem keyP_lt {y : Int} (h : keyP y) : 2 ≤ y ∧ y ≤ 1000000006 := by
  have h1 := h.1.1
  have h2 := h.2
  omega

set_option maxHeartbeats 2000000 in
theorem groupPubOk_any (sc y h : Int) (w : World) (hy : U64 y) :
    Calls Tryz.prog 163 #[.agg #[], kpv sc y h] w fun e w' => e = .returned (.bool (decide (gkP y h))) ∧ Below w.heap.size w w' := by
  have hbb : Below w.heap.size w ((w.alloc (.cells #[] 138)).alloc (.cells #[.int .i64 sc, .int .u64 y, .int .i64 h] 36)) := two_below _ _ _
  obtain ⟨hx0, hx1⟩ := hy
  unfold kpv
  by_cases hs : keyP y
  · have hxs : y ≤ 9223372036854775807 := by have := (keyP_lt hs).2; omega
    by_cases h1 : h = 0
    · have HV : Hid (decide (gkP y h) = true) := decide_eq_true ⟨hs, h1⟩
      have z1 : (h == 0) = true := beq_iff_eq.2 h1
      clear h1
      go_enter Tryz.func163, Tryz.ntmps163
      go_wp2_with fail
      refine (isKey_any y _).mono ?_
      rintro e w2 ⟨rfl, rfl⟩
      rw [decide_eq_true hs]
      go_wp2
      go_ret
      exact ⟨by rw [HV.out]; rfl, hbb⟩
    · have HV : Hid (decide (gkP y h) = false) := decide_eq_false (fun hh => h1 hh.2)
      have z1 : (h == 0) = false := beq_false_of_ne h1
      clear h1
      go_enter Tryz.func163, Tryz.ntmps163
      go_wp2_with fail
      refine (isKey_any y _).mono ?_
      rintro e w2 ⟨rfl, rfl⟩
      rw [decide_eq_true hs]
      go_wp2
      go_ret
      exact ⟨by rw [HV.out]; rfl, hbb⟩
  · have HV : Hid (decide (gkP y h) = false) := decide_eq_false (fun hh => hs hh.1)
    by_cases hxs : y ≤ 9223372036854775807
    · go_enter Tryz.func163, Tryz.ntmps163
      go_wp2_with fail
      refine (isKey_any y _).mono ?_
      rintro e w2 ⟨rfl, rfl⟩
      rw [decide_eq_false hs]
      go_wp2
      go_ret
      exact ⟨by rw [HV.out]; rfl, hbb⟩
    · have hwr := wrap_big ⟨hx0, hx1⟩ hxs
      have hs2 : ¬ keyP (wrap64 y) := by rw [hwr]; intro hh; have := (keyP_lt hh).1; omega
      clear hwr
      go_enter Tryz.func163, Tryz.ntmps163
      go_wp2_with fail
      refine (isKey_any (wrap64 y) _).mono ?_
      rintro e w2 ⟨rfl, rfl⟩
      rw [decide_eq_false hs2]
      go_wp2
      go_ret
      exact ⟨by rw [HV.out]; rfl, hbb⟩

set_option maxHeartbeats 2000000 in
theorem treePubOk_any (sc y h : Int) (w : World) :
    Calls Tryz.prog 172 #[.agg #[], kpv sc y h] w fun e w' => e = .returned (.bool (decide (hbP h))) ∧ Below w.heap.size w w' := by
  have hbb : Below w.heap.size w ((w.alloc (.cells #[] 139)).alloc (.cells #[.int .i64 sc, .int .u64 y, .int .i64 h] 36)) := two_below _ _ _
  unfold kpv
  by_cases h1 : 0 ≤ h ∧ h ≤ 5
  · have HV : Hid (decide (hbP h) = true) := decide_eq_true h1
    go_enter Tryz.func172, Tryz.ntmps172
    go_wp2_with fail
    refine (inBounds_t h 0 5 _ h1).mono ?_
    rintro e w2 ⟨rfl, rfl⟩
    go_wp2
    go_ret
    exact ⟨by rw [HV.out]; rfl, hbb⟩
  · have HV : Hid (decide (hbP h) = false) := decide_eq_false h1
    go_enter Tryz.func172, Tryz.ntmps172
    go_wp2_with fail
    refine (inBounds_f h 0 5 _ h1).mono ?_
    rintro e w2 ⟨rfl, rfl⟩
    go_wp2
    go_ret
    exact ⟨by rw [HV.out]; rfl, hbb⟩

set_option maxHeartbeats 2000000 in
theorem pubScheme_any (sc y h : Int) (w : World) (hy : U64 y) :
    Calls Tryz.prog 56 #[kpv sc y h] w fun e w' => e = .returned (.tuple #[ifvP sc, .bool (decide (pubP sc y h))]) ∧ Below w.heap.size w w' := by
  have hbb : Below w.heap.size w (w.alloc (.cells #[.int .i64 sc, .int .u64 y, .int .i64 h] 36)) := (Below.refl _ _).alloc (Nat.le_refl _) _
  by_cases h1 : sc = 1
  · subst h1
    have HV : Hid (decide (pubP 1 y h) = decide (gkP y h)) := by
      show _ = _
      exact decide_eq_decide.2 ⟨fun hh => hh.elim (fun a => a.2) (fun a => absurd a.1 (by decide)), fun hh => .inl ⟨rfl, hh⟩⟩
    have HI : Hid (ifvP 1 = .iface 138 (.agg #[])) := rfl
    rw [HI.out, kpv]
    go_enter Tryz.func56, Tryz.ntmps56
    go_wp2_with fail
    refine (schemeOf_1 _).mono ?_
    rintro e w2 ⟨rfl, rfl⟩
    go_wp2_with fail
    refine (groupPubOk_any 1 y h _ hy).mono ?_
    rintro e w3 ⟨rfl, hb3⟩
    go_wp2
    go_ret2
    exact ⟨by rw [HV.out]; rfl, keepT hbb hb3⟩
  by_cases h2 : sc = 2
  · subst h2
    have HV : Hid (decide (pubP 2 y h) = decide (hbP h)) := by
      show _ = _
      exact decide_eq_decide.2 ⟨fun hh => hh.elim (fun a => absurd a.1 (by decide)) (fun a => a.2), fun hh => .inr ⟨rfl, hh⟩⟩
    have HI : Hid (ifvP 2 = .iface 139 (.agg #[])) := rfl
    rw [HI.out, kpv]
    go_enter Tryz.func56, Tryz.ntmps56
    go_wp2_with fail
    refine (schemeOf_2 _).mono ?_
    rintro e w2 ⟨rfl, rfl⟩
    go_wp2_with fail
    refine (treePubOk_any 2 y h _).mono ?_
    rintro e w3 ⟨rfl, hb3⟩
    go_wp2
    go_ret2
    exact ⟨by rw [HV.out]; rfl, keepT hbb hb3⟩
  · have HV : Hid (decide (pubP sc y h) = false) := decide_eq_false (fun hh => hh.elim (fun a => h1 a.1) (fun a => h2 a.1))
    have HI : Hid (ifvP sc = .nilIface) := by show _ = _; unfold ifvP; rw [if_neg h1, if_neg h2]
    rw [HI.out, kpv]
    go_enter Tryz.func56, Tryz.ntmps56
    go_wp2_with fail
    refine (schemeOf_o sc _ h1 h2).mono ?_
    rintro e w2 ⟨rfl, rfl⟩
    go_wp2
    go_ret2
    exact ⟨by rw [HV.out]; rfl, hbb⟩

set_option maxHeartbeats 2000000 in
theorem l8PubOk_any (sc y h : Int) (w : World) (hy : U64 y) :
    Calls Tryz.prog 18 #[kpv sc y h] w fun e w' => e = .returned (.bool (decide (pubP sc y h))) ∧ Below w.heap.size w w' := by
  have hbb : Below w.heap.size w (w.alloc (.cells #[.int .i64 sc, .int .u64 y, .int .i64 h] 36)) := (Below.refl _ _).alloc (Nat.le_refl _) _
  obtain ⟨hy0, hy1⟩ := hy
  unfold kpv
  by_cases h1 : sc = 1
  · subst h1
    have HV : Hid (decide (pubP 1 y h) = decide (gkP y h)) := by
      show _ = _
      exact decide_eq_decide.2 ⟨fun hh => hh.elim (fun a => a.2) (fun a => absurd a.1 (by decide)), fun hh => .inl ⟨rfl, hh⟩⟩
    by_cases hh : h = 0
    · have z1 : (h == 0) = true := beq_iff_eq.2 hh
      by_cases hy2 : 1 < y ∧ y < 1000000007
      · obtain ⟨hy3, hy4⟩ := hy2
        have HK : Hid (decide (gkP y h) = decide (memP y)) := by
          show _ = _
          exact decide_eq_decide.2 ⟨fun a => a.1.1, fun a => ⟨⟨a, by omega⟩, hh⟩⟩
        clear hh
        go_enter Tryz.func18, Tryz.ntmps18
        go_wp2_with fail
        refine (l7Member_any y _).mono ?_
        rintro e w2 ⟨rfl, rfl⟩
        go_wp2
        go_ret
        exact ⟨by rw [HV.out, HK.out]; rfl, hbb⟩
      · have HK : Hid (decide (gkP y h) = false) := decide_eq_false (fun a => hy2 (by have := keyP_lt a.1; omega))
        by_cases hy3 : 1 < y
        · have hy4 : ¬ (y < 1000000007) := fun a => hy2 ⟨hy3, a⟩
          clear hh hy2
          go_enter Tryz.func18, Tryz.ntmps18
          go_wp2
          go_ret
          exact ⟨by rw [HV.out, HK.out]; rfl, hbb⟩
        · clear hh hy2
          go_enter Tryz.func18, Tryz.ntmps18
          go_wp2
          go_ret
          exact ⟨by rw [HV.out, HK.out]; rfl, hbb⟩
    · have z1 : (h == 0) = false := beq_false_of_ne hh
      have HK : Hid (decide (gkP y h) = false) := decide_eq_false (fun a => hh a.2)
      clear hh
      go_enter Tryz.func18, Tryz.ntmps18
      go_wp2
      go_ret
      exact ⟨by rw [HV.out, HK.out]; rfl, hbb⟩
  · have z0 : (sc == 1) = false := beq_false_of_ne h1
    by_cases h2 : sc = 2
    · have z2 : (sc == 2) = true := beq_iff_eq.2 h2
      by_cases h3 : 0 ≤ h ∧ h ≤ 5
      · have HV : Hid (decide (pubP sc y h) = true) := decide_eq_true (.inr ⟨h2, h3⟩)
        clear h1 h2
        go_enter Tryz.func18, Tryz.ntmps18
        go_wp2_with fail
        refine (l1In_t h 0 5 _ h3).mono ?_
        rintro e w2 ⟨rfl, rfl⟩
        go_wp2
        go_ret
        exact ⟨by rw [HV.out]; rfl, hbb⟩
      · have HV : Hid (decide (pubP sc y h) = false) := decide_eq_false (fun hh => hh.elim (fun a => h1 a.1) (fun a => h3 a.2))
        clear h1 h2
        go_enter Tryz.func18, Tryz.ntmps18
        go_wp2_with fail
        refine (l1In_f h 0 5 _ h3).mono ?_
        rintro e w2 ⟨rfl, rfl⟩
        go_wp2
        go_ret
        exact ⟨by rw [HV.out]; rfl, hbb⟩
    · have z2 : (sc == 2) = false := beq_false_of_ne h2
      have HV : Hid (decide (pubP sc y h) = false) := decide_eq_false (fun hh => hh.elim (fun a => h1 a.1) (fun a => h2 a.1))
      clear h1 h2
      go_enter Tryz.func18, Tryz.ntmps18
      go_wp2
      go_ret
      exact ⟨by rw [HV.out]; rfl, hbb⟩

theorem results_kp {fn : Func} {t : Tmp} (h : fn.results = #[.cell t 36]) (tmps : Array Value) (g : Nat) (ht : tmps.getD t undef = .pointer (some ⟨g, 0, none⟩)) (w : World) (c0 c1 c2 : Value)
    (hb : w.heap[g]? = some (.cells #[c0, c1, c2] 36 (0, 0))) : (results fn tmps).run Tryz.prog w = .ok (.agg #[c0, c1, c2]) w := by
  have d0 : w.cell? ⟨g, 0, none⟩ = some c0 := (cell_of_row _ g 0 _ 36 (0, 0) hb).trans rfl
  have d1 : w.cell? ⟨g, 1, none⟩ = some c1 := (cell_of_row _ g 1 _ 36 (0, 0) hb).trans rfl
  have d2 : w.cell? ⟨g, 2, none⟩ = some c2 := (cell_of_row _ g 2 _ 36 (0, 0) hb).trans rfl
  clear hb
  have ht' : tmps[t]?.getD undef = .pointer (some ⟨g, 0, none⟩) := by rw [← ht]; simp
  simp [results, h, go_sem, ht', d0, d1, d2]

set_option maxHeartbeats 1000000 in
theorem toPub_any (a b c : Int) (w : World) :
    Calls Tryz.prog 22 #[kpv a b c] w fun e w' => e = .returned (kpv a b c) ∧ Below w.heap.size w w' := by
  have b1 : ((((w.alloc (.cells #[.int .i64 a, .int .u64 b, .int .i64 c] 27)).alloc (.cells #[.int .i64 a, .int .u64 b, .int .i64 c] 36)).alloc (.cells #[.int .i64 a, .int .u64 b, .int .i64 c] 36))).heap[w.heap.size + 1]? = some (.cells #[.int .i64 a, .int .u64 b, .int .i64 c] 36) := by
    have s1 : (w.alloc (.cells #[.int .i64 a, .int .u64 b, .int .i64 c] 27)).heap.size = w.heap.size + 1 := by simp
    exact (alloc_oldT _ _ _ (by simp)).trans (by rw [← s1]; exact heap_alloc_new _ _)
  have HB1 : Hid (_ = _) := b1
  clear b1
  unfold kpv
  go_enter Tryz.func22, Tryz.ntmps22
  go_wp2
  try simp only [Exit.inBlock, Exit.then]
  exact bodyPost_ret (results_kp rfl _ (w.heap.size + 1) rfl _ _ _ _ HB1.out) rfl ⟨rfl, (((Below.refl _ _).alloc (Nat.le_refl _) _).alloc (by simp) _).alloc (by simp; omega) _⟩

set_option maxHeartbeats 400000 in
theorem eqPub_one (a b c : Int) (w : World) :
    Calls Tryz.prog 30 #[kpv a b c, kpv a b c] w fun e w' => e = .returned (.bool true) ∧ Below w.heap.size w w' := by
  unfold kpv
  have z1 : (a != a) = false := by simp
  have z2 : (b != b) = false := by simp
  have z3 : (c != c) = false := by simp
  go_enter Tryz.func30, Tryz.ntmps30
  go_wp2
  go_ret
  exact ⟨rfl, two_below _ _ _⟩

set_option maxHeartbeats 1000000 in
theorem pubOk_any (sc y h : Int) (w : World) (hy : U64 y) :
    Calls Tryz.prog 25 #[kpv sc y h] w fun e w' => e = .returned (.bool (decide (pubP sc y h))) ∧ Below w.heap.size w w' := by
  have hbb : Below w.heap.size w (w.alloc (.cells #[.int .i64 sc, .int .u64 y, .int .i64 h] 36)) := (Below.refl _ _).alloc (Nat.le_refl _) _
  obtain ⟨d, hd⟩ : ∃ d, d = decide (pubP sc y h) := ⟨_, rfl⟩
  have PS := fun W => pubScheme_any sc y h W hy
  rw [← hd]
  have HD : Hid (decide (pubP sc y h) = d) := hd.symm
  clear hd
  unfold kpv at PS ⊢
  go_enter Tryz.func25, Tryz.ntmps25
  go_wp2_with fail
  refine (PS _).mono ?_
  rintro e w2 ⟨rfl, hb2⟩
  rw [HD.out]
  go_wp2
  go_ret
  exact ⟨rfl, keepT hbb hb2⟩

end Go.Proofs.YtoldngiclmidaaaGreatDoor

namespace Go.Proofs.YtoldngiclmidaaaGreatDoor
open Go.RowKit

/-- An anchor: what it holds. -/
structure AP where
  parts : List PT
  sch : Int
  y : Int
  ht : Int
  per : List GE
  den : List GE
  til : Int
def anv (a1 : Option Addr) (n1 c1 : Nat) (a2 : Option Addr) (n2 c2 : Nat) (a3 : Option Addr) (n3 c3 : Nat) (x : AP) : Value := .agg #[.slice a1 n1 c1, .int .i64 x.sch, .int .u64 x.y, .int .i64 x.ht, .slice a2 n2 c2, .slice a3 n3 c3, .int .i64 x.til]
/-- Its three slices are there. -/
structure Ans (w : World) (a1 : Option Addr) (n1 : Nat) (a2 : Option Addr) (n2 : Nat) (a3 : Option Addr) (n3 : Nat) (x : AP) : Prop where
  nm : Pts w a1 n1 x.parts
  pe : Ges w a2 n2 x.per
  de : Ges w a3 n3 x.den
  u : U64 x.y
theorem Ans.kept {w w' : World} {a1 : Option Addr} {n1 : Nat} {a2 : Option Addr} {n2 : Nat} {a3 : Option Addr} {n3 : Nat} {x : AP} (h : Ans w a1 n1 a2 n2 a3 n3 x) (hb : Below w.heap.size w w') : Ans w' a1 n1 a2 n2 a3 n3 x := ⟨h.nm.kept hb, h.pe.kept hb, h.de.kept hb, h.u⟩
def AnOk (n1 n2 n3 : Nat) (x : AP) : Prop := n1 ≤ 1048576 ∧ (∀ k, k < n1 → (x.parts.getD k default).val.size ≤ 1048576) ∧ n2 ≤ 1048576 ∧ (∀ k, k < n2 → GeOk (x.per.getD k default)) ∧ n3 ≤ 1048576 ∧ (∀ k, k < n3 → GeOk (x.den.getD k default))

set_option maxRecDepth 10000 in
set_option maxHeartbeats 2000000 in
theorem szAnchor_any (a1 : Option Addr) (n1 c1 : Nat) (a2 : Option Addr) (n2 c2 : Nat) (a3 : Option Addr) (n3 c3 : Nat) (x : AP) (lf : Int) (w : World) (h : Ans w a1 n1 a2 n2 a3 n3 x) (hl0 : 0 ≤ lf) (hl1 : lf ≤ 1048576) :
    Calls Tryz.prog 5 #[anv a1 n1 c1 a2 n2 c2 a3 n3 c3 x, .int .i64 lf] w fun e w' => ∃ r, e = .returned (.int .i64 r) ∧ (r < 0 ∨ (0 ≤ r ∧ r ≤ 1048576 ∧ AnOk n1 n2 n3 x)) ∧ Below w.heap.size w w' := by
  unfold anv
  have HK : Hid (Ans w a1 n1 a2 n2 a3 n3 x) := h
  clear h
  obtain ⟨w0, hw0⟩ : ∃ w0, w0 = w.alloc (.cells #[.slice a1 n1 c1, .int .i64 x.sch, .int .u64 x.y, .int .i64 x.ht, .slice a2 n2 c2, .slice a3 n3 c3, .int .i64 x.til] 30) := ⟨_, rfl⟩
  have hb0 : Below w.heap.size w w0 := by rw [hw0]; exact (Below.refl _ _).alloc (Nat.le_refl _) _
  have hh0 : w0.heap[w.heap.size]? = some (.cells #[.slice a1 n1 c1, .int .i64 x.sch, .int .u64 x.y, .int .i64 x.ht, .slice a2 n2 c2, .slice a3 n3 c3, .int .i64 x.til] 30) := by rw [hw0]; exact heap_alloc_new w _
  have hl0' : w.heap.size < w0.heap.size := (Array.getElem?_eq_some_iff.1 hh0).1
  go_enter Tryz.func5, Tryz.ntmps5
  go_wp2_with fail
  rw [← hw0]
  clear hw0
  refine (szName_any a1 n1 c1 x.parts lf _ (HK.out.kept hb0).nm hl0 hl1).mono ?_
  rintro e w1 ⟨r1, rfl, hr1, hb1⟩
  have B1 : Below w.heap.size w w1 := hb0.trans (hb1.mono hb0.size)
  have hh1 := (hb1.block _ hl0').trans hh0
  have c4' : w1.cell? ⟨w.heap.size, 4, none⟩ = some (.slice a2 n2 c2) := (cell_of_row _ _ 4 _ 30 (0, 0) hh1).trans rfl
  by_cases hneg : r1 < 0
  · clear hr1 hh1 hh0 hb0 hb1
    go_wp2
    go_ret
    exact ⟨_, rfl, .inl (by decide), B1⟩
  · have hr1' : 0 ≤ r1 ∧ r1 ≤ 1048576 := by omega
    have HR1 : Hid (n1 ≤ 1048576 ∧ ∀ k, k < n1 → (x.parts.getD k default).val.size ≤ 1048576) := by rcases hr1 with h | h; exact absurd h hneg; exact h.2.2
    have hl1' : w.heap.size < w1.heap.size := (Array.getElem?_eq_some_iff.1 hh1).1
    have HH1 : Hid (_ = _) := hh1
    have HB1 : Hid (Below w.heap.size w w1) := B1
    clear hr1 hh0 hb0 hb1 hh1 B1
    go_wp2_with fail
    refine (szGenNameS_any a2 n2 c2 x.per r1 _ (HK.out.kept HB1.out).pe hr1'.1 hr1'.2).mono ?_
    rintro e w2 ⟨r2, rfl, hr2, hb2⟩
    have B2 : Below w.heap.size w w2 := HB1.out.trans (hb2.mono HB1.out.size)
    have hh2 := (hb2.block _ hl1').trans HH1.out
    have c5' : w2.cell? ⟨w.heap.size, 5, none⟩ = some (.slice a3 n3 c3) := (cell_of_row _ _ 5 _ 30 (0, 0) hh2).trans rfl
    by_cases hneg2 : r2 < 0
    · clear hr2 hh2 hb2
      go_wp2
      go_ret
      exact ⟨_, rfl, .inl (by decide), B2⟩
    · have hr2' : 0 ≤ r2 ∧ r2 ≤ 1048576 := by omega
      have HR2 : Hid (n2 ≤ 1048576 ∧ ∀ k, k < n2 → GeOk (x.per.getD k default)) := by rcases hr2 with h | h; exact absurd h hneg2; exact h.2.2
      have HB2 : Hid (Below w.heap.size w w2) := B2
      clear hr2 hh2 hb2 B2
      go_wp2_with fail
      refine (szGenNameS_any a3 n3 c3 x.den r2 _ (HK.out.kept HB2.out).de hr2'.1 hr2'.2).mono ?_
      rintro e w3 ⟨r3, rfl, hr3, hb3⟩
      have HB3 : Hid (Below w.heap.size w w3) := HB2.out.trans (hb3.mono HB2.out.size)
      clear hb3
      by_cases hneg3 : r3 < 0
      · clear hr3
        go_wp2
        go_ret
        exact ⟨_, rfl, .inl (by decide), HB3.out⟩
      · have hr3' : 0 ≤ r3 ∧ r3 ≤ 1048576 := by omega
        have HR3 : Hid (n3 ≤ 1048576 ∧ ∀ k, k < n3 → GeOk (x.den.getD k default)) := by rcases hr3 with h | h; exact absurd h hneg3; exact h.2.2
        clear hr3
        go_wp2
        go_ret
        exact ⟨_, rfl, .inr ⟨hr3'.1, hr3'.2, HR1.out.1, HR1.out.2, HR2.out.1, HR2.out.2, HR3.out.1, HR3.out.2⟩, HB3.out⟩

theorem results_an {fn : Func} {t : Tmp} (h : fn.results = #[.cell t 39]) (tmps : Array Value) (g : Nat) (ht : tmps.getD t undef = .pointer (some ⟨g, 0, none⟩)) (w : World) (c0 c1 c2 c3 c4 c5 c6 : Value)
    (hb : w.heap[g]? = some (.cells #[c0, c1, c2, c3, c4, c5, c6] 39 (0, 0))) : (results fn tmps).run Tryz.prog w = .ok (.agg #[c0, c1, c2, c3, c4, c5, c6]) w := by
  have d0 : w.cell? ⟨g, 0, none⟩ = some c0 := (cell_of_row _ g 0 _ 39 (0, 0) hb).trans rfl
  have d1 : w.cell? ⟨g, 1, none⟩ = some c1 := (cell_of_row _ g 1 _ 39 (0, 0) hb).trans rfl
  have d2 : w.cell? ⟨g, 2, none⟩ = some c2 := (cell_of_row _ g 2 _ 39 (0, 0) hb).trans rfl
  have d3 : w.cell? ⟨g, 3, none⟩ = some c3 := (cell_of_row _ g 3 _ 39 (0, 0) hb).trans rfl
  have d4 : w.cell? ⟨g, 4, none⟩ = some c4 := (cell_of_row _ g 4 _ 39 (0, 0) hb).trans rfl
  have d5 : w.cell? ⟨g, 5, none⟩ = some c5 := (cell_of_row _ g 5 _ 39 (0, 0) hb).trans rfl
  have d6 : w.cell? ⟨g, 6, none⟩ = some c6 := (cell_of_row _ g 6 _ 39 (0, 0) hb).trans rfl
  clear hb
  have ht' : tmps[t]?.getD undef = .pointer (some ⟨g, 0, none⟩) := by rw [← ht]; simp
  simp [results, h, go_sem, ht', d0, d1, d2, d3, d4, d5, d6]

theorem stab_ge {B g n : Nat} {xs : List GE} (hB : B ≤ g) : Stab B (fun W => GePre W g n xs) := fun W W' e s h j hj => by
  obtain ⟨gn, nn, h1, h3, h4⟩ := h j hj
  have hlt : g < W.heap.size := World.block_lt_of_cell? W _ h3.c0
  exact ⟨gn, nn, h1, h3.of (fun i => by simp [World.cell?, e g hB hlt]), pts_move (by omega) W W' e s h4⟩

/-- An anchor as it is copied. -/
structure TA (w W : World) (a1 : Option Addr) (n1 c1 : Nat) (a2 : Option Addr) (n2 c2 : Nat) (a3 : Option Addr) (n3 c3 : Nat) (x : AP) (R : World → Prop) (vs : Array Value) : Prop where
  b0 : W.heap[w.heap.size]? = some (.cells #[.slice a1 n1 c1, .int .i64 x.sch, .int .u64 x.y, .int .i64 x.ht, .slice a2 n2 c2, .slice a3 n3 c3, .int .i64 x.til] 30 (0, 0))
  b1 : W.heap[w.heap.size + 1]? = some (.cells #[.slice none 0 0, .int .i64 0, .int .u64 0, .int .i64 0, .slice none 0 0, .slice none 0 0, .int .i64 0] 39 (0, 0))
  b2 : W.heap[w.heap.size + 1 + 1]? = some (.cells vs 39 (0, 0))
  st : Stab (w.heap.size + 3) R
  r : R W
  below : Below w.heap.size w W
  lt : w.heap.size + 3 ≤ W.heap.size
theorem TA.set {w W : World} {a1 : Option Addr} {n1 c1 : Nat} {a2 : Option Addr} {n2 c2 : Nat} {a3 : Option Addr} {n3 c3 : Nat} {x : AP} {R : World → Prop} {vs : Array Value} (h : TA w W a1 n1 c1 a2 n2 c2 a3 n3 c3 x R vs) {us : Array Value} (j : Nat) (u : Value) (e : vs.setIfInBounds j u = us) : TA w (W.setCell ⟨w.heap.size + 1 + 1, j, none⟩ u) a1 n1 c1 a2 n2 c2 a3 n3 c3 x R us := by
  have f : ∀ l, l ≠ w.heap.size + 2 → (W.setCell ⟨w.heap.size + 1 + 1, j, none⟩ u).heap[l]? = W.heap[l]? := fun l hl => Below.heap_setCell _ _ _ _ (by show l ≠ w.heap.size + 1 + 1; omega)
  refine ⟨(f _ (by omega)).trans h.b0, (f _ (by omega)).trans h.b1, ?_, h.st, h.st W _ (fun l hl _ => f l (by omega)) (by simp) h.r, ⟨h.below.os, h.below.tape, h.below.output, by simpa [World.setCell] using h.below.size, fun l hl => (f l (by omega)).trans (h.below.block l hl)⟩, by simpa [World.setCell] using h.lt⟩
  rw [← e]
  exact heap_setCell_same W (w.heap.size + 1 + 1) j _ 39 u h.b2
theorem TA.on {w W : World} {a1 : Option Addr} {n1 c1 : Nat} {a2 : Option Addr} {n2 c2 : Nat} {a3 : Option Addr} {n3 c3 : Nat} {x : AP} {R : World → Prop} {vs : Array Value} {W' : World} (h : TA w W a1 n1 c1 a2 n2 c2 a3 n3 c3 x R vs) (hb : Below W.heap.size W W') : TA w W' a1 n1 c1 a2 n2 c2 a3 n3 c3 x R vs := by
  have hl := h.lt
  have hs := hb.size
  exact ⟨(hb.block _ (by omega)).trans h.b0, (hb.block _ (by omega)).trans h.b1, (hb.block _ (by omega)).trans h.b2, h.st, h.st W W' (fun l _ hl => hb.block l hl) hs h.r, h.below.trans (hb.mono h.below.size), by omega⟩
theorem TA.more {w W : World} {a1 : Option Addr} {n1 c1 : Nat} {a2 : Option Addr} {n2 c2 : Nat} {a3 : Option Addr} {n3 c3 : Nat} {x : AP} {R : World → Prop} {vs : Array Value} {Q : World → Prop} (h : TA w W a1 n1 c1 a2 n2 c2 a3 n3 c3 x R vs) (s : Stab (w.heap.size + 3) Q) (q : Q W) : TA w W a1 n1 c1 a2 n2 c2 a3 n3 c3 x Q vs := ⟨h.b0, h.b1, h.b2, s, q, h.below, h.lt⟩
theorem TA.out {w W : World} {a1 : Option Addr} {n1 c1 : Nat} {a2 : Option Addr} {n2 c2 : Nat} {a3 : Option Addr} {n3 c3 : Nat} {x : AP} {R : World → Prop} {vs : Array Value} (h : TA w W a1 n1 c1 a2 n2 c2 a3 n3 c3 x R vs) (j : Nat) : W.cell? ⟨w.heap.size + 1 + 1, j, none⟩ = vs[j]? ∧ W.frozen? ⟨w.heap.size + 1 + 1, j, none⟩ = false ∧ W.cell? ⟨w.heap.size, j, none⟩ = (#[.slice a1 n1 c1, .int .i64 x.sch, .int .u64 x.y, .int .i64 x.ht, .slice a2 n2 c2, .slice a3 n3 c3, .int .i64 x.til] : Array Value)[j]? :=
  ⟨cell_of_row _ _ j _ 39 (0, 0) h.b2, frozen_of_row W _ j _ 39 h.b2, cell_of_row _ _ j _ 30 (0, 0) h.b0⟩
theorem TA.res {w W : World} {a1 : Option Addr} {n1 c1 : Nat} {a2 : Option Addr} {n2 c2 : Nat} {a3 : Option Addr} {n3 c3 : Nat} {x : AP} {R : World → Prop} {vs : Array Value} (h : TA w W a1 n1 c1 a2 n2 c2 a3 n3 c3 x R vs) (j : Nat) : W.cell? ⟨w.heap.size + 1, j, none⟩ = (#[.slice none 0 0, .int .i64 0, .int .u64 0, .int .i64 0, .slice none 0 0, .slice none 0 0, .int .i64 0] : Array Value)[j]? ∧ W.frozen? ⟨w.heap.size + 1, j, none⟩ = false :=
  ⟨cell_of_row _ _ j _ 39 (0, 0) h.b1, frozen_of_row W _ j _ 39 h.b1⟩

set_option maxRecDepth 10000 in
set_option maxHeartbeats 4000000 in
theorem toAnchor_any (a1 : Option Addr) (n1 c1 : Nat) (a2 : Option Addr) (n2 c2 : Nat) (a3 : Option Addr) (n3 c3 : Nat) (x : AP) (w : World) (h : Ans w a1 n1 a2 n2 a3 n3 x) (hz : AnOk n1 n2 n3 x) :
    Calls Tryz.prog 7 #[anv a1 n1 c1 a2 n2 c2 a3 n3 c3 x] w fun e w' => ∃ b1 b2 b3, e = .returned (anv b1 n1 n1 b2 n2 n2 b3 n3 n3 x) ∧ Ans w' b1 n1 b2 n2 b3 n3 x ∧ Below w.heap.size w w' := by
  have HK : Hid (Ans w a1 n1 a2 n2 a3 n3 x) := h
  have HZ : Hid (AnOk n1 n2 n3 x) := hz
  clear h hz
  unfold anv
  obtain ⟨W0, hW0⟩ : ∃ W0, W0 = (((w.alloc (.cells #[.slice a1 n1 c1, .int .i64 x.sch, .int .u64 x.y, .int .i64 x.ht, .slice a2 n2 c2, .slice a3 n3 c3, .int .i64 x.til] 30)).alloc (.cells #[.slice none 0 0, .int .i64 0, .int .u64 0, .int .i64 0, .slice none 0 0, .slice none 0 0, .int .i64 0] 39)).alloc (.cells #[.slice none 0 0, .int .i64 0, .int .u64 0, .int .i64 0, .slice none 0 0, .slice none 0 0, .int .i64 0] 39)) := ⟨_, rfl⟩
  have hB0 : Below w.heap.size w W0 := by rw [hW0]; exact three_below _ _ _ _
  have hS0 : W0.heap.size = w.heap.size + 3 := by rw [hW0]; simp
  obtain ⟨b0, b1, b2⟩ := three_blocks' w (.cells #[.slice a1 n1 c1, .int .i64 x.sch, .int .u64 x.y, .int .i64 x.ht, .slice a2 n2 c2, .slice a3 n3 c3, .int .i64 x.til] 30) (.cells #[.slice none 0 0, .int .i64 0, .int .u64 0, .int .i64 0, .slice none 0 0, .slice none 0 0, .int .i64 0] 39) (.cells #[.slice none 0 0, .int .i64 0, .int .u64 0, .int .i64 0, .slice none 0 0, .slice none 0 0, .int .i64 0] 39)
  rw [← hW0] at b0 b1 b2
  go_enter Tryz.func7, Tryz.ntmps7
  go_wp2_with fail
  rw [← hW0]
  clear hW0
  refine (toName_at a1 n1 c1 x.parts _ (HK.out.kept hB0).nm HZ.out.1).mono ?_
  rintro e w1 ⟨g1, rfl, hg1, ho1, hb1⟩
  have hs1 := hb1.size
  have T1 : Hid (TA w w1 a1 n1 c1 a2 n2 c2 a3 n3 c3 x (fun W => Pts W (some ⟨g1, 0, none⟩) n1 x.parts) #[.slice none 0 0, .int .i64 0, .int .u64 0, .int .i64 0, .slice none 0 0, .slice none 0 0, .int .i64 0]) := ⟨heap_kept' hb1 (by omega) b0, heap_kept' hb1 (by omega) b1, heap_kept' hb1 (by omega) b2, stab_pts (by omega), ho1, hB0.trans (hb1.mono (by omega)), by omega⟩
  clear b0 b1 b2 ho1 hb1 hB0 hg1 hs1 hS0
  unfold nmv
  obtain ⟨o0, f0, l0⟩ := T1.out.out 0
  have o0 : w1.cell? ⟨w.heap.size + 1 + 1, 0, none⟩ = some (.slice none 0 0) := o0
  have l0 : w1.cell? ⟨w.heap.size, 0, none⟩ = some (.slice a1 n1 c1) := l0
  have m1 := T1.out.lt
  obtain ⟨w2, hw2⟩ : ∃ W, W = (w1.setCell ⟨w.heap.size + 1 + 1, 0, none⟩ (.slice (some ⟨g1, 0, none⟩) n1 n1)) := ⟨_, rfl⟩
  have T2 : Hid (TA w w2 a1 n1 c1 a2 n2 c2 a3 n3 c3 x (fun W => Pts W (some ⟨g1, 0, none⟩) n1 x.parts) #[.slice (some ⟨g1, 0, none⟩) n1 n1, .int .i64 0, .int .u64 0, .int .i64 0, .slice none 0 0, .slice none 0 0, .int .i64 0]) := by rw [hw2]; exact (T1.out.set 0 _ rfl)
  have HW2 : Hid (_ = _) := hw2
  clear hw2
  go_upto_region 3 with fail
  rw [← HW2.out]
  clear HW2 o0 f0 l0 m1 T1
  obtain ⟨_, _, l1⟩ := T2.out.out 1
  obtain ⟨_, _, l2⟩ := T2.out.out 2
  obtain ⟨_, _, l3⟩ := T2.out.out 3
  have l1 : w2.cell? ⟨w.heap.size, 1, none⟩ = some (.int .i64 x.sch) := l1
  have l2 : w2.cell? ⟨w.heap.size, 2, none⟩ = some (.int .u64 x.y) := l2
  have l3 : w2.cell? ⟨w.heap.size, 3, none⟩ = some (.int .i64 x.ht) := l3
  have m2 := T2.out.lt
  go_wp2_with fail
  refine (toPub_any x.sch x.y x.ht _).mono ?_
  rintro e w3 ⟨rfl, hb3⟩
  have T3 : Hid (TA w w3 a1 n1 c1 a2 n2 c2 a3 n3 c3 x (fun W => Pts W (some ⟨g1, 0, none⟩) n1 x.parts) #[.slice (some ⟨g1, 0, none⟩) n1 n1, .int .i64 0, .int .u64 0, .int .i64 0, .slice none 0 0, .slice none 0 0, .int .i64 0]) := T2.out.on hb3
  clear hb3 T2 l1 l2 l3 m2
  unfold kpv
  obtain ⟨o1, f1, l1⟩ := T3.out.out 1
  have o1 : w3.cell? ⟨w.heap.size + 1 + 1, 1, none⟩ = some (.int .i64 0) := o1
  have l1 : w3.cell? ⟨w.heap.size, 1, none⟩ = some (.int .i64 x.sch) := l1
  obtain ⟨o2, f2, l2⟩ := T3.out.out 2
  have o2 : w3.cell? ⟨w.heap.size + 1 + 1, 2, none⟩ = some (.int .u64 0) := o2
  have l2 : w3.cell? ⟨w.heap.size, 2, none⟩ = some (.int .u64 x.y) := l2
  obtain ⟨o3, f3, l3⟩ := T3.out.out 3
  have o3 : w3.cell? ⟨w.heap.size + 1 + 1, 3, none⟩ = some (.int .i64 0) := o3
  have l3 : w3.cell? ⟨w.heap.size, 3, none⟩ = some (.int .i64 x.ht) := l3
  have m3 := T3.out.lt
  obtain ⟨w4, hw4⟩ : ∃ W, W = (((w3.setCell ⟨w.heap.size + 1 + 1, 1, none⟩ (.int .i64 x.sch)).setCell ⟨w.heap.size + 1 + 1, 2, none⟩ (.int .u64 x.y)).setCell ⟨w.heap.size + 1 + 1, 3, none⟩ (.int .i64 x.ht)) := ⟨_, rfl⟩
  have T4 : Hid (TA w w4 a1 n1 c1 a2 n2 c2 a3 n3 c3 x (fun W => Pts W (some ⟨g1, 0, none⟩) n1 x.parts) #[.slice (some ⟨g1, 0, none⟩) n1 n1, .int .i64 x.sch, .int .u64 x.y, .int .i64 x.ht, .slice none 0 0, .slice none 0 0, .int .i64 0]) := by rw [hw4]; exact (((T3.out.set 1 _ rfl).set 2 _ rfl).set 3 _ rfl)
  have HW4 : Hid (_ = _) := hw4
  clear hw4
  go_upto_region 4 with fail
  rw [← HW4.out]
  clear HW4 o1 f1 l1 o2 f2 l2 o3 f3 l3 m3 T3
  obtain ⟨_, _, l4⟩ := T4.out.out 4
  have l4 : w4.cell? ⟨w.heap.size, 4, none⟩ = some (.slice a2 n2 c2) := l4
  have m4 := T4.out.lt
  go_wp2_with fail
  refine (toGenNameS_at a2 n2 c2 x.per _ (HK.out.kept T4.out.below).pe HZ.out.2.2.1 HZ.out.2.2.2.1).mono ?_
  rintro e w5 ⟨rfl, hp, hl, hb⟩
  obtain ⟨g2, hg⟩ : ∃ g, g = w4.heap.size := ⟨_, rfl⟩
  rw [← hg] at hp hl ⊢
  have hg2 : w.heap.size + 3 ≤ g2 := by omega
  have T5 : Hid (TA w w5 a1 n1 c1 a2 n2 c2 a3 n3 c3 x (fun W => Pts W (some ⟨g1, 0, none⟩) n1 x.parts ∧ (GePre W g2 n2 x.per ∧ g2 < W.heap.size)) #[.slice (some ⟨g1, 0, none⟩) n1 n1, .int .i64 x.sch, .int .u64 x.y, .int .i64 x.ht, .slice none 0 0, .slice none 0 0, .int .i64 0]) := (T4.out.on hb).more (stab_and T4.out.st (stab_and (stab_ge hg2) (stab_lt _ _))) ⟨(T4.out.on hb).r, hp, hl⟩
  clear hb hp hl hg T4 l4 m4
  obtain ⟨o4, f4, l4⟩ := T5.out.out 4
  have o4 : w5.cell? ⟨w.heap.size + 1 + 1, 4, none⟩ = some (.slice none 0 0) := o4
  have l4 : w5.cell? ⟨w.heap.size, 4, none⟩ = some (.slice a2 n2 c2) := l4
  have m5 := T5.out.lt
  obtain ⟨w6, hw6⟩ : ∃ W, W = (w5.setCell ⟨w.heap.size + 1 + 1, 4, none⟩ (.slice (some ⟨g2, 0, none⟩) n2 n2)) := ⟨_, rfl⟩
  have T6 : Hid (TA w w6 a1 n1 c1 a2 n2 c2 a3 n3 c3 x (fun W => Pts W (some ⟨g1, 0, none⟩) n1 x.parts ∧ (GePre W g2 n2 x.per ∧ g2 < W.heap.size)) #[.slice (some ⟨g1, 0, none⟩) n1 n1, .int .i64 x.sch, .int .u64 x.y, .int .i64 x.ht, .slice (some ⟨g2, 0, none⟩) n2 n2, .slice none 0 0, .int .i64 0]) := by rw [hw6]; exact (T5.out.set 4 _ rfl)
  have HW6 : Hid (_ = _) := hw6
  clear hw6
  go_upto_region 5 with fail
  rw [← HW6.out]
  clear HW6 o4 f4 l4 m5 T5
  obtain ⟨_, _, l5⟩ := T6.out.out 5
  have l5 : w6.cell? ⟨w.heap.size, 5, none⟩ = some (.slice a3 n3 c3) := l5
  have m6 := T6.out.lt
  go_wp2_with fail
  refine (toGenNameS_at a3 n3 c3 x.den _ (HK.out.kept T6.out.below).de HZ.out.2.2.2.2.1 HZ.out.2.2.2.2.2).mono ?_
  rintro e w7 ⟨rfl, hp, hl, hb⟩
  obtain ⟨g3, hg⟩ : ∃ g, g = w6.heap.size := ⟨_, rfl⟩
  rw [← hg] at hp hl ⊢
  have hg3 : w.heap.size + 3 ≤ g3 := by omega
  have T7 : Hid (TA w w7 a1 n1 c1 a2 n2 c2 a3 n3 c3 x (fun W => (Pts W (some ⟨g1, 0, none⟩) n1 x.parts ∧ (GePre W g2 n2 x.per ∧ g2 < W.heap.size)) ∧ (GePre W g3 n3 x.den ∧ g3 < W.heap.size)) #[.slice (some ⟨g1, 0, none⟩) n1 n1, .int .i64 x.sch, .int .u64 x.y, .int .i64 x.ht, .slice (some ⟨g2, 0, none⟩) n2 n2, .slice none 0 0, .int .i64 0]) := (T6.out.on hb).more (stab_and T6.out.st (stab_and (stab_ge hg3) (stab_lt _ _))) ⟨(T6.out.on hb).r, hp, hl⟩
  clear hb hp hl hg T6 l5 m6
  obtain ⟨o5, f5, l5⟩ := T7.out.out 5
  have o5 : w7.cell? ⟨w.heap.size + 1 + 1, 5, none⟩ = some (.slice none 0 0) := o5
  have l5 : w7.cell? ⟨w.heap.size, 5, none⟩ = some (.slice a3 n3 c3) := l5
  have m7 := T7.out.lt
  obtain ⟨w8, hw8⟩ : ∃ W, W = (w7.setCell ⟨w.heap.size + 1 + 1, 5, none⟩ (.slice (some ⟨g3, 0, none⟩) n3 n3)) := ⟨_, rfl⟩
  have T8 : Hid (TA w w8 a1 n1 c1 a2 n2 c2 a3 n3 c3 x (fun W => (Pts W (some ⟨g1, 0, none⟩) n1 x.parts ∧ (GePre W g2 n2 x.per ∧ g2 < W.heap.size)) ∧ (GePre W g3 n3 x.den ∧ g3 < W.heap.size)) #[.slice (some ⟨g1, 0, none⟩) n1 n1, .int .i64 x.sch, .int .u64 x.y, .int .i64 x.ht, .slice (some ⟨g2, 0, none⟩) n2 n2, .slice (some ⟨g3, 0, none⟩) n3 n3, .int .i64 0]) := by rw [hw8]; exact (T7.out.set 5 _ rfl)
  have HW8 : Hid (_ = _) := hw8
  clear hw8
  go_upto_region 6 with fail
  rw [← HW8.out]
  clear HW8 o5 f5 l5 m7 T7
  obtain ⟨o6, f6, l6⟩ := T8.out.out 6
  have o6 : w8.cell? ⟨w.heap.size + 1 + 1, 6, none⟩ = some (.int .i64 0) := o6
  have l6 : w8.cell? ⟨w.heap.size, 6, none⟩ = some (.int .i64 x.til) := l6
  have m8 := T8.out.lt
  obtain ⟨w9, hw9⟩ : ∃ W, W = (w8.setCell ⟨w.heap.size + 1 + 1, 6, none⟩ (.int .i64 x.til)) := ⟨_, rfl⟩
  have T9 : Hid (TA w w9 a1 n1 c1 a2 n2 c2 a3 n3 c3 x (fun W => (Pts W (some ⟨g1, 0, none⟩) n1 x.parts ∧ (GePre W g2 n2 x.per ∧ g2 < W.heap.size)) ∧ (GePre W g3 n3 x.den ∧ g3 < W.heap.size)) #[.slice (some ⟨g1, 0, none⟩) n1 n1, .int .i64 x.sch, .int .u64 x.y, .int .i64 x.ht, .slice (some ⟨g2, 0, none⟩) n2 n2, .slice (some ⟨g3, 0, none⟩) n3 n3, .int .i64 x.til]) := by rw [hw9]; exact (T8.out.set 6 _ rfl)
  have HW9 : Hid (_ = _) := hw9
  clear hw9
  go_upto_region 7 with fail
  rw [← HW9.out]
  clear HW9 o6 f6 l6 m8 T8
  have o0 : w9.cell? ⟨w.heap.size + 1 + 1, 0, none⟩ = some (.slice (some ⟨g1, 0, none⟩) n1 n1) := (T9.out.out 0).1
  have r0 : w9.cell? ⟨w.heap.size + 1, 0, none⟩ = some (.slice none 0 0) := (T9.out.res 0).1
  have f0 : w9.frozen? ⟨w.heap.size + 1, 0, none⟩ = false := (T9.out.res 0).2
  have o1 : w9.cell? ⟨w.heap.size + 1 + 1, 1, none⟩ = some (.int .i64 x.sch) := (T9.out.out 1).1
  have r1 : w9.cell? ⟨w.heap.size + 1, 1, none⟩ = some (.int .i64 0) := (T9.out.res 1).1
  have f1 : w9.frozen? ⟨w.heap.size + 1, 1, none⟩ = false := (T9.out.res 1).2
  have o2 : w9.cell? ⟨w.heap.size + 1 + 1, 2, none⟩ = some (.int .u64 x.y) := (T9.out.out 2).1
  have r2 : w9.cell? ⟨w.heap.size + 1, 2, none⟩ = some (.int .u64 0) := (T9.out.res 2).1
  have f2 : w9.frozen? ⟨w.heap.size + 1, 2, none⟩ = false := (T9.out.res 2).2
  have o3 : w9.cell? ⟨w.heap.size + 1 + 1, 3, none⟩ = some (.int .i64 x.ht) := (T9.out.out 3).1
  have r3 : w9.cell? ⟨w.heap.size + 1, 3, none⟩ = some (.int .i64 0) := (T9.out.res 3).1
  have f3 : w9.frozen? ⟨w.heap.size + 1, 3, none⟩ = false := (T9.out.res 3).2
  have o4 : w9.cell? ⟨w.heap.size + 1 + 1, 4, none⟩ = some (.slice (some ⟨g2, 0, none⟩) n2 n2) := (T9.out.out 4).1
  have r4 : w9.cell? ⟨w.heap.size + 1, 4, none⟩ = some (.slice none 0 0) := (T9.out.res 4).1
  have f4 : w9.frozen? ⟨w.heap.size + 1, 4, none⟩ = false := (T9.out.res 4).2
  have o5 : w9.cell? ⟨w.heap.size + 1 + 1, 5, none⟩ = some (.slice (some ⟨g3, 0, none⟩) n3 n3) := (T9.out.out 5).1
  have r5 : w9.cell? ⟨w.heap.size + 1, 5, none⟩ = some (.slice none 0 0) := (T9.out.res 5).1
  have f5 : w9.frozen? ⟨w.heap.size + 1, 5, none⟩ = false := (T9.out.res 5).2
  have o6 : w9.cell? ⟨w.heap.size + 1 + 1, 6, none⟩ = some (.int .i64 x.til) := (T9.out.out 6).1
  have r6 : w9.cell? ⟨w.heap.size + 1, 6, none⟩ = some (.int .i64 0) := (T9.out.res 6).1
  have f6 : w9.frozen? ⟨w.heap.size + 1, 6, none⟩ = false := (T9.out.res 6).2
  have hl9 := T9.out.lt
  have HLN : Hid (x.per.length = n2 ∧ n2 ≤ 9223372036854775807 ∧ x.den.length = n3 ∧ n3 ≤ 9223372036854775807 ∧ U64 x.y) := ⟨HK.out.pe.len, HK.out.pe.max, HK.out.de.len, HK.out.de.max, HK.out.u⟩
  clear HK
  go_wp2
  try simp only [Exit.inBlock, Exit.then]
  have q0 := heap_setCell_same w9 (w.heap.size + 1) 0 _ 39 (.slice (some ⟨g1, 0, none⟩) n1 n1) T9.out.b1
  have q1 := heap_setCell_same _ (w.heap.size + 1) 1 _ 39 (.int .i64 x.sch) q0
  have q2 := heap_setCell_same _ (w.heap.size + 1) 2 _ 39 (.int .u64 x.y) q1
  have q3 := heap_setCell_same _ (w.heap.size + 1) 3 _ 39 (.int .i64 x.ht) q2
  have q4 := heap_setCell_same _ (w.heap.size + 1) 4 _ 39 (.slice (some ⟨g2, 0, none⟩) n2 n2) q3
  have q5 := heap_setCell_same _ (w.heap.size + 1) 5 _ 39 (.slice (some ⟨g3, 0, none⟩) n3 n3) q4
  have q6 := heap_setCell_same _ (w.heap.size + 1) 6 _ 39 (.int .i64 x.til) q5
  have tt : Touch (w.heap.size + 1) (w.heap.size + 2) w9 (((((((w9.setCell ⟨w.heap.size + 1, 0, none⟩ (.slice (some ⟨g1, 0, none⟩) n1 n1)).setCell ⟨w.heap.size + 1, 1, none⟩ (.int .i64 x.sch)).setCell ⟨w.heap.size + 1, 2, none⟩ (.int .u64 x.y)).setCell ⟨w.heap.size + 1, 3, none⟩ (.int .i64 x.ht)).setCell ⟨w.heap.size + 1, 4, none⟩ (.slice (some ⟨g2, 0, none⟩) n2 n2)).setCell ⟨w.heap.size + 1, 5, none⟩ (.slice (some ⟨g3, 0, none⟩) n3 n3)).setCell ⟨w.heap.size + 1, 6, none⟩ (.int .i64 x.til)) := (((((((touch_set' _ _ _ _ (Nat.le_refl _) (Nat.lt_succ_self _)).trans (touch_set' _ _ _ _ (Nat.le_refl _) (Nat.lt_succ_self _))).trans (touch_set' _ _ _ _ (Nat.le_refl _) (Nat.lt_succ_self _))).trans (touch_set' _ _ _ _ (Nat.le_refl _) (Nat.lt_succ_self _))).trans (touch_set' _ _ _ _ (Nat.le_refl _) (Nat.lt_succ_self _))).trans (touch_set' _ _ _ _ (Nat.le_refl _) (Nat.lt_succ_self _))).trans (touch_set' _ _ _ _ (Nat.le_refl _) (Nat.lt_succ_self _)))
  have hr := T9.out.st w9 (((((((w9.setCell ⟨w.heap.size + 1, 0, none⟩ (.slice (some ⟨g1, 0, none⟩) n1 n1)).setCell ⟨w.heap.size + 1, 1, none⟩ (.int .i64 x.sch)).setCell ⟨w.heap.size + 1, 2, none⟩ (.int .u64 x.y)).setCell ⟨w.heap.size + 1, 3, none⟩ (.int .i64 x.ht)).setCell ⟨w.heap.size + 1, 4, none⟩ (.slice (some ⟨g2, 0, none⟩) n2 n2)).setCell ⟨w.heap.size + 1, 5, none⟩ (.slice (some ⟨g3, 0, none⟩) n3 n3)).setCell ⟨w.heap.size + 1, 6, none⟩ (.int .i64 x.til)) (fun l hl hl2 => tt.block l hl2 (.inr (by omega))) tt.size T9.out.r
  refine bodyPost_ret (results_an rfl _ (w.heap.size + 1) rfl _ _ _ _ _ _ _ _ q6) rfl ⟨_, _, _, rfl, ⟨hr.1.1, hr.1.2.1.ges HLN.out.1 HLN.out.2.1 hr.1.2.2 HZ.out.2.2.2.1, hr.2.1.ges HLN.out.2.2.1 HLN.out.2.2.2.1 hr.2.2 HZ.out.2.2.2.2.2, HLN.out.2.2.2.2⟩, ?_⟩
  exact T9.out.below.trans (tt.below (by omega) (by omega))

end Go.Proofs.YtoldngiclmidaaaGreatDoor

namespace Go.Proofs.YtoldngiclmidaaaGreatDoor
open Go.RowKit

set_option maxRecDepth 10000 in
set_option maxHeartbeats 4000000 in
theorem eqAnchor_same (a1 : Option Addr) (n1 c1 : Nat) (a2 : Option Addr) (n2 c2 : Nat) (a3 : Option Addr) (n3 c3 : Nat) (b1 : Option Addr) (d1 : Nat) (b2 : Option Addr) (d2 : Nat) (b3 : Option Addr) (d3 : Nat) (x : AP) (w : World) (h : Ans w a1 n1 a2 n2 a3 n3 x) (h2 : Ans w b1 n1 b2 n2 b3 n3 x) :
    Calls Tryz.prog 9 #[anv a1 n1 c1 a2 n2 c2 a3 n3 c3 x, anv b1 n1 d1 b2 n2 d2 b3 n3 d3 x] w fun e w' => e = .returned (.bool true) ∧ Below w.heap.size w w' := by
  have H1 : Hid (Ans w a1 n1 a2 n2 a3 n3 x) := h
  have H2 : Hid (Ans w b1 n1 b2 n2 b3 n3 x) := h2
  clear h h2
  unfold anv
  obtain ⟨W0, hW0⟩ : ∃ W0, W0 = ((w.alloc (.cells #[.slice a1 n1 c1, .int .i64 x.sch, .int .u64 x.y, .int .i64 x.ht, .slice a2 n2 c2, .slice a3 n3 c3, .int .i64 x.til] 39)).alloc (.cells #[.slice b1 n1 d1, .int .i64 x.sch, .int .u64 x.y, .int .i64 x.ht, .slice b2 n2 d2, .slice b3 n3 d3, .int .i64 x.til] 39)) := ⟨_, rfl⟩
  have hbl : Below w.heap.size w W0 := by rw [hW0]; exact ((Below.refl _ _).alloc (Nat.le_refl _) _).alloc (by simp) _
  have b0 := two_blocks w (.cells #[.slice a1 n1 c1, .int .i64 x.sch, .int .u64 x.y, .int .i64 x.ht, .slice a2 n2 c2, .slice a3 n3 c3, .int .i64 x.til] 39) (.cells #[.slice b1 n1 d1, .int .i64 x.sch, .int .u64 x.y, .int .i64 x.ht, .slice b2 n2 d2, .slice b3 n3 d3, .int .i64 x.til] 39)
  rw [← hW0] at b0
  have t1 : (x.til != x.til) = false := by simp
  go_enter Tryz.func9, Tryz.ntmps9
  go_wp2_with fail
  rw [← hW0]
  clear hW0
  refine (eqName_same a1 b1 n1 c1 d1 x.parts _ (H1.out.kept hbl).nm (H2.out.kept hbl).nm).mono ?_
  rintro e w1 ⟨rfl, hb1⟩
  have l0 := (Array.getElem?_eq_some_iff.1 b0.2).1
  have y0 := (hb1.block _ (by omega)).trans b0.1
  have y1 := (hb1.block _ l0).trans b0.2
  have p1 : w1.cell? ⟨w.heap.size, 1, none⟩ = some (.int .i64 x.sch) := (cell_of_row _ _ 1 _ 39 (0, 0) y0).trans rfl
  have q1 : w1.cell? ⟨w.heap.size + 1, 1, none⟩ = some (.int .i64 x.sch) := (cell_of_row _ _ 1 _ 39 (0, 0) y1).trans rfl
  have p2 : w1.cell? ⟨w.heap.size, 2, none⟩ = some (.int .u64 x.y) := (cell_of_row _ _ 2 _ 39 (0, 0) y0).trans rfl
  have q2 : w1.cell? ⟨w.heap.size + 1, 2, none⟩ = some (.int .u64 x.y) := (cell_of_row _ _ 2 _ 39 (0, 0) y1).trans rfl
  have p3 : w1.cell? ⟨w.heap.size, 3, none⟩ = some (.int .i64 x.ht) := (cell_of_row _ _ 3 _ 39 (0, 0) y0).trans rfl
  have q3 : w1.cell? ⟨w.heap.size + 1, 3, none⟩ = some (.int .i64 x.ht) := (cell_of_row _ _ 3 _ 39 (0, 0) y1).trans rfl
  have HB1 : Hid (Below w.heap.size w w1) := hbl.trans (hb1.mono hbl.size)
  have Y0 : Hid (_ = _) := y0
  have Y1 : Hid (_ = _) := y1
  have l1 : w.heap.size + 1 < w1.heap.size := (Array.getElem?_eq_some_iff.1 y1).1
  clear hb1 hbl b0 y0 y1 l0
  go_wp2_with fail
  refine (eqPub_one x.sch x.y x.ht _).mono ?_
  rintro e w2 ⟨rfl, hb2⟩
  have y0 := (hb2.block _ (by omega)).trans Y0.out
  have y1 := (hb2.block _ l1).trans Y1.out
  clear p1 q1 p2 q2 p3 q3
  have p4 : w2.cell? ⟨w.heap.size, 4, none⟩ = some (.slice a2 n2 c2) := (cell_of_row _ _ 4 _ 39 (0, 0) y0).trans rfl
  have q4 : w2.cell? ⟨w.heap.size + 1, 4, none⟩ = some (.slice b2 n2 d2) := (cell_of_row _ _ 4 _ 39 (0, 0) y1).trans rfl
  have HB2 : Hid (Below w.heap.size w w2) := HB1.out.trans (hb2.mono HB1.out.size)
  replace Y0 : Hid (_ = _) := y0
  replace Y1 : Hid (_ = _) := y1
  have l2 : w.heap.size + 1 < w2.heap.size := (Array.getElem?_eq_some_iff.1 y1).1
  clear hb2 y0 y1 HB1 l1
  go_wp2_with fail
  refine (eqGenNameS_same a2 b2 n2 c2 d2 x.per _ (H1.out.kept HB2.out).pe (H2.out.kept HB2.out).pe).mono ?_
  rintro e w3 ⟨rfl, hb3⟩
  have y0 := (hb3.block _ (by omega)).trans Y0.out
  have y1 := (hb3.block _ l2).trans Y1.out
  clear p4 q4
  have p5 : w3.cell? ⟨w.heap.size, 5, none⟩ = some (.slice a3 n3 c3) := (cell_of_row _ _ 5 _ 39 (0, 0) y0).trans rfl
  have q5 : w3.cell? ⟨w.heap.size + 1, 5, none⟩ = some (.slice b3 n3 d3) := (cell_of_row _ _ 5 _ 39 (0, 0) y1).trans rfl
  have HB3 : Hid (Below w.heap.size w w3) := HB2.out.trans (hb3.mono HB2.out.size)
  replace Y0 : Hid (_ = _) := y0
  replace Y1 : Hid (_ = _) := y1
  have l3 : w.heap.size + 1 < w3.heap.size := (Array.getElem?_eq_some_iff.1 y1).1
  clear hb3 y0 y1 HB2 l2
  go_wp2_with fail
  refine (eqGenNameS_same a3 b3 n3 c3 d3 x.den _ (H1.out.kept HB3.out).de (H2.out.kept HB3.out).de).mono ?_
  rintro e w4 ⟨rfl, hb4⟩
  have y0 := (hb4.block _ (by omega)).trans Y0.out
  have y1 := (hb4.block _ l3).trans Y1.out
  clear p5 q5
  have p6 : w4.cell? ⟨w.heap.size, 6, none⟩ = some (.int .i64 x.til) := (cell_of_row _ _ 6 _ 39 (0, 0) y0).trans rfl
  have q6 : w4.cell? ⟨w.heap.size + 1, 6, none⟩ = some (.int .i64 x.til) := (cell_of_row _ _ 6 _ 39 (0, 0) y1).trans rfl
  have HB4 : Hid (Below w.heap.size w w4) := HB3.out.trans (hb4.mono HB3.out.size)
  replace Y0 : Hid (_ = _) := y0
  replace Y1 : Hid (_ = _) := y1
  have l4 : w.heap.size + 1 < w4.heap.size := (Array.getElem?_eq_some_iff.1 y1).1
  clear hb4 y0 y1 HB3 l3
  go_wp2
  go_ret
  exact ⟨rfl, HB4.out⟩

end Go.Proofs.YtoldngiclmidaaaGreatDoor

namespace Go.Proofs.YtoldngiclmidaaaGreatDoor
open Go.RowKit

set_option maxRecDepth 10000 in
set_option maxHeartbeats 4000000 in
theorem eqCrl_same (a1 : Option Addr) (n1 c1 : Nat) (a2 : Option Addr) (n2 c2 : Nat) (a3 : Option Addr) (n3 c3 : Nat) (b1 : Option Addr) (d1 : Nat) (b2 : Option Addr) (d2 : Nat) (b3 : Option Addr) (d3 : Nat) (x : CP) (w : World) (h : Crs w a1 n1 a2 n2 a3 n3 x) (h2 : Crs w b1 n1 b2 n2 b3 n3 x) (hm : n3 ≤ 1048576) :
    Calls Tryz.prog 69 #[crv a1 n1 c1 a2 n2 c2 a3 n3 c3 x, crv b1 n1 d1 b2 n2 d2 b3 n3 d3 x] w fun e w' => e = .returned (.bool true) ∧ Below w.heap.size w w' := by
  have H1 : Hid (Crs w a1 n1 a2 n2 a3 n3 x) := h
  have H2 : Hid (Crs w b1 n1 b2 n2 b3 n3 x) := h2
  clear h h2
  unfold crv
  obtain ⟨W0, hW0⟩ : ∃ W0, W0 = ((w.alloc (.cells #[.slice a1 n1 c1, .int .i64 x.num, .int .i64 x.base, .int .i64 x.tm, .int .i64 x.next, .int .i64 x.scope, .bool x.ind, .slice a2 n2 c2, .slice a3 n3 c3] 108)).alloc (.cells #[.slice b1 n1 d1, .int .i64 x.num, .int .i64 x.base, .int .i64 x.tm, .int .i64 x.next, .int .i64 x.scope, .bool x.ind, .slice b2 n2 d2, .slice b3 n3 d3] 108)) := ⟨_, rfl⟩
  have hbl : Below w.heap.size w W0 := by rw [hW0]; exact ((Below.refl _ _).alloc (Nat.le_refl _) _).alloc (by simp) _
  have b0 := two_blocks w (.cells #[.slice a1 n1 c1, .int .i64 x.num, .int .i64 x.base, .int .i64 x.tm, .int .i64 x.next, .int .i64 x.scope, .bool x.ind, .slice a2 n2 c2, .slice a3 n3 c3] 108) (.cells #[.slice b1 n1 d1, .int .i64 x.num, .int .i64 x.base, .int .i64 x.tm, .int .i64 x.next, .int .i64 x.scope, .bool x.ind, .slice b2 n2 d2, .slice b3 n3 d3] 108)
  rw [← hW0] at b0
  have t1 : (x.num != x.num) = false := by simp
  have t2 : (x.base != x.base) = false := by simp
  have t3 : (x.tm != x.tm) = false := by simp
  have t4 : (x.next != x.next) = false := by simp
  have t5 : (x.scope != x.scope) = false := by simp
  have t6 : (x.ind != x.ind) = false := by simp
  go_enter Tryz.func69, Tryz.ntmps69
  go_wp2_with fail
  rw [← hW0]
  clear hW0
  refine (eqName_same a1 b1 n1 c1 d1 x.parts _ (H1.out.kept hbl).nm (H2.out.kept hbl).nm).mono ?_
  rintro e w1 ⟨rfl, hb1⟩
  have l0 := (Array.getElem?_eq_some_iff.1 b0.2).1
  have y0 := (hb1.block _ (by omega)).trans b0.1
  have y1 := (hb1.block _ l0).trans b0.2
  have p1 : w1.cell? ⟨w.heap.size, 1, none⟩ = some (.int .i64 x.num) := (cell_of_row _ _ 1 _ 108 (0, 0) y0).trans rfl
  have q1 : w1.cell? ⟨w.heap.size + 1, 1, none⟩ = some (.int .i64 x.num) := (cell_of_row _ _ 1 _ 108 (0, 0) y1).trans rfl
  have p2 : w1.cell? ⟨w.heap.size, 2, none⟩ = some (.int .i64 x.base) := (cell_of_row _ _ 2 _ 108 (0, 0) y0).trans rfl
  have q2 : w1.cell? ⟨w.heap.size + 1, 2, none⟩ = some (.int .i64 x.base) := (cell_of_row _ _ 2 _ 108 (0, 0) y1).trans rfl
  have p3 : w1.cell? ⟨w.heap.size, 3, none⟩ = some (.int .i64 x.tm) := (cell_of_row _ _ 3 _ 108 (0, 0) y0).trans rfl
  have q3 : w1.cell? ⟨w.heap.size + 1, 3, none⟩ = some (.int .i64 x.tm) := (cell_of_row _ _ 3 _ 108 (0, 0) y1).trans rfl
  have p4 : w1.cell? ⟨w.heap.size, 4, none⟩ = some (.int .i64 x.next) := (cell_of_row _ _ 4 _ 108 (0, 0) y0).trans rfl
  have q4 : w1.cell? ⟨w.heap.size + 1, 4, none⟩ = some (.int .i64 x.next) := (cell_of_row _ _ 4 _ 108 (0, 0) y1).trans rfl
  have p5 : w1.cell? ⟨w.heap.size, 5, none⟩ = some (.int .i64 x.scope) := (cell_of_row _ _ 5 _ 108 (0, 0) y0).trans rfl
  have q5 : w1.cell? ⟨w.heap.size + 1, 5, none⟩ = some (.int .i64 x.scope) := (cell_of_row _ _ 5 _ 108 (0, 0) y1).trans rfl
  have p6 : w1.cell? ⟨w.heap.size, 6, none⟩ = some (.bool x.ind) := (cell_of_row _ _ 6 _ 108 (0, 0) y0).trans rfl
  have q6 : w1.cell? ⟨w.heap.size + 1, 6, none⟩ = some (.bool x.ind) := (cell_of_row _ _ 6 _ 108 (0, 0) y1).trans rfl
  have p7 : w1.cell? ⟨w.heap.size, 7, none⟩ = some (.slice a2 n2 c2) := (cell_of_row _ _ 7 _ 108 (0, 0) y0).trans rfl
  have q7 : w1.cell? ⟨w.heap.size + 1, 7, none⟩ = some (.slice b2 n2 d2) := (cell_of_row _ _ 7 _ 108 (0, 0) y1).trans rfl
  have HB1 : Hid (Below w.heap.size w w1) := hbl.trans (hb1.mono hbl.size)
  have Y0 : Hid (_ = _) := y0
  have Y1 : Hid (_ = _) := y1
  have l1 : w.heap.size + 1 < w1.heap.size := (Array.getElem?_eq_some_iff.1 y1).1
  clear hb1 hbl b0 y0 y1 l0
  go_wp2_with fail
  refine (eqGoneS_same a2 b2 n2 c2 d2 x.ents _ (H1.out.kept HB1.out).en (H2.out.kept HB1.out).en).mono ?_
  rintro e w2 ⟨rfl, hb2⟩
  have y0 := (hb2.block _ (by omega)).trans Y0.out
  have y1 := (hb2.block _ l1).trans Y1.out
  clear p1 p2 p3 p4 p5 p6 p7 q1 q2 q3 q4 q5 q6 q7
  have p8 : w2.cell? ⟨w.heap.size, 8, none⟩ = some (.slice a3 n3 c3) := (cell_of_row _ _ 8 _ 108 (0, 0) y0).trans rfl
  have q8 : w2.cell? ⟨w.heap.size + 1, 8, none⟩ = some (.slice b3 n3 d3) := (cell_of_row _ _ 8 _ 108 (0, 0) y1).trans rfl
  have HB2 : Hid (Below w.heap.size w w2) := HB1.out.trans (hb2.mono HB1.out.size)
  clear hb2 y0 y1 Y0 Y1 HB1
  go_wp2_with fail
  refine (eqByteS_any a3 b3 n3 n3 c3 d3 x.sig x.sig _ (H1.out.kept HB2.out).sg (H2.out.kept HB2.out).sg (by unfold maxLen; omega) (by unfold maxLen; omega)).mono ?_
  rintro e w3 ⟨rfl, hb3⟩
  have HB3 : Hid (Below w.heap.size w w3) := HB2.out.trans (hb3.mono HB2.out.size)
  rw [decide_eq_true (rfl : x.sig = x.sig)]
  clear hb3 HB2 p8 q8
  go_wp2
  go_ret
  exact ⟨rfl, HB3.out⟩

end Go.Proofs.YtoldngiclmidaaaGreatDoor

namespace Go.Proofs.YtoldngiclmidaaaGreatDoor
open Go.RowKit

/-- A name that is right and not empty. -/
def calledP (xs : List PT) : Prop := nameP xs ∧ xs ≠ []
def timeP (t : Int) : Prop := 0 ≤ t ∧ t ≤ 253402300799
def likeP (x y : GP) : Prop := x.ser = y.ser ∧ sameP x.parts y.parts

set_option maxHeartbeats 1000000 in
theorem l10Time_any (t : Int) (w : World) : Calls Tryz.prog 20 #[.int .i64 t] w fun e w' => e = .returned (.bool (decide (0 ≤ t ∧ t ≤ 253402300799))) ∧ w = w' := by
  go_enter Tryz.func20, Tryz.ntmps20
  go_wp2_with fail
  refine (l1In_any t 0 253402300799 _).mono ?_
  rintro e w1 ⟨rfl, rfl⟩
  obtain ⟨v, hv⟩ : ∃ v, decide (0 ≤ t ∧ t ≤ 253402300799) = v := ⟨_, rfl⟩
  rw [hv]
  have HV : Hid (decide (0 ≤ t ∧ t ≤ 253402300799) = v) := hv
  clear hv
  go_wp2
  go_ret
  exact ⟨by rw [HV.out]; rfl, rfl⟩

set_option maxHeartbeats 1000000 in
theorem l10Called_any (a : Option Addr) (n c : Nat) (xs : List PT) (w : World) (h : Pts w a n xs) (hz : ∀ k, k < n → (xs.getD k default).val.size ≤ 1048576) :
    Calls Tryz.prog 17 #[nmv a n c] w (Says (calledP xs) w) := by
  have HL : Hid (xs.length = n) := h.len
  have hn := h.max
  obtain ⟨w0, hw0⟩ : ∃ w0, w0 = w.alloc (.cells #[.slice a n c] 35) := ⟨_, rfl⟩
  have hb0 : Below w.heap.size w w0 := by rw [hw0]; exact (Below.refl _ _).alloc (Nat.le_refl _) _
  have hh0 : w0.heap[w.heap.size]? = some (.cells #[.slice a n c] 35) := by rw [hw0]; exact heap_alloc_new w _
  have hl0 : w.heap.size < w0.heap.size := (Array.getElem?_eq_some_iff.1 hh0).1
  have HK : Hid (Pts w0 a n xs) := h.kept hb0
  have HZ : Hid (_) := hz
  clear h hz
  unfold nmv
  go_enter Tryz.func17, Tryz.ntmps17
  go_wp2_with fail
  rw [← hw0]
  clear hw0
  refine (specNameOk_any a n c xs _ HK.out HZ.out).mono ?_
  rintro e w1 ⟨b, rfl, hb, hb1⟩
  have hc : w1.cell? ⟨w.heap.size, 0, none⟩ = some (.slice a n c) := (cell_of_row _ _ 0 _ 35 (0, 0) ((hb1.block _ hl0).trans hh0)).trans rfl
  have HB : Hid (Below w.heap.size w w1) := hb0.trans (hb1.mono hb0.size)
  clear hb0 hb1 hh0
  rcases b with _ | _
  · have HN : Hid (¬ calledP xs) := fun q => by have := hb.out.2 q.1; simp at this
    clear hb
    go_wp2
    go_ret
    exact says_f HN.out HB.out
  · have HN : Hid (nameP xs) := hb.out.1 rfl
    clear hb
    by_cases h0 : n = 0
    · subst h0
      have HE : Hid (¬ calledP xs) := fun q => q.2 (List.eq_nil_of_length_eq_zero HL.out)
      go_wp2
      go_ret
      exact says_f HE.out HB.out
    · have hp : (0 : Int) < (n : Int) := by omega
      have HE : Hid (calledP xs) := ⟨HN.out, fun e => h0 (by rw [← HL.out, e]; rfl)⟩
      go_wp2
      go_ret
      exact ⟨decide (0 < n), rfl, ⟨fun _ => HE.out, fun _ => decide_eq_true (by omega)⟩, HB.out⟩

end Go.Proofs.YtoldngiclmidaaaGreatDoor

