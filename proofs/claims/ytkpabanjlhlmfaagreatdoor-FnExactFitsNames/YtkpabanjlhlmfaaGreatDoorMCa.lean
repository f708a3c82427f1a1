import Derived.Test.YtkpabanjlhlmfaaGreatDoorGN3
import Derived.Test.YtkpabanjlhlmfaaGreatDoorN2
import Derived.Test.YtkpabanjlhlmfaaGreatDoorN6
import Derived.Test.YtkpabanjlhlmfaaGreatDoorGB3GB4
import Derived.Test.YtkpabanjlhlmfaaGreatDoorN9
namespace Go.Proofs.YtkpabanjlhlmfaaGreatDoor
open Go.RowKit

/-- A general name: what it holds. -/
structure GE where
  g : GT
  parts : List PT
instance : Inhabited GE := ⟨⟨⟨0, ⟨#[]⟩, 0, 0⟩, []⟩⟩
/-- Its five cells from o on. -/
structure Cells5 (w : World) (b o : Nat) (an : Option Addr) (nn cn : Nat) (x : GE) : Prop where
  c0 : w.cell? ⟨b, o, none⟩ = some (.int .i64 x.g.kind)
  c1 : w.cell? ⟨b, o + 1, none⟩ = some (.string x.g.text)
  c2 : w.cell? ⟨b, o + 2, none⟩ = some (.int .i64 x.g.addr)
  c3 : w.cell? ⟨b, o + 3, none⟩ = some (.int .i64 x.g.bits)
  c4 : w.cell? ⟨b, o + 4, none⟩ = some (.slice an nn cn)
theorem Cells5.of {w w' : World} {b o : Nat} {a : Option Addr} {n c : Nat} {x : GE} (h : Cells5 w b o a n c x) (hc : ∀ i, w'.cell? ⟨b, i, none⟩ = w.cell? ⟨b, i, none⟩) : Cells5 w' b o a n c x :=
  ⟨(hc _).trans h.c0, (hc _).trans h.c1, (hc _).trans h.c2, (hc _).trans h.c3, (hc _).trans h.c4⟩
/-- The slice at a reads as these general names. -/
structure Ges (w : World) (a : Option Addr) (n : Nat) (xs : List GE) : Prop where
  len : xs.length = n
  max : n ≤ 9223372036854775807
  get : ∀ k, k < n → ∃ b off an nn cn, a = some ⟨b, off, none⟩ ∧ b < w.heap.size ∧ Cells5 w b (off + k * 5) an nn cn (xs.getD k default) ∧ Pts w an nn (xs.getD k default).parts ∧ (xs.getD k default).g.text.size ≤ 9223372036854775807
theorem Ges.kept {w w' : World} {a : Option Addr} {n : Nat} {xs : List GE} (h : Ges w a n xs) (hb : Below w.heap.size w w') : Ges w' a n xs := by
  refine ⟨h.len, h.max, fun k hk => ?_⟩
  obtain ⟨b, off, an, nn, cn, ha, hlt, hc, hp, hs⟩ := h.get k hk
  exact ⟨b, off, an, nn, cn, ha, Nat.lt_of_lt_of_le hlt hb.size, hc.of (fun i => hb.cell (p := ⟨b, i, none⟩) hlt), hp.kept hb, hs⟩
/-- It is small. -/
def GeOk (x : GE) : Prop := x.g.text.size ≤ 1048576 ∧ x.parts.length ≤ 1048576 ∧ ∀ k, k < x.parts.length → (x.parts.getD k default).val.size ≤ 1048576

set_option maxRecDepth 10000 in
set_option maxHeartbeats 2000000 in
theorem szGenNameS_any (a : Option Addr) (n cap : Nat) (xs : List GE) (lf : Int) (w : World) (h : Ges w a n xs) (hl0 : 0 ≤ lf) (hl1 : lf ≤ 1048576) :
    Calls Tryz.prog 11 #[.slice a n cap, .int .i64 lf] w fun e w' => ∃ r, e = .returned (.int .i64 r) ∧ (r < 0 ∨ (0 ≤ r ∧ r ≤ 1048576 ∧ n ≤ 1048576 ∧ ∀ k, k < n → GeOk (xs.getD k default))) ∧ Below w.heap.size w w' := by
  have H0 : Hid (Ges w a n xs) := h
  have hn := h.max
  clear h
  by_cases hlt : (n : Int) ≤ lf
  · go_enter Tryz.func11, Tryz.ntmps11
    go_wp2
    go_loopw [1, 5] (fun l i wr => ∃ (k : Nat) (left : Int), k ≤ n ∧ i = .int .i64 k ∧ l = .int .i64 left ∧ 0 ≤ left ∧ left ≤ 1048576 ∧ Hid (∀ j, j < k → GeOk (xs.getD j default)) ∧ Below w.heap.size w wr) (fun _ i _ => n - (intOf i).toNat)
    case atStart => exact ⟨0, lf - n, Nat.zero_le _, rfl, rfl, by omega, by omega, fun j hj => absurd hj (Nat.not_lt_zero _), Below.refl _ _⟩
    case round =>
      obtain ⟨k, left, hk, rfl, rfl, h0, h1, HA, hbr⟩ := hrel
      by_cases hkn : k < n
      · obtain ⟨b, off, an, nn, cn, rfl, hlb, hc, hp, hs⟩ := H0.out.get k hkn
        obtain ⟨y, hy⟩ : ∃ y, y = xs.getD k default := ⟨_, rfl⟩
        rw [← hy] at hc hp hs
        have HY : Hid (y = xs.getD k default) := hy
        obtain ⟨c0, c1, c2, c3, c4⟩ := hc.of (w' := wr) (fun i => hbr.cell (p := ⟨b, i, none⟩) hlb)
        have HP : Hid (Pts wr an nn y.parts) := hp.kept hbr
        have HN : Hid (y.parts.length = nn) := hp.len
        have hkni : (k : Int) < (n : Int) := by omega
        clear hc hy hp
        go_wp2_with fail
        refine (szGenName_any y.g an nn cn y.parts left _ HP.out hs h0 h1).mono ?_
        rintro e w2 ⟨r, rfl, hr, hb2⟩
        have hb2' : Below w.heap.size w w2 := hbr.trans (hb2.mono hbr.size)
        by_cases hneg : r < 0
        · clear hr
          go_wp2
          go_ret
          exact ⟨_, rfl, .inl (by decide), hb2'⟩
        · have hr1 : 0 ≤ r := by omega
          have hr2 : r ≤ 1048576 := by omega
          have HR : Hid (GeOk y) := by
            rcases hr with h | ⟨_, _, h3, h4, h5⟩
            · exact absurd h hneg
            · exact ⟨h3, by rw [HN.out]; exact h4, fun k hk => h5 k (by rw [← HN.out]; exact hk)⟩
          clear hr
          go_wp2
          go_roundw
          case rel =>
            refine ⟨k + 1, r, by omega, by go_num, rfl, hr1, hr2, fun j hj => ?_, hb2'⟩
            by_cases hjk : j = k
            · subst hjk; rw [← HY.out]; exact HR.out
            · exact HA.out j (by omega)
          case measure => simp [intOf]; omega
      · obtain rfl : n = k := by omega
        go_wp2
        go_ret
        exact ⟨_, rfl, .inr ⟨h0, h1, by omega, HA.out⟩, hbr⟩
  · go_enter Tryz.func11, Tryz.ntmps11
    go_wp2
    go_ret
    exact ⟨_, rfl, .inl (by decide), Below.refl _ _⟩

set_option maxRecDepth 10000 in
set_option maxHeartbeats 4000000 in
theorem eqGenNameS_same (a b : Option Addr) (n ca cb : Nat) (xs : List GE) (w : World) (h : Ges w a n xs) (h2 : Ges w b n xs) :
    Calls Tryz.prog 15 #[.slice a n ca, .slice b n cb] w fun e w' => e = .returned (.bool true) ∧ Below w.heap.size w w' := by
  have HK : Hid (Ges w a n xs) := h
  have HK2 : Hid (Ges w b n xs) := h2
  have hn := h.max
  clear h h2
  go_enter Tryz.func15, Tryz.ntmps15
  go_wp2
  go_loopw [5] (fun i wr => ∃ k : Nat, k ≤ n ∧ i = .int .i64 k ∧ Below w.heap.size w wr) (fun i _ => n - (intOf i).toNat)
  case atStart => exact ⟨0, Nat.zero_le _, rfl, Below.refl _ _⟩
  case round =>
    obtain ⟨k, hk, rfl, hbr⟩ := hrel
    by_cases hkn : k < n
    · obtain ⟨b1, off1, an, nn, cn, rfl, hl1, hc1, hp1, _⟩ := HK.out.get k hkn
      obtain ⟨b2, off2, am, mm, cm, rfl, hl2, hc2, hp2, _⟩ := HK2.out.get k hkn
      obtain ⟨y, hy⟩ : ∃ y, y = xs.getD k default := ⟨_, rfl⟩
      rw [← hy] at hc1 hc2 hp1 hp2
      clear hy
      obtain rfl : mm = nn := by rw [← hp2.len, ← hp1.len]
      obtain ⟨c0, c1, c2, c3, c4⟩ := hc1.of (w' := wr) (fun i => hbr.cell (p := ⟨b1, i, none⟩) hl1)
      obtain ⟨d0, d1, d2, d3, d4⟩ := hc2.of (w' := wr) (fun i => hbr.cell (p := ⟨b2, i, none⟩) hl2)
      have HP1 : Hid (Pts wr.drew an mm y.parts) := hp1.kept hbr.drew
      have HP2 : Hid (Pts wr.drew am mm y.parts) := hp2.kept hbr.drew
      have hkni : (k : Int) < (n : Int) := by omega
      have hs := hbr.size
      clear hc1 hc2 hp1 hp2
      go_wp2_with fail
      go_region_with (go_at_call 62; refine (eqGenName_same y.g an am mm cn cm y.parts _ HP1.out HP2.out).mono ?_; rintro e w2 ⟨rfl, hb2⟩)
      all_goals
        have b5 : Below w.heap.size w w2 := hbr.drew.trans (hb2.mono hs)
        go_wp2
        go_roundw
        case rel => exact ⟨k + 1, by omega, by go_num, b5⟩
        case measure => simp [intOf]; omega
    · go_wp2
      go_ret
      exact ⟨rfl, hbr⟩

end Go.Proofs.YtkpabanjlhlmfaaGreatDoor

namespace Go.Proofs.YtkpabanjlhlmfaaGreatDoor
open Go.RowKit

theorem Tryz.infoGe : (Tryz.prog.info? 96).map (fun i => (i.zero, i.size, i.bytes)) = some (some (.agg #[.int .i64 0, .string ⟨#[]⟩, .int .i64 0, .int .i64 0, .slice none 0 0]), 5, 64) := by kernel_rfl

/-- Five cells of the row g are written, from o on. -/
def put5 (w : World) (g o : Nat) (v0 v1 v2 v3 v4 : Value) : World := (((((w.setCell ⟨g, o, none⟩ v0).setCell ⟨g, o + 1, none⟩ v1).setCell ⟨g, o + 2, none⟩ v2).setCell ⟨g, o + 3, none⟩ v3).setCell ⟨g, o + 4, none⟩ v4)
theorem put5_other (w : World) (g o l : Nat) (h : l ≠ g) (v0 v1 v2 v3 v4 : Value) : (put5 w g o v0 v1 v2 v3 v4).heap[l]? = w.heap[l]? :=
  (Below.heap_setCell _ _ _ _ (by show l ≠ g; exact h)).trans ((Below.heap_setCell _ _ _ _ (by show l ≠ g; exact h)).trans ((Below.heap_setCell _ _ _ _ (by show l ≠ g; exact h)).trans ((Below.heap_setCell _ _ _ _ (by show l ≠ g; exact h)).trans (Below.heap_setCell _ _ _ _ (by show l ≠ g; exact h)))))
theorem put5_size (w : World) (g o : Nat) (v0 v1 v2 v3 v4 : Value) : (put5 w g o v0 v1 v2 v3 v4).heap.size = w.heap.size := by simp [put5]

/-- The first k general names lie in the row g, their parts behind it. -/
def GePre (w : World) (g k : Nat) (xs : List GE) : Prop := ∀ j, j < k → ∃ gn nn, g < gn ∧ Cells5 w g (j * 5) (some ⟨gn, 0, none⟩) nn nn (xs.getD j default) ∧ Pts w (some ⟨gn, 0, none⟩) nn (xs.getD j default).parts
theorem GePre.kept {w w' : World} {g k : Nat} {xs : List GE} (h : GePre w g k xs) (hg : g < w.heap.size) (hb : Below w.heap.size w w') : GePre w' g k xs := fun j hj => by
  obtain ⟨gn, nn, h1, h3, h4⟩ := h j hj
  exact ⟨gn, nn, h1, h3.of (fun i => hb.cell (p := ⟨g, i, none⟩) hg), h4.kept hb⟩

structure Put5 (B : Nat) (w w' : World) (g n cap i : Nat) (an : Option Addr) (nn cn : Nat) (x : GE) : Prop where
  own : ∃ vs, w'.ownsRow B 96 5 (.slice (some ⟨g, 0, none⟩) n cap) n vs
  other : ∀ l, l ≠ g → w'.heap[l]? = w.heap[l]?
  size : w'.heap.size = w.heap.size
  old : ∀ j, j < n * 5 → j < i * 5 ∨ i * 5 + 5 ≤ j → w'.cell? ⟨g, j, none⟩ = w.cell? ⟨g, j, none⟩
  cells : Cells5 w' g (i * 5) an nn cn x
theorem put5_is {B : Nat} {w : World} {g n cap : Nat} {vs : List Value} (h : w.ownsRow B 96 5 (.slice (some ⟨g, 0, none⟩) n cap) n vs) (i : Nat) (hi : i < n) (an : Option Addr) (nn cn : Nat) (x : GE) : Put5 B w (put5 w g (i * 5) (.int .i64 x.g.kind) (.string x.g.text) (.int .i64 x.g.addr) (.int .i64 x.g.bits) (.slice an nn cn)) g n cap i an nn cn x := by
  have h1 := (((((h.stored (i * 5) (.int .i64 x.g.kind)).1.stored (i * 5 + 1) (.string x.g.text)).1.stored (i * 5 + 2) (.int .i64 x.g.addr)).1.stored (i * 5 + 3) (.int .i64 x.g.bits)).1.stored (i * 5 + 4) (.slice an nn cn)).1
  have hl : vs.length = n * 5 := h.1
  have cc := fun j (hj : j < n * 5) => h1.cellAt j hj
  refine ⟨⟨_, h1⟩, fun l hl => put5_other _ _ _ _ hl _ _ _ _ _, put5_size _ _ _ _ _ _ _ _, fun j hj ho => ?_, ⟨?_, ?_, ?_, ?_, ?_⟩⟩
  · refine (cc j hj).trans ?_
    rw [h.cellAt j hj]
    rw [List.getElem?_set_ne (by omega), List.getElem?_set_ne (by omega), List.getElem?_set_ne (by omega), List.getElem?_set_ne (by omega), List.getElem?_set_ne (by omega)]
  · refine (cc _ (by omega)).trans ?_
    rw [List.getElem?_set_ne (by omega), List.getElem?_set_ne (by omega), List.getElem?_set_ne (by omega), List.getElem?_set_ne (by omega), List.getElem?_set_self (by omega)]
  · refine (cc _ (by omega)).trans ?_
    rw [List.getElem?_set_ne (by omega), List.getElem?_set_ne (by omega), List.getElem?_set_ne (by omega), List.getElem?_set_self (by simp; omega)]
  · refine (cc _ (by omega)).trans ?_
    rw [List.getElem?_set_ne (by omega), List.getElem?_set_ne (by omega), List.getElem?_set_self (by simp; omega)]
  · refine (cc _ (by omega)).trans ?_
    rw [List.getElem?_set_ne (by omega), List.getElem?_set_self (by simp; omega)]
  · refine (cc _ (by omega)).trans ?_
    rw [List.getElem?_set_self (by simp; omega)]

set_option maxRecDepth 10000 in
set_option maxHeartbeats 4000000 in
theorem toGenNameS_at (a : Option Addr) (n cap : Nat) (xs : List GE) (w : World) (h : Ges w a n xs) (hn : n ≤ 1048576) (hz : ∀ k, k < n → GeOk (xs.getD k default)) :
    Calls Tryz.prog 13 #[.slice a n cap] w fun e w' => e = .returned (.slice (some ⟨w.heap.size, 0, none⟩) n n) ∧ GePre w' w.heap.size n xs ∧ w.heap.size < w'.heap.size ∧ Below w.heap.size w w' := by
  obtain ⟨i0, hi, hz0, hz1, hz2⟩ := info_parts Tryz.infoGe
  have HK : Hid (Ges w a n xs) := h
  have HZ : Hid (∀ k, k < n → GeOk (xs.getD k default)) := hz
  have hlen : Hid (xs.length = n) := h.len
  clear h hz
  go_enter Tryz.func13, Tryz.ntmps13
  go_wp2_with (first | (at_make; refine wpList_make_full _ rfl _ _ 41 rfl w.heap.size 96 i0 _ 5 Tryz.underlying41 hi hz0 hz1 _ _ _ _ n rfl rfl rfl rfl (by rw [hz2]; omega) (by unfold maxLen; omega) (by exact Nat.le_refl _) ?_; intro w1 hown hgrow))
  have hbl : Below w.heap.size w w1 := (Below.refl _ _).grown hgrow (Nat.le_refl _) (by simp)
  clear hgrow hi hz0 hz1 hz2
  go_loopw [4] (fun i wr => ∃ k : Nat, k ≤ n ∧ i = .int .i64 k ∧ Hid (∃ vs, wr.ownsRow w.heap.size 96 5 (.slice (some ⟨w.heap.size, 0, none⟩) n n) n vs) ∧ Hid (GePre wr w.heap.size k xs) ∧ Below w.heap.size w wr) (fun i _ => n - (intOf i).toNat)
  case atStart => exact ⟨0, Nat.zero_le _, rfl, ⟨_, hown⟩, fun j hj => absurd hj (Nat.not_lt_zero _), hbl⟩
  case round =>
    obtain ⟨k, hk, rfl, HOR, HPRE, hbr⟩ := hrel
    obtain ⟨vs, hor⟩ := HOR.out
    have hgl := (hor.lt _ rfl).2
    have HOV : Hid (_) := hor
    clear HOR hor hown hbl
    by_cases hkn : k < n
    · obtain ⟨b, off, an, nn, cn, rfl, hlb, hc, hp, _⟩ := HK.out.get k hkn
      have hgp := HZ.out k hkn
      obtain ⟨y, hy⟩ : ∃ y, y = xs.getD k default := ⟨_, rfl⟩
      rw [← hy] at hc hp hgp
      have HY : Hid (y = xs.getD k default) := hy
      have hnn : nn ≤ 1048576 := by rw [← hp.len]; exact hgp.2.1
      obtain ⟨c0, c1, c2, c3, c4⟩ := hc.of (w' := wr) (fun i => hbr.cell (p := ⟨b, i, none⟩) hlb)
      have HP : Hid (Pts wr an nn y.parts) := hp.kept hbr
      have hkni : (k : Int) < (n : Int) := by omega
      have hs := hbr.size
      clear hc hy hp hgp
      go_wp2_with fail
      refine (toGenName_at y.g an nn cn y.parts _ HP.out hnn).mono ?_
      rintro e w2 ⟨g2, rfl, hg2, hp2, hb2⟩
      have hor2 : w2.ownsRow w.heap.size 96 5 (.slice (some ⟨w.heap.size, 0, none⟩) n n) n vs := ownsRow_below HOV.out hb2
      have hs2 := hb2.size
      have fr : ∀ j, w2.frozen? ⟨w.heap.size, j, none⟩ = false := fun j => hor2.frozenAt j
      have hvl : vs.length = n * 5 := hor2.1
      have cx : ∀ j, j < n * 5 → ∃ z, w2.cell? ⟨w.heap.size, j, none⟩ = some z := fun j hj => ⟨_, (hor2.cellAt j hj).trans (List.getElem?_eq_getElem (by omega))⟩
      obtain ⟨z0, x0⟩ := cx (k * 5) (by omega)
      obtain ⟨z1, x1⟩ := cx (k * 5 + 1) (by omega)
      obtain ⟨z2, x2⟩ := cx (k * 5 + 2) (by omega)
      obtain ⟨z3, x3⟩ := cx (k * 5 + 3) (by omega)
      obtain ⟨z4, x4⟩ := cx (k * 5 + 4) (by omega)
      have f0 := fr (k * 5)
      have f1 := fr (k * 5 + 1)
      have f2 := fr (k * 5 + 2)
      have f3 := fr (k * 5 + 3)
      have f4 := fr (k * 5 + 4)
      have hS := put5_is hor2 k hkn (some ⟨g2, 0, none⟩) nn nn y
      have hP : GePre (put5 w2 w.heap.size (k * 5) (.int .i64 y.g.kind) (.string y.g.text) (.int .i64 y.g.addr) (.int .i64 y.g.bits) (.slice (some ⟨g2, 0, none⟩) nn nn)) w.heap.size (k + 1) xs := by
        intro j hj
        by_cases hjk : j = k
        · subst hjk
          rw [← HY.out]
          exact ⟨g2, nn, by omega, hS.cells, hp2.same (hS.other _ (by omega)) (Nat.le_of_eq hS.size.symm)⟩
        · obtain ⟨gn, mm, q1, q2, q3⟩ := (HPRE.out.kept hgl hb2) j (by omega)
          have hx := hS.old
          exact ⟨gn, mm, q1, ⟨(hx _ (by omega) (by omega)).trans q2.c0, (hx _ (by omega) (by omega)).trans q2.c1, (hx _ (by omega) (by omega)).trans q2.c2, (hx _ (by omega) (by omega)).trans q2.c3, (hx _ (by omega) (by omega)).trans q2.c4⟩, q3.same (hS.other _ (by omega)) (Nat.le_of_eq hS.size.symm)⟩
      have hB2 := hbr.trans (hb2.mono hs)
      have hB4 : Below w.heap.size w (put5 w2 w.heap.size (k * 5) (.int .i64 y.g.kind) (.string y.g.text) (.int .i64 y.g.addr) (.int .i64 y.g.bits) (.slice (some ⟨g2, 0, none⟩) nn nn)) := ⟨hB2.os, hB2.tape, hB2.output, by rw [hS.size]; exact hB2.size, fun l hl => (hS.other l (by omega)).trans (hB2.block l hl)⟩
      have FIN : Hid (_ ∧ _ ∧ _) := ⟨hS.own, hP, hB4⟩
      have hgl2 : w.heap.size < w2.heap.size := by omega
      clear fr cx hS hP hB4 hB2 hor2 hp2 hb2 hvl HPRE HOV HP HK
      unfold gnv
      go_wp2
      go_roundw
      case rel => exact ⟨k + 1, by omega, by go_num, FIN.out.1, FIN.out.2.1, FIN.out.2.2⟩
      case measure => simp [intOf]; omega
    · obtain rfl : n = k := by omega
      clear HOV
      go_wp2
      go_ret
      exact ⟨rfl, HPRE.out, hgl, hbr⟩
theorem GePre.ges {w : World} {g n : Nat} {xs : List GE} (h : GePre w g n xs) (hl : xs.length = n) (hn : n ≤ 9223372036854775807) (hg : g < w.heap.size) (hz : ∀ k, k < n → GeOk (xs.getD k default)) : Ges w (some ⟨g, 0, none⟩) n xs := by
  refine ⟨hl, hn, fun k hk => ?_⟩
  obtain ⟨gn, nn, h1, h3, h4⟩ := h k hk
  exact ⟨g, 0, _, _, _, rfl, hg, by rw [Nat.zero_add]; exact h3, h4, Nat.le_trans (hz k hk).1 (by decide)⟩

end Go.Proofs.YtkpabanjlhlmfaaGreatDoor

namespace Go.Proofs.YtkpabanjlhlmfaaGreatDoor
open Go.RowKit

/-- An entry: what it holds. -/
structure GP where
  parts : List PT
  ser : Int
  tm : Int
  rs : Int
instance : Inhabited GP := ⟨⟨[], 0, 0, 0⟩⟩
def gov (a : Option Addr) (n c : Nat) (x : GP) : Value := .agg #[.slice a n c, .int .i64 x.ser, .int .i64 x.tm, .int .i64 x.rs]

/-- The four cells of an entry from o on. -/
structure Cells4 (w : World) (b o : Nat) (a : Option Addr) (n c : Nat) (x : GP) : Prop where
  c0 : w.cell? ⟨b, o, none⟩ = some (.slice a n c)
  c1 : w.cell? ⟨b, o + 1, none⟩ = some (.int .i64 x.ser)
  c2 : w.cell? ⟨b, o + 2, none⟩ = some (.int .i64 x.tm)
  c3 : w.cell? ⟨b, o + 3, none⟩ = some (.int .i64 x.rs)
theorem Cells4.of {w w' : World} {b o : Nat} {a : Option Addr} {n c : Nat} {x : GP} (h : Cells4 w b o a n c x) (hc : ∀ i, w'.cell? ⟨b, i, none⟩ = w.cell? ⟨b, i, none⟩) : Cells4 w' b o a n c x :=
  ⟨(hc _).trans h.c0, (hc _).trans h.c1, (hc _).trans h.c2, (hc _).trans h.c3⟩

/-- The slice at a reads as these entries. -/
structure Gns (w : World) (a : Option Addr) (n : Nat) (xs : List GP) : Prop where
  len : xs.length = n
  max : n ≤ 9223372036854775807
  get : ∀ k, k < n → ∃ b off an nn cn, a = some ⟨b, off, none⟩ ∧ b < w.heap.size ∧ Cells4 w b (off + k * 4) an nn cn (xs.getD k default) ∧ Pts w an nn (xs.getD k default).parts
theorem Gns.kept {w w' : World} {a : Option Addr} {n : Nat} {xs : List GP} (h : Gns w a n xs) (hb : Below w.heap.size w w') : Gns w' a n xs := by
  refine ⟨h.len, h.max, fun k hk => ?_⟩
  obtain ⟨b, off, an, nn, cn, ha, hlt, hc, hp⟩ := h.get k hk
  exact ⟨b, off, an, nn, cn, ha, Nat.lt_of_lt_of_le hlt hb.size, hc.of (fun i => hb.cell (p := ⟨b, i, none⟩) hlt), hp.kept hb⟩
/-- Its names are small. -/
def GpOk (x : GP) : Prop := x.parts.length ≤ 1048576 ∧ ∀ k, k < x.parts.length → (x.parts.getD k default).val.size ≤ 1048576

end Go.Proofs.YtkpabanjlhlmfaaGreatDoor

namespace Go.Proofs.YtkpabanjlhlmfaaGreatDoor
open Go.RowKit

end Go.Proofs.YtkpabanjlhlmfaaGreatDoor

namespace Go.Proofs.YtkpabanjlhlmfaaGreatDoor
open Go.RowKit

/-- The first k entries lie in the row g, their names behind it. -/
def GoPre (w : World) (g k : Nat) (xs : List GP) : Prop := ∀ j, j < k → ∃ gn nn, g < gn ∧ Cells4 w g (j * 4) (some ⟨gn, 0, none⟩) nn nn (xs.getD j default) ∧ Pts w (some ⟨gn, 0, none⟩) nn (xs.getD j default).parts
theorem GoPre.kept {w w' : World} {g k : Nat} {xs : List GP} (h : GoPre w g k xs) (hg : g < w.heap.size) (hb : Below w.heap.size w w') : GoPre w' g k xs := fun j hj => by
  obtain ⟨gn, nn, h1, h3, h4⟩ := h j hj
  exact ⟨gn, nn, h1, h3.of (fun i => hb.cell (p := ⟨g, i, none⟩) hg), h4.kept hb⟩

end Go.Proofs.YtkpabanjlhlmfaaGreatDoor

namespace Go.Proofs.YtkpabanjlhlmfaaGreatDoor
open Go.RowKit

/-- A list: what it holds. -/
structure CP where
  parts : List PT
  num : Int
  base : Int
  tm : Int
  next : Int
  scope : Int
  ind : Bool
  ents : List GP
  sig : List Int
def crv (a1 : Option Addr) (n1 c1 : Nat) (a2 : Option Addr) (n2 c2 : Nat) (a3 : Option Addr) (n3 c3 : Nat) (x : CP) : Value := .agg #[.slice a1 n1 c1, .int .i64 x.num, .int .i64 x.base, .int .i64 x.tm, .int .i64 x.next, .int .i64 x.scope, .bool x.ind, .slice a2 n2 c2, .slice a3 n3 c3]
/-- Its three slices are there. -/
structure Crs (w : World) (a1 : Option Addr) (n1 : Nat) (a2 : Option Addr) (n2 : Nat) (a3 : Option Addr) (n3 : Nat) (x : CP) : Prop where
  nm : Pts w a1 n1 x.parts
  en : Gns w a2 n2 x.ents
  sg : Row w a3 n3 x.sig
  mx : n3 ≤ 9223372036854775807
theorem Crs.kept {w w' : World} {a1 : Option Addr} {n1 : Nat} {a2 : Option Addr} {n2 : Nat} {a3 : Option Addr} {n3 : Nat} {x : CP} (h : Crs w a1 n1 a2 n2 a3 n3 x) (hb : Below w.heap.size w w') : Crs w' a1 n1 a2 n2 a3 n3 x := ⟨h.nm.kept hb, h.en.kept hb, h.sg.kept hb, h.mx⟩
def CpOk (n1 n2 n3 : Nat) (x : CP) : Prop := n1 ≤ 1048576 ∧ (∀ k, k < n1 → (x.parts.getD k default).val.size ≤ 1048576) ∧ n2 ≤ 1048576 ∧ (∀ k, k < n2 → GpOk (x.ents.getD k default)) ∧ n3 ≤ 1048576

set_option maxRecDepth 10000 in
set_option maxHeartbeats 400000 in
theorem szByteS_k (a : Option Addr) (n cap : Nat) (l : Int) (w : World) (hl0 : 0 ≤ l) (hl : l ≤ 1048576) (hn : n ≤ 9223372036854775807) :
    Calls Tryz.prog 25 #[.slice a n cap, .int .i64 l] w fun e w' => ∃ r, e = .returned (.int .i64 r) ∧ (r < 0 ∨ (0 ≤ r ∧ r ≤ 1048576 ∧ n ≤ 1048576)) ∧ w = w' := by
  by_cases hlt : (n : Int) ≤ l
  · go_enter Tryz.func25, Tryz.ntmps25
    go_wp2
    go_ret
    exact ⟨_, rfl, .inr (by omega), rfl⟩
  · go_enter Tryz.func25, Tryz.ntmps25
    go_wp2
    go_ret
    exact ⟨_, rfl, .inl (by decide), rfl⟩

end Go.Proofs.YtkpabanjlhlmfaaGreatDoor

namespace Go.Proofs.YtkpabanjlhlmfaaGreatDoor
open Go.RowKit

/-- What hangs on the blocks from B on alone. -/
def Stab (B : Nat) (R : World → Prop) : Prop := ∀ W W' : World, (∀ l, B ≤ l → l < W.heap.size → W'.heap[l]? = W.heap[l]?) → W.heap.size ≤ W'.heap.size → R W → R W'
theorem stab_and {B : Nat} {R Q : World → Prop} (h : Stab B R) (k : Stab B Q) : Stab B (fun W => R W ∧ Q W) := fun W W' e s r => ⟨h W W' e s r.1, k W W' e s r.2⟩
theorem stab_lt (B g : Nat) : Stab B (fun W => g < W.heap.size) := fun _ _ _ s h => Nat.lt_of_lt_of_le h s
theorem pts_move {B g n : Nat} {xs : List PT} (hB : B ≤ g) (W W' : World) (e : ∀ l, B ≤ l → l < W.heap.size → W'.heap[l]? = W.heap[l]?) (s : W.heap.size ≤ W'.heap.size) (h : Pts W (some ⟨g, 0, none⟩) n xs) : Pts W' (some ⟨g, 0, none⟩) n xs := by
  refine ⟨h.len, h.max, fun k hk => ?_⟩
  obtain ⟨b, off, ha, hlt, hc, hn⟩ := h.get k hk
  simp only [Option.some.injEq, Addr.mk.injEq, and_true] at ha
  obtain ⟨rfl, rfl⟩ := ha
  exact ⟨g, 0, rfl, Nat.lt_of_lt_of_le hlt s, hc.of (fun i => by simp [World.cell?, e g hB hlt]), hn⟩
theorem stab_pts {B g n : Nat} {xs : List PT} (hB : B ≤ g) : Stab B (fun W => Pts W (some ⟨g, 0, none⟩) n xs) := fun W W' e s h => pts_move hB W W' e s h
theorem stab_go {B g n : Nat} {xs : List GP} (hB : B ≤ g) : Stab B (fun W => GoPre W g n xs) := fun W W' e s h j hj => by
  obtain ⟨gn, nn, h1, h3, h4⟩ := h j hj
  have hlt : g < W.heap.size := World.block_lt_of_cell? W _ h3.c0
  exact ⟨gn, nn, h1, h3.of (fun i => by simp [World.cell?, e g hB hlt]), pts_move (by omega) W W' e s h4⟩
theorem stab_own {B B' : Nat} {a : Option Addr} {n cap : Nat} {bs : List Int} (hB : B ≤ B') : Stab B (fun W => Own B' W a n cap bs) := fun W W' e s h => by
  refine ⟨⟨h.row.1, ?_⟩, h.byte⟩
  rcases h.row.2 with q | ⟨g, c, cur, h1, hb, hg, r⟩
  · exact .inl q
  · exact .inr ⟨g, c, cur, h1, hb, (e g (by omega) (Array.getElem?_eq_some_iff.1 hg).1).trans hg, r⟩

end Go.Proofs.YtkpabanjlhlmfaaGreatDoor

namespace Go.Proofs.YtkpabanjlhlmfaaGreatDoor
open Go.RowKit

def U64 (v : Int) : Prop := 0 ≤ v ∧ v ≤ 18446744073709551615
theorem keepT {w w1 w2 : World} (h : Below w.heap.size w w1) (k : Below w1.heap.size w1 w2) : Below w.heap.size w w2 := h.trans (k.mono h.size)
theorem alloc_oldT (w : World) (o : Obj) (g : Nat) (hg : g < w.heap.size) : (w.alloc o).heap[g]? = w.heap[g]? := ((Below.refl w.heap.size w).alloc (Nat.le_refl _) o).block g hg
def kpv (sc y h : Int) : Value := .agg #[.int .i64 sc, .int .u64 y, .int .i64 h]
theorem wrap_big {x : Int} (hx : U64 x) (hb : ¬ x ≤ 9223372036854775807) : wrap64 x = x - 18446744073709551616 := by
  have := hx.2
  unfold wrap64
  omega

set_option maxRecDepth 10000 in
set_option maxHeartbeats 1000000 in
theorem schemeOf_1 (w : World) : Calls Tryz.prog 111 #[.int .i64 1] w fun e w' => e = .returned (.tuple #[.iface 165 (.agg #[]), .bool true]) ∧ w' = w := by
  go_enter Tryz.func111, Tryz.ntmps111
  go_wp2
  go_ret2
  exact ⟨rfl, rfl⟩

set_option maxRecDepth 10000 in
set_option maxHeartbeats 1000000 in
theorem schemeOf_2 (w : World) : Calls Tryz.prog 111 #[.int .i64 2] w fun e w' => e = .returned (.tuple #[.iface 166 (.agg #[]), .bool true]) ∧ w' = w := by
  go_enter Tryz.func111, Tryz.ntmps111
  go_wp2
  go_ret2
  exact ⟨rfl, rfl⟩

set_option maxRecDepth 10000 in
set_option maxHeartbeats 1000000 in
theorem schemeOf_o (k : Int) (w : World) (h1 : k ≠ 1) (h2 : k ≠ 2) : Calls Tryz.prog 111 #[.int .i64 k] w fun e w' => e = .returned (.tuple #[.nilIface, .bool false]) ∧ w' = w := by
  have z1 : (k == 1) = false := beq_false_of_ne h1
  have z2 : (k == 2) = false := beq_false_of_ne h2
  clear h1 h2
  go_enter Tryz.func111, Tryz.ntmps111
  go_wp2
  go_ret2
  exact ⟨rfl, rfl⟩

def gkP (y h : Int) : Prop := keyP y ∧ h = 0
instance (y h : Int) : Decidable (gkP y h) := by unfold gkP; infer_instance
def hbP (h : Int) : Prop := 0 ≤ h ∧ h ≤ 5
instance (h : Int) : Decidable (hbP h) := by unfold hbP; infer_instance
def pubP (sc y h : Int) : Prop := (sc = 1 ∧ gkP y h) ∨ (sc = 2 ∧ hbP h)
instance (sc y h : Int) : Decidable (pubP sc y h) := by unfold pubP; infer_instance
def ifvP (sc : Int) : Value := if sc = 1 then .iface 165 (.agg #[]) else if sc = 2 then .iface 166 (.agg #[]) else .nilIface
theorem keyP_lt {y : Int} (h : keyP y) : 2 ≤ y ∧ y ≤ 1000000006 := by
  have h1 := h.1.1
  have h2 := h.2
  omega

set_option maxRecDepth 10000 in
set_option maxHeartbeats 2000000 in
theorem groupPubOk_any (sc y h : Int) (w : World) (hy : U64 y) :
    Calls Tryz.prog 197 #[.agg #[], kpv sc y h] w fun e w' => e = .returned (.bool (decide (gkP y h))) ∧ Below w.heap.size w w' := by
  have hbb : Below w.heap.size w ((w.alloc (.cells #[] 165)).alloc (.cells #[.int .i64 sc, .int .u64 y, .int .i64 h] 40)) := two_below _ _ _
  obtain ⟨hx0, hx1⟩ := hy
  unfold kpv
  by_cases hs : keyP y
  · have hxs : y ≤ 9223372036854775807 := by have := (keyP_lt hs).2; omega
    by_cases h1 : h = 0
    · have HV : Hid (decide (gkP y h) = true) := decide_eq_true ⟨hs, h1⟩
      have z1 : (h == 0) = true := beq_iff_eq.2 h1
      clear h1
      go_enter Tryz.func197, Tryz.ntmps197
      go_wp2_with fail
      refine (isKey_any y _).mono ?_
      rintro e w2 ⟨rfl, rfl⟩
      rw [decide_eq_true hs]
      go_wp2
      go_ret
      exact ⟨by rw [HV.out]; rfl, hbb⟩
    · have HV : Hid (decide (gkP y h) = false) := decide_eq_false (fun hh => h1 hh.2)
      have z1 : (h == 0) = false := beq_false_of_ne h1
      clear h1
      go_enter Tryz.func197, Tryz.ntmps197
      go_wp2_with fail
      refine (isKey_any y _).mono ?_
      rintro e w2 ⟨rfl, rfl⟩
      rw [decide_eq_true hs]
      go_wp2
      go_ret
      exact ⟨by rw [HV.out]; rfl, hbb⟩
  · have HV : Hid (decide (gkP y h) = false) := decide_eq_false (fun hh => hs hh.1)
    by_cases hxs : y ≤ 9223372036854775807
    · go_enter Tryz.func197, Tryz.ntmps197
      go_wp2_with fail
      refine (isKey_any y _).mono ?_
      rintro e w2 ⟨rfl, rfl⟩
      rw [decide_eq_false hs]
      go_wp2
      go_ret
      exact ⟨by rw [HV.out]; rfl, hbb⟩
    · have hwr := wrap_big ⟨hx0, hx1⟩ hxs
      have hs2 : ¬ keyP (wrap64 y) := by rw [hwr]; intro hh; have := (keyP_lt hh).1; omega
      clear hwr
      go_enter Tryz.func197, Tryz.ntmps197
      go_wp2_with fail
      refine (isKey_any (wrap64 y) _).mono ?_
      rintro e w2 ⟨rfl, rfl⟩
      rw [decide_eq_false hs2]
      go_wp2
      go_ret
      exact ⟨by rw [HV.out]; rfl, hbb⟩

set_option maxRecDepth 10000 in
set_option maxHeartbeats 2000000 in
theorem treePubOk_any (sc y h : Int) (w : World) :
    Calls Tryz.prog 206 #[.agg #[], kpv sc y h] w fun e w' => e = .returned (.bool (decide (hbP h))) ∧ Below w.heap.size w w' := by
  have hbb : Below w.heap.size w ((w.alloc (.cells #[] 166)).alloc (.cells #[.int .i64 sc, .int .u64 y, .int .i64 h] 40)) := two_below _ _ _
  unfold kpv
  by_cases h1 : 0 ≤ h ∧ h ≤ 5
  · have HV : Hid (decide (hbP h) = true) := decide_eq_true h1
    go_enter Tryz.func206, Tryz.ntmps206
    go_wp2_with fail
    refine (inBounds_t h 0 5 _ h1).mono ?_
    rintro e w2 ⟨rfl, rfl⟩
    go_wp2
    go_ret
    exact ⟨by rw [HV.out]; rfl, hbb⟩
  · have HV : Hid (decide (hbP h) = false) := decide_eq_false h1
    go_enter Tryz.func206, Tryz.ntmps206
    go_wp2_with fail
    refine (inBounds_f h 0 5 _ h1).mono ?_
    rintro e w2 ⟨rfl, rfl⟩
    go_wp2
    go_ret
    exact ⟨by rw [HV.out]; rfl, hbb⟩

set_option maxRecDepth 10000 in
set_option maxHeartbeats 2000000 in
theorem pubScheme_any (sc y h : Int) (w : World) (hy : U64 y) :
    Calls Tryz.prog 86 #[kpv sc y h] w fun e w' => e = .returned (.tuple #[ifvP sc, .bool (decide (pubP sc y h))]) ∧ Below w.heap.size w w' := by
  have hbb : Below w.heap.size w (w.alloc (.cells #[.int .i64 sc, .int .u64 y, .int .i64 h] 40)) := (Below.refl _ _).alloc (Nat.le_refl _) _
  by_cases h1 : sc = 1
  · subst h1
    have HV : Hid (decide (pubP 1 y h) = decide (gkP y h)) := by
      show _ = _
      exact decide_eq_decide.2 ⟨fun hh => hh.elim (fun a => a.2) (fun a => absurd a.1 (by decide)), fun hh => .inl ⟨rfl, hh⟩⟩
    have HI : Hid (ifvP 1 = .iface 165 (.agg #[])) := rfl
    rw [HI.out, kpv]
    go_enter Tryz.func86, Tryz.ntmps86
    go_wp2_with fail
    refine (schemeOf_1 _).mono ?_
    rintro e w2 ⟨rfl, rfl⟩
    go_wp2_with fail
    refine (groupPubOk_any 1 y h _ hy).mono ?_
    rintro e w3 ⟨rfl, hb3⟩
    go_wp2
    go_ret2
    exact ⟨by rw [HV.out]; rfl, keepT hbb hb3⟩
  by_cases h2 : sc = 2
  · subst h2
    have HV : Hid (decide (pubP 2 y h) = decide (hbP h)) := by
      show _ = _
      exact decide_eq_decide.2 ⟨fun hh => hh.elim (fun a => absurd a.1 (by decide)) (fun a => a.2), fun hh => .inr ⟨rfl, hh⟩⟩
    have HI : Hid (ifvP 2 = .iface 166 (.agg #[])) := rfl
    rw [HI.out, kpv]
    go_enter Tryz.func86, Tryz.ntmps86
    go_wp2_with fail
    refine (schemeOf_2 _).mono ?_
    rintro e w2 ⟨rfl, rfl⟩
    go_wp2_with fail
    refine (treePubOk_any 2 y h _).mono ?_
    rintro e w3 ⟨rfl, hb3⟩
    go_wp2
    go_ret2
    exact ⟨by rw [HV.out]; rfl, keepT hbb hb3⟩
  · have HV : Hid (decide (pubP sc y h) = false) := decide_eq_false (fun hh => hh.elim (fun a => h1 a.1) (fun a => h2 a.1))
    have HI : Hid (ifvP sc = .nilIface) := by show _ = _; unfold ifvP; rw [if_neg h1, if_neg h2]
    rw [HI.out, kpv]
    go_enter Tryz.func86, Tryz.ntmps86
    go_wp2_with fail
    refine (schemeOf_o sc _ h1 h2).mono ?_
    rintro e w2 ⟨rfl, rfl⟩
    go_wp2
    go_ret2
    exact ⟨by rw [HV.out]; rfl, hbb⟩

set_option maxRecDepth 10000 in
set_option maxHeartbeats 2000000 in
theorem l8PubOk_any (sc y h : Int) (w : World) (hy : U64 y) :
    Calls Tryz.prog 28 #[kpv sc y h] w fun e w' => e = .returned (.bool (decide (pubP sc y h))) ∧ Below w.heap.size w w' := by
  have hbb : Below w.heap.size w (w.alloc (.cells #[.int .i64 sc, .int .u64 y, .int .i64 h] 40)) := (Below.refl _ _).alloc (Nat.le_refl _) _
  obtain ⟨hy0, hy1⟩ := hy
  unfold kpv
  by_cases h1 : sc = 1
  · subst h1
    have HV : Hid (decide (pubP 1 y h) = decide (gkP y h)) := by
      show _ = _
      exact decide_eq_decide.2 ⟨fun hh => hh.elim (fun a => a.2) (fun a => absurd a.1 (by decide)), fun hh => .inl ⟨rfl, hh⟩⟩
    by_cases hh : h = 0
    · have z1 : (h == 0) = true := beq_iff_eq.2 hh
      by_cases hy2 : 1 < y ∧ y < 1000000007
      · obtain ⟨hy3, hy4⟩ := hy2
        have HK : Hid (decide (gkP y h) = decide (memP y)) := by
          show _ = _
          exact decide_eq_decide.2 ⟨fun a => a.1.1, fun a => ⟨⟨a, by omega⟩, hh⟩⟩
        clear hh
        go_enter Tryz.func28, Tryz.ntmps28
        go_wp2_with fail
        refine (l7Member_any y _).mono ?_
        rintro e w2 ⟨rfl, rfl⟩
        go_wp2
        go_ret
        exact ⟨by rw [HV.out, HK.out]; rfl, hbb⟩
      · have HK : Hid (decide (gkP y h) = false) := decide_eq_false (fun a => hy2 (by have := keyP_lt a.1; omega))
        by_cases hy3 : 1 < y
        · have hy4 : ¬ (y < 1000000007) := fun a => hy2 ⟨hy3, a⟩
          clear hh hy2
          go_enter Tryz.func28, Tryz.ntmps28
          go_wp2
          go_ret
          exact ⟨by rw [HV.out, HK.out]; rfl, hbb⟩
        · clear hh hy2
          go_enter Tryz.func28, Tryz.ntmps28
          go_wp2
          go_ret
          exact ⟨by rw [HV.out, HK.out]; rfl, hbb⟩
    · have z1 : (h == 0) = false := beq_false_of_ne hh
      have HK : Hid (decide (gkP y h) = false) := decide_eq_false (fun a => hh a.2)
      clear hh
      go_enter Tryz.func28, Tryz.ntmps28
      go_wp2
      go_ret
      exact ⟨by rw [HV.out, HK.out]; rfl, hbb⟩
  · have z0 : (sc == 1) = false := beq_false_of_ne h1
    by_cases h2 : sc = 2
    · have z2 : (sc == 2) = true := beq_iff_eq.2 h2
      by_cases h3 : 0 ≤ h ∧ h ≤ 5
      · have HV : Hid (decide (pubP sc y h) = true) := decide_eq_true (.inr ⟨h2, h3⟩)
        clear h1 h2
        go_enter Tryz.func28, Tryz.ntmps28
        go_wp2_with fail
        refine (l1In_t h 0 5 _ h3).mono ?_
        rintro e w2 ⟨rfl, rfl⟩
        go_wp2
        go_ret
        exact ⟨by rw [HV.out]; rfl, hbb⟩
      · have HV : Hid (decide (pubP sc y h) = false) := decide_eq_false (fun hh => hh.elim (fun a => h1 a.1) (fun a => h3 a.2))
        clear h1 h2
        go_enter Tryz.func28, Tryz.ntmps28
        go_wp2_with fail
        refine (l1In_f h 0 5 _ h3).mono ?_
        rintro e w2 ⟨rfl, rfl⟩
        go_wp2
        go_ret
        exact ⟨by rw [HV.out]; rfl, hbb⟩
    · have z2 : (sc == 2) = false := beq_false_of_ne h2
      have HV : Hid (decide (pubP sc y h) = false) := decide_eq_false (fun hh => hh.elim (fun a => h1 a.1) (fun a => h2 a.1))
      clear h1 h2
      go_enter Tryz.func28, Tryz.ntmps28
      go_wp2
      go_ret
      exact ⟨by rw [HV.out]; rfl, hbb⟩

theorem results_kp {fn : Func} {t : Tmp} (h : fn.results = #[.cell t 40]) (tmps : Array Value) (g : Nat) (ht : tmps.getD t undef = .pointer (some ⟨g, 0, none⟩)) (w : World) (c0 c1 c2 : Value)
    (hb : w.heap[g]? = some (.cells #[c0, c1, c2] 40 (0, 0))) : (results fn tmps).run Tryz.prog w = .ok (.agg #[c0, c1, c2]) w := by
  have d0 : w.cell? ⟨g, 0, none⟩ = some c0 := (cell_of_row _ g 0 _ 40 (0, 0) hb).trans rfl
  have d1 : w.cell? ⟨g, 1, none⟩ = some c1 := (cell_of_row _ g 1 _ 40 (0, 0) hb).trans rfl
  have d2 : w.cell? ⟨g, 2, none⟩ = some c2 := (cell_of_row _ g 2 _ 40 (0, 0) hb).trans rfl
  clear hb
  have ht' : tmps[t]?.getD undef = .pointer (some ⟨g, 0, none⟩) := by rw [← ht]; simp
  simp [results, h, go_sem, ht', d0, d1, d2]

set_option maxRecDepth 10000 in
set_option maxHeartbeats 1000000 in
theorem toPub_any (a b c : Int) (w : World) :
    Calls Tryz.prog 33 #[kpv a b c] w fun e w' => e = .returned (kpv a b c) ∧ Below w.heap.size w w' := by
  have b1 : ((((w.alloc (.cells #[.int .i64 a, .int .u64 b, .int .i64 c] 27)).alloc (.cells #[.int .i64 a, .int .u64 b, .int .i64 c] 40)).alloc (.cells #[.int .i64 a, .int .u64 b, .int .i64 c] 40))).heap[w.heap.size + 1]? = some (.cells #[.int .i64 a, .int .u64 b, .int .i64 c] 40) := by
    have s1 : (w.alloc (.cells #[.int .i64 a, .int .u64 b, .int .i64 c] 27)).heap.size = w.heap.size + 1 := by simp
    exact (alloc_oldT _ _ _ (by simp)).trans (by rw [← s1]; exact heap_alloc_new _ _)
  have HB1 : Hid (_ = _) := b1
  clear b1
  unfold kpv
  go_enter Tryz.func33, Tryz.ntmps33
  go_wp2
  try simp only [Exit.inBlock, Exit.then]
  exact bodyPost_ret (results_kp rfl _ (w.heap.size + 1) rfl _ _ _ _ HB1.out) rfl ⟨rfl, (((Below.refl _ _).alloc (Nat.le_refl _) _).alloc (by simp) _).alloc (by simp; omega) _⟩

set_option maxRecDepth 10000 in
set_option maxHeartbeats 400000 in
theorem eqPub_one (a b c : Int) (w : World) :
    Calls Tryz.prog 47 #[kpv a b c, kpv a b c] w fun e w' => e = .returned (.bool true) ∧ Below w.heap.size w w' := by
  unfold kpv
  have z1 : (a != a) = false := by simp
  have z2 : (b != b) = false := by simp
  have z3 : (c != c) = false := by simp
  go_enter Tryz.func47, Tryz.ntmps47
  go_wp2
  go_ret
  exact ⟨rfl, two_below _ _ _⟩

set_option maxRecDepth 10000 in
set_option maxHeartbeats 1000000 in
theorem pubOk_any (sc y h : Int) (w : World) (hy : U64 y) :
    Calls Tryz.prog 42 #[kpv sc y h] w fun e w' => e = .returned (.bool (decide (pubP sc y h))) ∧ Below w.heap.size w w' := by
  have hbb : Below w.heap.size w (w.alloc (.cells #[.int .i64 sc, .int .u64 y, .int .i64 h] 40)) := (Below.refl _ _).alloc (Nat.le_refl _) _
  obtain ⟨d, hd⟩ : ∃ d, d = decide (pubP sc y h) := ⟨_, rfl⟩
  have PS := fun W => pubScheme_any sc y h W hy
  rw [← hd]
  have HD : Hid (decide (pubP sc y h) = d) := hd.symm
  clear hd
  unfold kpv at PS ⊢
  go_enter Tryz.func42, Tryz.ntmps42
  go_wp2_with fail
  refine (PS _).mono ?_
  rintro e w2 ⟨rfl, hb2⟩
  rw [HD.out]
  go_wp2
  go_ret
  exact ⟨rfl, keepT hbb hb2⟩

end Go.Proofs.YtkpabanjlhlmfaaGreatDoor

namespace Go.Proofs.YtkpabanjlhlmfaaGreatDoor
open Go.RowKit

/-- An anchor: what it holds. -/
structure AP where
  parts : List PT
  sch : Int
  y : Int
  ht : Int
  per : List GE
  den : List GE
  til : Int
def anv (a1 : Option Addr) (n1 c1 : Nat) (a2 : Option Addr) (n2 c2 : Nat) (a3 : Option Addr) (n3 c3 : Nat) (x : AP) : Value := .agg #[.slice a1 n1 c1, .int .i64 x.sch, .int .u64 x.y, .int .i64 x.ht, .slice a2 n2 c2, .slice a3 n3 c3, .int .i64 x.til]
/-- Its three slices are there. -/
structure Ans (w : World) (a1 : Option Addr) (n1 : Nat) (a2 : Option Addr) (n2 : Nat) (a3 : Option Addr) (n3 : Nat) (x : AP) : Prop where
  nm : Pts w a1 n1 x.parts
  pe : Ges w a2 n2 x.per
  de : Ges w a3 n3 x.den
  u : U64 x.y
theorem Ans.kept {w w' : World} {a1 : Option Addr} {n1 : Nat} {a2 : Option Addr} {n2 : Nat} {a3 : Option Addr} {n3 : Nat} {x : AP} (h : Ans w a1 n1 a2 n2 a3 n3 x) (hb : Below w.heap.size w w') : Ans w' a1 n1 a2 n2 a3 n3 x := ⟨h.nm.kept hb, h.pe.kept hb, h.de.kept hb, h.u⟩
def AnOk (n1 n2 n3 : Nat) (x : AP) : Prop := n1 ≤ 1048576 ∧ (∀ k, k < n1 → (x.parts.getD k default).val.size ≤ 1048576) ∧ n2 ≤ 1048576 ∧ (∀ k, k < n2 → GeOk (x.per.getD k default)) ∧ n3 ≤ 1048576 ∧ (∀ k, k < n3 → GeOk (x.den.getD k default))

theorem stab_ge {B g n : Nat} {xs : List GE} (hB : B ≤ g) : Stab B (fun W => GePre W g n xs) := fun W W' e s h j hj => by
  obtain ⟨gn, nn, h1, h3, h4⟩ := h j hj
  have hlt : g < W.heap.size := World.block_lt_of_cell? W _ h3.c0
  exact ⟨gn, nn, h1, h3.of (fun i => by simp [World.cell?, e g hB hlt]), pts_move (by omega) W W' e s h4⟩

end Go.Proofs.YtkpabanjlhlmfaaGreatDoor

namespace Go.Proofs.YtkpabanjlhlmfaaGreatDoor
open Go.RowKit

end Go.Proofs.YtkpabanjlhlmfaaGreatDoor

namespace Go.Proofs.YtkpabanjlhlmfaaGreatDoor
open Go.RowKit

end Go.Proofs.YtkpabanjlhlmfaaGreatDoor

namespace Go.Proofs.YtkpabanjlhlmfaaGreatDoor
open Go.RowKit

/-- A name that is right and not empty. -/
def calledP (xs : List PT) : Prop := nameP xs ∧ xs ≠ []
def timeP (t : Int) : Prop := 0 ≤ t ∧ t ≤ 253402300799
def likeP (x y : GP) : Prop := x.ser = y.ser ∧ sameP x.parts y.parts

end Go.Proofs.YtkpabanjlhlmfaaGreatDoor

