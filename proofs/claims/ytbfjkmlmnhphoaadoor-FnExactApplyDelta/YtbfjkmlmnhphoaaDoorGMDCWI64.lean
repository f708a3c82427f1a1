import Derived.Test.YtbfjkmlmnhphoaaDoorGMDAMDB
import Derived.Test.YtbfjkmlmnhphoaaDoorGMD3MD5
import Derived.Test.YtbfjkmlmnhphoaaDoorGW1W6
import Derived.Test.YtbfjkmlmnhphoaaDoorGTouchN1
set_option linter.unusedVariables false
namespace Go.Proofs.YtbfjkmlmnhphoaaDoor
open Go.RowKit

theorem ownsRow_in0 {w : World} {B t s n c g : Nat} {vs : List Value} (h : w.ownsRow B t s (.slice (some ⟨g, 0, none⟩) n c) n vs) : B ≤ g ∧ g < w.heap.size := by
  rcases h.2 with ⟨q, _⟩ | ⟨g', c1, cur, h1, hb, hg, r⟩
  · simp at q
  · simp only [Value.slice.injEq, Option.some.injEq, Addr.mk.injEq] at h1
    rw [h1.1.1]
    exact ⟨hb, (Array.getElem?_eq_some_iff.1 hg).1⟩
/-- The first k entries of the row B with their parts, all of our own. -/
structure PreQ (B : Nat) (w : World) (n k : Nat) (xs : List GP) (qs : Nat → Nat) (pv : Nat → List Value) (vs : List Value) : Prop where
  row : w.ownsRow B 63 4 (.slice (some ⟨B, 0, none⟩) n n) n vs
  at0 : ∀ j, j < k → vs[j * 4]? = some (.slice (some ⟨qs j, 0, none⟩) (xs.getD j default).parts.length (xs.getD j default).parts.length)
  each : ∀ j, j < k → w.ownsRow B 107 2 (.slice (some ⟨qs j, 0, none⟩) (xs.getD j default).parts.length (xs.getD j default).parts.length) (xs.getD j default).parts.length (pv j)
  gt : ∀ j, j < k → B < qs j ∧ qs j < w.heap.size
  apart : ∀ i j, i < j → j < k → qs i < qs j
theorem PreQ.start {B n : Nat} {w : World} {xs : List GP} {vs : List Value} (h : w.ownsRow B 63 4 (.slice (some ⟨B, 0, none⟩) n n) n vs) : PreQ B w n 0 xs (fun _ => 0) (fun _ => []) vs :=
  ⟨h, fun j hj => absurd hj (Nat.not_lt_zero _), fun j hj => absurd hj (Nat.not_lt_zero _), fun j hj => absurd hj (Nat.not_lt_zero _), fun i j _ hj => absurd hj (Nat.not_lt_zero _)⟩
theorem PreQ.step {B n k nn g2 : Nat} {w w2 : World} {xs : List GP} {qs : Nat → Nat} {pv : Nat → List Value} {vs v2 : List Value} (h : PreQ B w n k xs qs pv vs) (hk : k < n) (hb : Below w.heap.size w w2) (hv : w2.ownsRow w.heap.size 107 2 (.slice (some ⟨g2, 0, none⟩) nn nn) nn v2) (hg : w.heap.size ≤ g2) (hn : (xs.getD k default).parts.length = nn) (u1 u2 u3 : Value) :
    ∃ vs qs pv, PreQ B (put4 w2 B (k * 4) (.slice (some ⟨g2, 0, none⟩) nn nn) u1 u2 u3) n (k + 1) xs qs pv vs := by
  have hr := ownsRow_below h.row hb
  have hB : B < w.heap.size := (h.row.lt _ rfl).2
  have hl : vs.length = n * 4 := hr.1
  have hg2 : g2 < w2.heap.size := (ownsRow_in0 hv).2
  have h1 := ((((hr.stored (k * 4) (.slice (some ⟨g2, 0, none⟩) nn nn)).1.stored (k * 4 + 1) u1).1.stored (k * 4 + 2) u2).1.stored (k * 4 + 3) u3).1
  have hs := put4_size w2 B (k * 4) (.slice (some ⟨g2, 0, none⟩) nn nn) u1 u2 u3
  refine ⟨_, fun j => if j = k then g2 else qs j, fun j => if j = k then v2 else pv j, h1, fun j hj => ?_, fun j hj => ?_, fun j hj => ?_, fun i j hij hj => ?_⟩
  · by_cases e : j = k
    · subst e
      simp only [if_true]
      rw [List.getElem?_set_ne (by omega), List.getElem?_set_ne (by omega), List.getElem?_set_ne (by omega), List.getElem?_set_self (by omega), hn]
    · simp only [if_neg e]
      rw [List.getElem?_set_ne (by omega), List.getElem?_set_ne (by omega), List.getElem?_set_ne (by omega), List.getElem?_set_ne (by omega)]
      exact h.at0 j (by omega)
  · by_cases e : j = k
    · subst e
      simp only [if_true]
      rw [hn]
      exact ownsRow_lower (ownsRow_at hv (put4_other _ _ _ _ (by omega) _ _ _ _)) (by omega)
    · simp only [if_neg e]
      have hq := h.gt j (by omega)
      exact ownsRow_at (ownsRow_below (h.each j (by omega)) hb) (put4_other _ _ _ _ (by omega) _ _ _ _)
  · by_cases e : j = k
    · simp only [if_pos e]
      exact ⟨by omega, by rw [hs]; exact hg2⟩
    · simp only [if_neg e]
      have hq := h.gt j (by omega)
      exact ⟨hq.1, by rw [hs]; exact Nat.lt_of_lt_of_le hq.2 hb.size⟩
  · have hi : i ≠ k := by omega
    have hq := h.gt i (by omega)
    by_cases e : j = k
    · simp only [if_pos e, if_neg hi]; omega
    · simp only [if_neg e, if_neg hi]
      exact h.apart i j hij (by omega)
theorem PreQ.own {B n : Nat} {w : World} {xs : List GP} {qs : Nat → Nat} {pv : Nat → List Value} {vs : List Value} (h : PreQ B w n n xs qs pv vs) : OwnQ B w (some ⟨B, 0, none⟩) n n (fun j => (some ⟨qs j, 0, none⟩, (xs.getD j default).parts.length, (xs.getD j default).parts.length)) pv vs :=
  ⟨h.row, h.at0, fun j hj _ => h.each j hj, fun i j hi hj hne _ _ e => by
    simp only [Option.some.injEq, Addr.mk.injEq] at e
    rcases Nat.lt_or_gt_of_ne hne with q | q
    · have := h.apart i j q hj; omega
    · have := h.apart j i q hi; omega⟩

set_option maxRecDepth 10000 in
set_option maxHeartbeats 4000000 in
theorem toGoneS_own (a : Option Addr) (n cap : Nat) (xs : List GP) (w : World) (h : Gns w a n xs) (hn : n ≤ 1048576) (hz : ∀ k, k < n → GpOk (xs.getD k default)) :
    Calls Tryd.prog 33 #[.slice a n cap] w fun e w' => e = .returned (.slice (some ⟨w.heap.size, 0, none⟩) n n) ∧ (∃ vs qs pv, PreQ w.heap.size w' n n xs qs pv vs) ∧ GoPre w' w.heap.size n xs ∧ w.heap.size < w'.heap.size ∧ Below w.heap.size w w' := by
  obtain ⟨i0, hi, hz0, hz1, hz2⟩ := info_parts Tryd.infoGone
  have HK : Hid (Gns w a n xs) := h
  have HZ : Hid (∀ k, k < n → GpOk (xs.getD k default)) := hz
  have hlen : Hid (xs.length = n) := h.len
  clear h hz
  go_enter Tryd.func33, Tryd.ntmps33
  go_wp2_with (first | (at_make; refine wpList_make_full _ rfl _ _ 34 rfl w.heap.size 63 i0 _ 4 Tryd.underlying34 hi hz0 hz1 _ _ _ _ n rfl rfl rfl rfl (by rw [hz2]; omega) (by unfold maxLen; omega) (by exact Nat.le_refl _) ?_; intro w1 hown hgrow))
  have hbl : Below w.heap.size w w1 := (Below.refl _ _).grown hgrow (Nat.le_refl _) (by simp)
  clear hgrow hi hz0 hz1 hz2
  go_loopw [4] (fun i wr => ∃ k : Nat, k ≤ n ∧ i = .int .i64 k ∧ Hid (∃ vs qs pv, PreQ w.heap.size wr n k xs qs pv vs) ∧ Hid (GoPre wr w.heap.size k xs) ∧ Below w.heap.size w wr) (fun i _ => n - (intOf i).toNat)
  case atStart => exact ⟨0, Nat.zero_le _, rfl, ⟨_, fun _ => 0, fun _ => [], PreQ.start hown⟩, fun j hj => absurd hj (Nat.not_lt_zero _), hbl⟩
  case round =>
    obtain ⟨k, hk, rfl, HOR, HPRE, hbr⟩ := hrel
    obtain ⟨vs, qs, pv, hpq⟩ := HOR.out
    have HPQ : Hid (PreQ w.heap.size wr n k xs qs pv vs) := hpq
    have hor := hpq.row
    clear hpq
    have hgl := (hor.lt _ rfl).2
    have HOV : Hid (_) := hor
    clear HOR hor hown hbl
    by_cases hkn : k < n
    · obtain ⟨b, off, an, nn, cn, rfl, hlb, hc, hp⟩ := HK.out.get k hkn
      have hgp := HZ.out k hkn
      obtain ⟨y, hy⟩ : ∃ y, y = xs.getD k default := ⟨_, rfl⟩
      rw [← hy] at hc hp hgp
      have HY : Hid (y = xs.getD k default) := hy
      have HPL : Hid (y.parts.length = nn) := hp.len
      have hnn : nn ≤ 1048576 := by rw [← hp.len]; exact hgp.1
      obtain ⟨c0, c1, c2, c3⟩ := hc.of (w' := wr) (fun i => hbr.cell (p := ⟨b, i, none⟩) hlb)
      have HP : Hid (Pts wr an nn y.parts) := hp.kept hbr
      have hkni : (k : Int) < (n : Int) := by omega
      have hs := hbr.size
      clear hc hy hp hgp
      go_wp2_with fail
      refine (toGone_own an nn cn y _ HP.out hnn).mono ?_
      rintro e w2 ⟨g2, rfl, hg2, ⟨v2, hv2⟩, hp2, hb2⟩
      have hor2 : w2.ownsRow w.heap.size 63 4 (.slice (some ⟨w.heap.size, 0, none⟩) n n) n vs := ownsRow_below HOV.out hb2
      have hs2 := hb2.size
      have fr : ∀ j, w2.frozen? ⟨w.heap.size, j, none⟩ = false := fun j => hor2.frozenAt j
      have hvl : vs.length = n * 4 := hor2.1
      have cx : ∀ j, j < n * 4 → ∃ z, w2.cell? ⟨w.heap.size, j, none⟩ = some z := fun j hj => ⟨_, (hor2.cellAt j hj).trans (List.getElem?_eq_getElem (by omega))⟩
      obtain ⟨z0, x0⟩ := cx (k * 4) (by omega)
      obtain ⟨z1, x1⟩ := cx (k * 4 + 1) (by omega)
      obtain ⟨z2, x2⟩ := cx (k * 4 + 2) (by omega)
      obtain ⟨z3, x3⟩ := cx (k * 4 + 3) (by omega)
      have f0 := fr (k * 4)
      have f1 := fr (k * 4 + 1)
      have f2 := fr (k * 4 + 2)
      have f3 := fr (k * 4 + 3)
      have hS := put4_is hor2 k hkn (some ⟨g2, 0, none⟩) nn nn y
      have hP : GoPre (put4 w2 w.heap.size (k * 4) (.slice (some ⟨g2, 0, none⟩) nn nn) (.int .i64 y.ser) (.int .i64 y.tm) (.int .i64 y.rs)) w.heap.size (k + 1) xs := by
        intro j hj
        by_cases hjk : j = k
        · subst hjk
          rw [← HY.out]
          exact ⟨g2, nn, by omega, hS.cells, hp2.same (hS.other _ (by omega)) (Nat.le_of_eq hS.size.symm)⟩
        · obtain ⟨gn, mm, q1, q2, q3⟩ := (HPRE.out.kept hgl hb2) j (by omega)
          have hx := hS.old
          exact ⟨gn, mm, q1, ⟨(hx _ (by omega) (by omega)).trans q2.c0, (hx _ (by omega) (by omega)).trans q2.c1, (hx _ (by omega) (by omega)).trans q2.c2, (hx _ (by omega) (by omega)).trans q2.c3⟩, q3.same (hS.other _ (by omega)) (Nat.le_of_eq hS.size.symm)⟩
      have hB2 := hbr.trans (hb2.mono hs)
      have hB4 : Below w.heap.size w (put4 w2 w.heap.size (k * 4) (.slice (some ⟨g2, 0, none⟩) nn nn) (.int .i64 y.ser) (.int .i64 y.tm) (.int .i64 y.rs)) := ⟨hB2.os, hB2.tape, hB2.output, by rw [hS.size]; exact hB2.size, fun l hl => (hS.other l (by omega)).trans (hB2.block l hl)⟩
      have FIN : Hid (_ ∧ _ ∧ _) := ⟨HPQ.out.step hkn hb2 hv2 hg2 (by rw [← HY.out]; exact HPL.out) (.int .i64 y.ser) (.int .i64 y.tm) (.int .i64 y.rs), hP, hB4⟩
      have hgl2 : w.heap.size < w2.heap.size := by omega
      clear fr cx hS hP hB4 hB2 hor2 hp2 hv2 HPQ hb2 hvl HPRE HOV HP HK
      unfold gov
      go_wp2
      go_roundw
      case rel => exact ⟨k + 1, by omega, by go_num, FIN.out.1, FIN.out.2.1, FIN.out.2.2⟩
      case measure => simp [intOf]; omega
    · obtain rfl : n = k := by omega
      clear HOV
      go_wp2
      go_ret
      exact ⟨rfl, ⟨_, _, _, HPQ.out⟩, HPRE.out, hgl, hbr⟩

end Go.Proofs.YtbfjkmlmnhphoaaDoor

namespace Go.Proofs.YtbfjkmlmnhphoaaDoor
open Go.RowKit

/-- The slice at a reads as the numbers zs. -/
structure Row64 (w : World) (a : Option Addr) (n : Nat) (zs : List Int) : Prop where
  len : zs.length = n
  get : ∀ k, k < n → ∃ b off, a = some ⟨b, off, none⟩ ∧ b < w.heap.size ∧ w.cell? ⟨b, off + k, none⟩ = some (.int .i64 (zs.getD k 0))
theorem Row64.kept {w w' : World} {a : Option Addr} {n : Nat} {zs : List Int} (h : Row64 w a n zs) (hb : Below w.heap.size w w') : Row64 w' a n zs := by
  refine ⟨h.len, fun k hk => ?_⟩
  obtain ⟨b, off, ha, hlt, hc⟩ := h.get k hk
  exact ⟨b, off, ha, Nat.lt_of_lt_of_le hlt hb.size, (hb.cell (p := ⟨b, off + k, none⟩) hlt).trans hc⟩

/-- Numbers of our own, between lo and hi. -/
structure Own64 (lo hi : Nat) (w : World) (a : Option Addr) (n cap : Nat) (zs : List Int) : Prop where
  row : w.ownsRow lo 2 1 (.slice a n cap) n (zs.map (Value.int .i64))
  lt : ∀ x, a = some x → x.block < hi
theorem Own64.toRow {lo hi : Nat} {w : World} {a : Option Addr} {n cap : Nat} {zs : List Int} (h : Own64 lo hi w a n cap zs) : Row64 w a n zs := by
  have hl : zs.length = n := by simpa using h.row.1
  refine ⟨hl, fun k hk => ?_⟩
  rcases h.row.2 with ⟨_, h0⟩ | ⟨g, cap', cur, hv, hb, hg, r⟩
  · omega
  · simp only [Value.slice.injEq] at hv
    obtain ⟨rfl, _, rfl⟩ := hv
    refine ⟨g, 0, rfl, (Array.getElem?_eq_some_iff.1 hg).1, ?_⟩
    rw [Nat.zero_add, World.ownsRow.cellAt h.row k (by omega)]
    simp [show k < zs.length by omega]
theorem Own64.kept {lo hi : Nat} {w w' : World} {a : Option Addr} {n cap : Nat} {zs : List Int} (h : Own64 lo hi w a n cap zs) (hb : Below w.heap.size w w') : Own64 lo hi w' a n cap zs := ⟨ownsRow_below h.row hb, h.lt⟩
theorem Own64.touch {lo hi p q : Nat} {w w' : World} {a : Option Addr} {n cap : Nat} {zs : List Int} (h : Own64 lo hi w a n cap zs) (hd : hi ≤ p ∨ q ≤ lo) (ht : Touch p q w w') : Own64 lo hi w' a n cap zs := by
  refine ⟨⟨h.row.1, ?_⟩, h.lt⟩
  rcases h.row.2 with hn' | ⟨g, cap', cur, hv, hbb, hgg, rest⟩
  · exact .inl hn'
  · simp only [Value.slice.injEq] at hv
    obtain ⟨rfl, _, rfl⟩ := hv
    have hp := h.lt _ rfl
    simp at hp
    exact .inr ⟨g, cap, cur, rfl, hbb, (ht.block g (Array.getElem?_eq_some_iff.1 hgg).1 (by omega)).trans hgg, rest⟩

theorem Tryd.info2 : (Tryd.prog.info? 2).map (fun i => (i.zero, i.size, i.bytes)) = some (some (.int .i64 0), 1, 8) := by kernel_rfl

theorem made64 {B n : Nat} {w : World} {v : Value} (h : w.ownsRow B 2 1 v n (madeCells (Value.int .i64 0).cells (n * 1)).toList) : w.ownsRow B 2 1 v n ((List.replicate n (0 : Int)).map (Value.int .i64)) := by
  have e : (madeCells (Value.int .i64 0).cells (n * 1)).toList = (List.replicate n (0 : Int)).map (Value.int .i64) := by
    rw [List.map_replicate, Nat.mul_one]; exact toList_madeCells_one _ _
  rwa [e] at h

end Go.Proofs.YtbfjkmlmnhphoaaDoor
