import Derived.Test.YtoncodoimnideaaGreatDoorQBW5
import Derived.Test.YtoncodoimnideaaGreatDoorQHM3w
import Derived.Test.YtoncodoimnideaaGreatDoorWLv
import Derived.Deep.DeepCutAuto
import Derived.Test.YtoncodoimnideaaGreatDoorQBW0
import Derived.Test.YtoncodoimnideaaGreatDoorMGN
namespace Go.Proofs.YtoncodoimnideaaGreatDoor
open Go.RowKit

set_option maxRecDepth 10000 in
set_option maxHeartbeats 400000 in
theorem big_any8 (a : Option Addr) (n cap : Nat) (w : World) (_hn : n ≤ 9223372036854775807) : Calls Tryz.prog 5 #[.slice a n cap] w fun e w' => e = .returned (.bool (decide (1048576 < (n : Int)))) ∧ w = w' := by
  go_enter Tryz.func5, Tryz.ntmps5
  go_wp2
  go_ret
  exact ⟨rfl, rfl⟩

theorem says_same {a b : Bool} {P : Prop} (h : a = true ↔ P) (k : b = true ↔ P) : a = b := by
  cases a with
  | true => exact (k.2 (h.1 rfl)).symm
  | false =>
    cases b with
    | true => exact h.2 (k.1 rfl)
    | false => rfl
theorem pts_none (w : World) : Pts w none 0 [] := ⟨rfl, by decide, fun k hk => absurd hk (Nat.not_lt_zero k)⟩
/-- The parts are small. -/
def SmP (m : Nat) (ys : List PT) : Prop := ∀ k, k < m → (ys.getD k default).val.size ≤ 1048576
theorem smP_none : SmP 0 [] := fun k hk => absurd hk (Nat.not_lt_zero k)
theorem OwnPt.smP {B : Nat} {w : World} {a : Option Addr} {n cap : Nat} {xs : List PT} (h : OwnPt B w a n cap xs) : SmP n xs := fun k hk => by
  have hl : k < xs.length := by rw [h.len]; exact hk
  have e : xs.getD k default = xs[k] := by simp [hl]
  rw [e]
  exact Nat.le_trans (h.small _ (List.getElem_mem hl)) (by decide)
theorem gcells {W : World} {g : Nat} {v0 v1 v2 v3 v4 : Value} (hb : W.heap[g]? = some (.cells #[v0, v1, v2, v3, v4] 30 (0, 0))) :
    W.cell? ⟨g, 0, none⟩ = some v0 ∧ W.cell? ⟨g, 1, none⟩ = some v1 ∧ W.cell? ⟨g, 2, none⟩ = some v2 ∧ W.cell? ⟨g, 3, none⟩ = some v3 ∧ W.cell? ⟨g, 4, none⟩ = some v4 :=
  ⟨(cell_of_row _ _ 0 _ 30 (0, 0) hb).trans rfl, (cell_of_row _ _ 1 _ 30 (0, 0) hb).trans rfl, (cell_of_row _ _ 2 _ 30 (0, 0) hb).trans rfl, (cell_of_row _ _ 3 _ 30 (0, 0) hb).trans rfl, (cell_of_row _ _ 4 _ 30 (0, 0) hb).trans rfl⟩
theorem cWithinI (k : Int) (t : ByteArray) (ad bi : Int) (a : Option Addr) (m c : Nat) (xs : List PT) (k2 : Int) (t2 : ByteArray) (ad2 bi2 : Int) (a2 : Option Addr) (m2 c2 : Nat) (ys : List PT) (w : World) (hm : MaxW w) (h : Pts w a m xs) (hz : SmP m xs) (hs : t.size ≤ 1048576) (h2 : Pts w a2 m2 ys) (hz2 : SmP m2 ys) (hs2 : t2.size ≤ 1048576) :
    Calls Tryz.prog 12 #[.agg #[.int .i64 k, .string t, .int .i64 ad, .int .i64 bi, .slice a m c], .agg #[.int .i64 k2, .string t2, .int .i64 ad2, .int .i64 bi2, .slice a2 m2 c2]] w (SaysB (withinP ⟨k, t, ad, bi⟩ xs ⟨k2, t2, ad2, bi2⟩ ys) w) := implWithin_any ⟨k, t, ad, bi⟩ a m c xs ⟨k2, t2, ad2, bi2⟩ a2 m2 c2 ys w hm h hz hs h2 hz2 hs2
theorem cWithinS (k : Int) (t : ByteArray) (ad bi : Int) (a : Option Addr) (m c : Nat) (xs : List PT) (k2 : Int) (t2 : ByteArray) (ad2 bi2 : Int) (a2 : Option Addr) (m2 c2 : Nat) (ys : List PT) (w : World) (h : Pts w a m xs) (hz : SmP m xs) (hs : t.size ≤ 1048576) (h2 : Pts w a2 m2 ys) (hz2 : SmP m2 ys) (hs2 : t2.size ≤ 1048576) :
    Calls Tryz.prog 13 #[.agg #[.int .i64 k, .string t, .int .i64 ad, .int .i64 bi, .slice a m c], .agg #[.int .i64 k2, .string t2, .int .i64 ad2, .int .i64 bi2, .slice a2 m2 c2]] w (SaysB (withinP ⟨k, t, ad, bi⟩ xs ⟨k2, t2, ad2, bi2⟩ ys) w) := specWithin_any ⟨k, t, ad, bi⟩ a m c xs ⟨k2, t2, ad2, bi2⟩ a2 m2 c2 ys w h hz hs h2 hz2 hs2
theorem cGenI (k : Int) (t : ByteArray) (ad bi : Int) (a : Option Addr) (m c : Nat) (xs : List PT) (w : World) (hm : MaxW w) (h : Pts w a m xs) (hz : SmP m xs) (hs : t.size ≤ 1048576) :
    Calls Tryz.prog 11 #[.agg #[.int .i64 k, .string t, .int .i64 ad, .int .i64 bi, .slice a m c]] w (SaysB (genP ⟨k, t, ad, bi⟩ xs) w) := implGenOk_any ⟨k, t, ad, bi⟩ a m c xs w hm h hz hs

theorem cBaseI (k : Int) (t : ByteArray) (ad bi : Int) (a : Option Addr) (m c : Nat) (xs : List PT) (w : World) (hm : MaxW w) (h : Pts w a m xs) (hz : SmP m xs) (hs : t.size ≤ 1048576) :
    Calls Tryz.prog 17 #[.agg #[.int .i64 k, .string t, .int .i64 ad, .int .i64 bi, .slice a m c]] w (SaysB (baseP ⟨k, t, ad, bi⟩ xs) w) := implBaseOk_any ⟨k, t, ad, bi⟩ a m c xs w hm h hz hs

theorem cBaseS (k : Int) (t : ByteArray) (ad bi : Int) (a : Option Addr) (m c : Nat) (xs : List PT) (w : World) (h : Pts w a m xs) (hz : SmP m xs) (hs : t.size ≤ 1048576) :
    Calls Tryz.prog 15 #[.agg #[.int .i64 k, .string t, .int .i64 ad, .int .i64 bi, .slice a m c]] w (SaysB (baseP ⟨k, t, ad, bi⟩ xs) w) := specBaseOk_any ⟨k, t, ad, bi⟩ a m c xs w h hz hs

/-- What the law holds on its way: the base's box, the pattern's, the host's. -/
structure WH (w W : World) (p h : ByteArray) (b8 b9 b10 : Nat) (k : Int) (t : ByteArray) (ad bi : Int) (a : Option Addr) (m c : Nat) (ys : List PT) : Prop where
  below : Below w.heap.size w W
  max : MaxW W
  x8 : W.heap[b8]? = some (.cells #[.int .i64 k, .string t, .int .i64 ad, .int .i64 bi, .slice a m c] 30 (0, 0))
  x9 : W.heap[b9]? = some (.cells #[.int .i64 1, .string p, .int .i64 0, .int .i64 0, .slice none 0 0] 30 (0, 0))
  x10 : W.heap[b10]? = some (.cells #[.int .i64 1, .string h, .int .i64 0, .int .i64 0, .slice none 0 0] 30 (0, 0))
  pts : Pts W a m ys
  sm : SmP m ys
  t : t.size ≤ 100
theorem WH.step {w W W' : World} {p h : ByteArray} {b8 b9 b10 : Nat} {k : Int} {t : ByteArray} {ad bi : Int} {a : Option Addr} {m c : Nat} {ys : List PT} (s : WH w W p h b8 b9 b10 k t ad bi a m c ys) (hb : Below W.heap.size W W') : WH w W' p h b8 b9 b10 k t ad bi a m c ys :=
  ⟨s.below.trans (hb.mono s.below.size), s.max.kept hb, (hb.block _ (Array.getElem?_eq_some_iff.1 s.x8).1).trans s.x8, (hb.block _ (Array.getElem?_eq_some_iff.1 s.x9).1).trans s.x9, (hb.block _ (Array.getElem?_eq_some_iff.1 s.x10).1).trans s.x10, s.pts.kept hb, s.sm, s.t⟩
/-- A text's first byte, as the program asks for it. -/
theorem first_star {p : ByteArray} (h : 0 < p.size) : ((p.extract 0 1).toList == [42]) = true ↔ cAt p 0 = 42 := by
  have e : (p.extract 0 1).toList = [p[0]] := by
    rw [ByteArray.toList_eq]
    have h0 : 0 < p.data.toList.length := by rw [← Lib.size_eq]; exact h
    have : (p.extract 0 1).data.toList = (p.data.toList.drop 0).take 1 := by rw [ByteArray.data_extract, Array.toList_extract, List.extract_eq_take_drop]
    rw [this, List.drop_zero]
    cases hq : p.data.toList with
    | nil => rw [hq] at h0; simp at h0
    | cons x r =>
      have : p[0] = x := by
        have h2 : p.data.toList[0]'h0 = x := by simp [hq]
        rw [← h2]; rfl
      rw [this]; rfl
  rw [e, cAt_get p 0 h]
  constructor
  · intro q
    simp only [beq_iff_eq, List.cons.injEq, and_true] at q
    rw [q]; rfl
  · intro q
    have : p[0] = 42 := by apply UInt8.toNat_inj.1; show _ = 42; omega
    rw [this]; rfl
theorem genP_host {s : ByteArray} (h : hostP s true) : genP ⟨1, s, 0, 0⟩ [] := .inl ⟨rfl, ⟨rfl, rfl, rfl⟩, h⟩
theorem within_host {s t : ByteArray} {ad bi : Int} {ys : List PT} : withinP ⟨1, s, 0, 0⟩ [] ⟨1, t, ad, bi⟩ ys ↔ hostP s true ∧ baseP ⟨1, t, ad, bi⟩ ys ∧ relH s t := by
  constructor
  · rintro ⟨h1, h2, h3, h4⟩
    refine ⟨?_, h2, ?_⟩
    · rcases h1 with ⟨_, _, h⟩ | ⟨h, _⟩ | ⟨h, _⟩ | ⟨h, _⟩
      · exact h
      · exact absurd (show (1 : Int) = 2 from h) (by decide)
      · exact absurd (show (1 : Int) = 3 from h) (by decide)
      · exact absurd (show (1 : Int) = 4 from h) (by decide)
    · rcases h4 with ⟨_, h⟩ | ⟨h, _⟩ | ⟨h, _⟩ | ⟨h, _⟩
      · exact h
      · exact absurd (show (1 : Int) = 2 from h) (by decide)
      · exact absurd (show (1 : Int) = 3 from h) (by decide)
      · exact absurd (show (1 : Int) = 4 from h) (by decide)
  · rintro ⟨h1, h2, h3⟩
    exact ⟨genP_host h1, h2, rfl, .inl ⟨rfl, h3⟩⟩

end Go.Proofs.YtoncodoimnideaaGreatDoor

namespace Go.Proofs.YtoncodoimnideaaGreatDoor
open Go.RowKit

/-! Bases: what is within a base is within a wider one. -/

theorem nameP_takeB {ys : List PT} (h : nameP ys) (k : Nat) : nameP (ys.take k) := by
  refine ⟨by rw [List.length_take]; have := h.1; omega, fun j hj => ?_⟩
  rw [List.length_take] at hj
  have := h.2 j (by omega)
  rwa [List.getD_eq_getElem?_getD, List.getElem?_take, if_pos (by omega), ← List.getD_eq_getElem?_getD]
theorem under_takeB {xs ys : List PT} (h : underP xs ys) (k : Nat) : underP xs (ys.take k) := by
  obtain ⟨h1, h2, h3, h4⟩ := h
  refine ⟨h1, nameP_takeB h2 k, by rw [List.length_take]; omega, fun j hj => ?_⟩
  rw [List.length_take] at hj
  have := h4 j (by omega)
  rwa [List.getD_eq_getElem?_getD (l := ys.take k), List.getElem?_take, if_pos (by omega), ← List.getD_eq_getElem?_getD]
theorem pow_split {i j : Nat} (h : j ≤ i) : (2 : Int) ^ i = 2 ^ j * 2 ^ (i - j) := by
  rw [← Int.pow_add, show j + (i - j) = i by omega]
/-- An address by fewer bits. -/
theorem addr_wide {x y k n : Int} (hk0 : 0 ≤ k) (hk1 : k ≤ 32) (h : relA x y k) (hn0 : 0 ≤ n) (hn : n ≤ k) : relA x (y / (2 : Int) ^ (32 - n).toNat * (2 : Int) ^ (32 - n).toNat) n := by
  unfold relA at h ⊢
  have hp : (0 : Int) < 2 ^ (32 - n).toNat := Int.pow_pos (by decide)
  rw [Int.mul_ediv_cancel _ (by omega)]
  have e : (2 : Int) ^ (32 - n).toNat = 2 ^ (32 - k).toNat * 2 ^ ((32 - n).toNat - (32 - k).toNat) := pow_split (by omega)
  have hq : (0 : Int) ≤ 2 ^ (32 - k).toNat := Int.pow_nonneg (by decide)
  rw [e, ← Int.ediv_ediv_of_nonneg hq, ← Int.ediv_ediv_of_nonneg hq, h]
theorem addr_base {y n : Int} (h0 : 0 ≤ y) (h1 : y ≤ 4294967295) : (0 ≤ y / (2 : Int) ^ (32 - n).toNat * (2 : Int) ^ (32 - n).toNat ∧ y / (2 : Int) ^ (32 - n).toNat * (2 : Int) ^ (32 - n).toNat ≤ 4294967295) ∧ (y / (2 : Int) ^ (32 - n).toNat * (2 : Int) ^ (32 - n).toNat) % (2 : Int) ^ (32 - n).toNat = 0 := by
  have hp : (0 : Int) < 2 ^ (32 - n).toNat := Int.pow_pos (by decide)
  refine ⟨⟨Int.mul_nonneg (Int.ediv_nonneg h0 (by omega)) (by omega), ?_⟩, Int.mul_emod_left _ _⟩
  have := Int.ediv_mul_le y (Int.ne_of_gt hp)
  omega

/-- The text that is left of a base behind its sign, if it has one. -/
def hostIs (b s : ByteArray) : Prop := (has b 64 ∧ s = bh b 64) ∨ (¬ has b 64 ∧ s = b)
/-- What the law cuts off. -/
def cutOk (s : ByteArray) (at' : Nat) : Prop := at' = 0 ∨ (0 < at' ∧ at' + 1 < s.size ∧ cAt s at' = 46)
theorem dot_host {s : ByteArray} {t : Nat} (h : hostP s false) (ht : t < s.size) (hc : cAt s t = 46) : hostP ((s.extract t s.size).extract 1 (s.extract t s.size).size) false ∧ cAt (s.extract t s.size) 0 = 46 ∧ 0 < (s.extract t s.size).size := by
  have hz : (s.extract t s.size).size = s.size - t := ext_sz _ _ _ (Nat.le_refl _)
  refine ⟨?_, ?_, by omega⟩
  · rw [hz, ext_ext s t 1 (s.size - t) (by omega), show t + (s.size - t) = s.size by omega]
    exact host_suffix h ht hc
  · rw [ext_cAt s t s.size 0 (by omega)]
    exact hc
/-- A host base. -/
theorem host_wide {s b : ByteArray} (hb : hostP b false) (hr : relH s b) {t : Nat} (ht2 : t + 1 < b.size) (hc : cAt b t = 46) :
    hostP (b.extract (t + 1) b.size) false ∧ relH s (b.extract (t + 1) b.size) := by
  refine ⟨host_suffix hb (by omega) hc, .inr ?_⟩
  have he : endsP b (⟨#[46]⟩ ++ b.extract (t + 1) b.size) := by
    rw [← dot_suffix (by omega) hc]
    exact ends_suffix b t (by omega)
  rcases hr with hr | hr
  · rw [hr]; exact he
  · refine ends_trans (ends_trans hr ?_) he
    rw [ends_iff, cat_size]
    have e1 : (⟨#[46]⟩ : ByteArray).size = 1 := rfl
    refine ⟨by omega, fun j hj => ?_⟩
    rw [show (⟨#[46]⟩ : ByteArray).size + b.size - b.size + j = (⟨#[46]⟩ : ByteArray).size + j by omega, cat_right]
/-- A mail base: its host, or a point and a host. -/
def tailP (s : ByteArray) : Prop := hostP s false ∨ (0 < s.size ∧ cAt s 0 = 46 ∧ hostP (s.extract 1 s.size) false)
theorem tail_base {s : ByteArray} (h : tailP s) : mbaseP s := h.elim (fun h => .inr (.inl h)) (fun h => .inr (.inr h))
theorem tail_no64 {s : ByteArray} (h : tailP s) (j : Nat) (hj : j < s.size) : cAt s j ≠ 64 := by
  rcases h with h | ⟨h0, h1, h2⟩
  · exact host_no64 h j hj
  · rcases Nat.eq_zero_or_pos j with e | e
    · subst e; rw [h1]; decide
    · have h3 := host_no64 h2 (j - 1) (by rw [ext_sz s 1 s.size (Nat.le_refl _)]; omega)
      rwa [ext_cAt s 1 s.size (j - 1) (by omega), show 1 + (j - 1) = j by omega] at h3
/-- What is behind the sign of a mail base. -/
theorem mail_tail {b s : ByteArray} (h : mbaseP b) (hs : hostIs b s) : tailP s ∧ ∀ t, mailP t → relM t b → relM t s := by
  rcases hs with ⟨hh, rfl⟩ | ⟨hh, rfl⟩
  · obtain ⟨j, hj, hc⟩ := hh
    have hm := mbase_at h hj hc
    have hp := mail_host hm
    refine ⟨.inl hp, fun t ht hr => ?_⟩
    have e := (relM_at ht h hj hc).1 hr
    subst e
    exact .inr ⟨host_nodot hp, .inr rfl⟩
  · have hn : ∀ j, j < s.size → cAt s j ≠ 64 := fun j hj hc => hh ⟨j, hj, hc⟩
    refine ⟨?_, fun t _ hr => hr⟩
    rcases h with h | h | h
    · obtain ⟨j, h1, h2⟩ := mail_has h
      exact absurd h2 (hn j h1)
    · exact .inl h
    · exact .inr h
/-- Cut at a point it is a base still, and no narrower. -/
theorem tail_cut {s : ByteArray} (h : tailP s) {t : Nat} (ht : 0 < t) (ht2 : t + 1 < s.size) (hc : cAt s t = 46) : tailP (s.extract t s.size) ∧ ∀ x, relM x s → (∀ j, j < s.size → cAt s j ≠ 64) → mailP x → relM x (s.extract t s.size) := by
  have hz : (s.extract t s.size).size = s.size - t := ext_sz _ _ _ (Nat.le_refl _)
  have h0 : cAt (s.extract t s.size) 0 = 46 := by rw [ext_cAt s t s.size 0 (by omega)]; exact hc
  refine ⟨.inr ⟨by omega, h0, ?_⟩, fun x hr hn hx => ?_⟩
  · rw [hz, ext_ext s t 1 (s.size - t) (by omega), show t + (s.size - t) = s.size by omega]
    rcases h with h | ⟨g0, g1, g2⟩
    · exact host_suffix h (by omega) hc
    · have hs1 : (s.extract 1 s.size).size = s.size - 1 := ext_sz _ _ _ (Nat.le_refl _)
      have := host_suffix (s := s.extract 1 s.size) (t := t - 1) g2 (by omega) (by rw [ext_cAt s 1 s.size (t - 1) (by omega), show 1 + (t - 1) = t by omega]; exact hc)
      rwa [hs1, ext_ext s 1 (t - 1 + 1) (s.size - 1) (by omega), show 1 + (t - 1 + 1) = t + 1 by omega, show 1 + (s.size - 1) = s.size by omega] at this
  · refine .inl ⟨h0, ?_⟩
    have he := ends_suffix s t (by omega)
    rcases (relM_no hx hn).1 hr with ⟨_, h2⟩ | ⟨_, h2⟩
    · exact ends_trans h2 he
    · rw [h2]; exact he

end Go.Proofs.YtoncodoimnideaaGreatDoor

