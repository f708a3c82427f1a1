import Derived.Test.YtkpabanjlhlmfaaGreatDoorW1
import Derived.Test.YtkpabanjlhlmfaaGreatDoorTouch
namespace Go.Proofs.YtkpabanjlhlmfaaGreatDoor
open Go.RowKit

/-- The slice at a reads as the numbers zs. -/
structure Row64 (w : World) (a : Option Addr) (n : Nat) (zs : List Int) : Prop where
  len : zs.length = n
  get : ∀ k, k < n → ∃ b off, a = some ⟨b, off, none⟩ ∧ b < w.heap.size ∧ w.cell? ⟨b, off + k, none⟩ = some (.int .i64 (zs.getD k 0))
theorem Row64.kept {w w' : World} {a : Option Addr} {n : Nat} {zs : List Int} (h : Row64 w a n zs) (hb : Below w.heap.size w w') : Row64 w' a n zs := by
  refine ⟨h.len, fun k hk => ?_⟩
  obtain ⟨b, off, ha, hlt, hc⟩ := h.get k hk
  exact ⟨b, off, ha, Nat.lt_of_lt_of_le hlt hb.size, (hb.cell (p := ⟨b, off + k, none⟩) hlt).trans hc⟩

/-- Numbers of our own, between lo and hi. -/
structure Own64 (lo hi : Nat) (w : World) (a : Option Addr) (n cap : Nat) (zs : List Int) : Prop where
  row : w.ownsRow lo 2 1 (.slice a n cap) n (zs.map (Value.int .i64))
  lt : ∀ x, a = some x → x.block < hi
theorem Own64.toRow {lo hi : Nat} {w : World} {a : Option Addr} {n cap : Nat} {zs : List Int} (h : Own64 lo hi w a n cap zs) : Row64 w a n zs := by
  have hl : zs.length = n := by simpa using h.row.1
  refine ⟨hl, fun k hk => ?_⟩
  rcases h.row.2 with ⟨_, h0⟩ | ⟨g, cap', cur, hv, hb, hg, r⟩
  · omega
  · simp only [Value.slice.injEq] at hv
    obtain ⟨rfl, _, rfl⟩ := hv
    refine ⟨g, 0, rfl, (Array.getElem?_eq_some_iff.1 hg).1, ?_⟩
    rw [Nat.zero_add, World.ownsRow.cellAt h.row k (by omega)]
    simp [show k < zs.length by omega]
theorem Own64.kept {lo hi : Nat} {w w' : World} {a : Option Addr} {n cap : Nat} {zs : List Int} (h : Own64 lo hi w a n cap zs) (hb : Below w.heap.size w w') : Own64 lo hi w' a n cap zs := ⟨ownsRow_below h.row hb, h.lt⟩
theorem Own64.touch {lo hi p q : Nat} {w w' : World} {a : Option Addr} {n cap : Nat} {zs : List Int} (h : Own64 lo hi w a n cap zs) (hd : hi ≤ p ∨ q ≤ lo) (ht : Touch p q w w') : Own64 lo hi w' a n cap zs := by
  refine ⟨⟨h.row.1, ?_⟩, h.lt⟩
  rcases h.row.2 with hn' | ⟨g, cap', cur, hv, hbb, hgg, rest⟩
  · exact .inl hn'
  · simp only [Value.slice.injEq] at hv
    obtain ⟨rfl, _, rfl⟩ := hv
    have hp := h.lt _ rfl
    simp at hp
    exact .inr ⟨g, cap, cur, rfl, hbb, (ht.block g (Array.getElem?_eq_some_iff.1 hgg).1 (by omega)).trans hgg, rest⟩

theorem Tryz.info2 : (Tryz.prog.info? 2).map (fun i => (i.zero, i.size, i.bytes)) = some (some (.int .i64 0), 1, 8) := by kernel_rfl

theorem made64 {B n : Nat} {w : World} {v : Value} (h : w.ownsRow B 2 1 v n (madeCells (Value.int .i64 0).cells (n * 1)).toList) : w.ownsRow B 2 1 v n ((List.replicate n (0 : Int)).map (Value.int .i64)) := by
  have e : (madeCells (Value.int .i64 0).cells (n * 1)).toList = (List.replicate n (0 : Int)).map (Value.int .i64) := by
    rw [List.map_replicate, Nat.mul_one]; exact toList_madeCells_one _ _
  rwa [e] at h

set_option maxRecDepth 10000 in
set_option maxHeartbeats 400000 in
theorem toInt64S_any (a : Option Addr) (n cap : Nat) (zs : List Int) (w : World) (h : Row64 w a n zs) (hn : n ≤ 1048576) :
    Calls Tryz.prog 34 #[.slice a n cap] w fun e w' => ∃ a', e = .returned (.slice a' n n) ∧ Own64 w.heap.size w'.heap.size w' a' n n zs ∧ Below w.heap.size w w' := by
  obtain ⟨i0, hi, hz0, hz1, hz2⟩ := info_parts Tryz.info2
  have HL : Hid (zs.length = n) := h.len
  go_enter Tryz.func34, Tryz.ntmps34
  go_wp2_with (first | (at_make; refine wpList_make_full _ rfl _ _ 29 rfl w.heap.size 2 i0 (.int .i64 0) 1 Tryz.underlying29 hi hz0 hz1 _ _ _ _ n rfl rfl rfl rfl (by rw [hz2]; omega) (by unfold maxLen; omega) (by exact Nat.le_refl _) ?_; intro w1 hown hgrow))
  have ho := made64 hown
  have hbl : Below w.heap.size w w1 := (Below.refl _ _).grown hgrow (Nat.le_refl _) (by simp)
  clear hown hgrow hi hz0 hz1 hz2
  have H0 : Hid (Row64 w a n zs) := h
  clear h
  go_loopw [4] (fun i wr => ∃ k : Nat, k ≤ n ∧ i = .int .i64 k ∧ wr.ownsRow w.heap.size 2 1 (.slice (some ⟨w.heap.size, 0, none⟩) n n) n ((half zs k).map (Value.int .i64)) ∧ Below w.heap.size w wr) (fun i _ => n - (intOf i).toNat)
  case atStart => exact ⟨0, Nat.zero_le _, rfl, by rw [half_zero, HL.out]; exact ho, hbl⟩
  case round =>
    obtain ⟨k, hk, rfl, hor, hbr⟩ := hrel
    by_cases hlt : k < n
    · obtain ⟨b, off, rfl, hb, hc⟩ := H0.out.get k hlt
      have hcr : wr.cell? ⟨b, off + k, none⟩ = some (.int .i64 (zs.getD k 0)) := (hbr.cell (p := ⟨b, off + k, none⟩) hb).trans hc
      have hfr : wr.frozen? ⟨w.heap.size, k, none⟩ = false := hor.frozenAt k
      obtain ⟨y, hy⟩ : ∃ y, wr.cell? ⟨w.heap.size, k, none⟩ = some y := ⟨_, (hor.cellAt k (by omega)).trans (List.getElem?_eq_getElem (by simp [half_len zs k (by have := HL.out; omega), HL.out]; exact hlt))⟩
      have hs := (hor.stored k (.int .i64 (zs.getD k 0))).1
      rw [← List.map_set, half_set zs k (by have := HL.out; omega)] at hs
      have hb2 : Below w.heap.size w (wr.setCell ⟨w.heap.size, k, none⟩ (.int .i64 (zs.getD k 0))) := hbr.setCell (Nat.le_refl _) _
      clear hc hor hbr
      go_wp2
      go_roundw
      case rel => exact ⟨k + 1, by omega, by go_num, hs, hb2⟩
      case measure => simp [intOf]; omega
    · have hkn : k = n := by omega
      subst hkn
      rw [← HL.out, half_all] at hor
      have hlt2 := (hor.lt w.heap.size rfl).2
      go_wp2
      go_ret
      exact ⟨_, rfl, ⟨by rw [HL.out] at hor; exact hor, fun x hx => by cases hx; exact hlt2⟩, hbr⟩

set_option maxRecDepth 10000 in
set_option maxHeartbeats 400000 in
theorem eqInt64S_same (a b : Option Addr) (n ca cb : Nat) (zs : List Int) (w : World) (hx : Row64 w a n zs) (hy : Row64 w b n zs) (hn : n ≤ 9223372036854775807) :
    Calls Tryz.prog 48 #[.slice a n ca, .slice b n cb] w fun e w' => e = .returned (.bool true) ∧ Below w.heap.size w w' := by
  have HX : Hid (Row64 w a n zs) := hx
  have HY : Hid (Row64 w b n zs) := hy
  clear hx hy
  go_enter Tryz.func48, Tryz.ntmps48
  go_wp2
  go_loopw [5] (fun i wr => ∃ k : Nat, k ≤ n ∧ i = .int .i64 k ∧ Below w.heap.size w wr) (fun i _ => n - (intOf i).toNat)
  case atStart => exact ⟨0, Nat.zero_le _, rfl, Below.refl _ _⟩
  case round =>
    obtain ⟨k, hk, rfl, hbr⟩ := hrel
    by_cases hlt : k < n
    · obtain ⟨b1, off1, rfl, hb1, hc1⟩ := HX.out.get k hlt
      obtain ⟨b2, off2, rfl, hb2, hc2⟩ := HY.out.get k hlt
      have hr1 : wr.cell? ⟨b1, off1 + k, none⟩ = some (.int .i64 (zs.getD k 0)) := (hbr.cell (p := ⟨b1, off1 + k, none⟩) hb1).trans hc1
      have hr2 : wr.cell? ⟨b2, off2 + k, none⟩ = some (.int .i64 (zs.getD k 0)) := (hbr.cell (p := ⟨b2, off2 + k, none⟩) hb2).trans hc2
      clear hc1 hc2
      obtain ⟨z, hz⟩ : ∃ z, z = zs.getD k 0 := ⟨_, rfl⟩
      rw [← hz] at hr1 hr2
      clear hz
      go_wp2
      go_quiet (fail)
      go_wp2
      go_roundw
      case rel => exact ⟨k + 1, by omega, by go_num, below_drewN hbr nq⟩
      case measure => simp [intOf]; omega
    · go_wp2
      go_ret
      exact ⟨rfl, hbr⟩

end Go.Proofs.YtkpabanjlhlmfaaGreatDoor
