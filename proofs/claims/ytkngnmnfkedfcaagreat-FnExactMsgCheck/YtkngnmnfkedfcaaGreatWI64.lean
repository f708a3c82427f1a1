import Derived.Test.YtkngnmnfkedfcaaGreatW1
import Derived.Test.YtkngnmnfkedfcaaGreatTouch
namespace Go.Proofs.YtkngnmnfkedfcaaGreat
open Go.RowKit

/-- The slice at a reads as the numbers zs. -/
structure Row64 (w : World) (a : Option Addr) (n : Nat) (zs : List Int) : Prop where
  len : zs.length = n
  get : ∀ k, k < n → ∃ b off, a = some ⟨b, off, none⟩ ∧ b < w.heap.size ∧ w.cell? ⟨b, off + k, none⟩ = some (.int .i64 (zs.getD k 0))
theorem Row64.kept {w w' : World} {a : Option Addr} {n : Nat} {zs : List Int} (h : Row64 w a n zs) (hb : Below w.heap.size w w') : Row64 w' a n zs := by
  refine ⟨h.len, fun k hk => ?_⟩
  obtain ⟨b, off, ha, hlt, hc⟩ := h.get k hk
  exact ⟨b, off, ha, Nat.lt_of_lt_of_le hlt hb.size, (hb.cell (p := ⟨b, off + k, none⟩) hlt).trans hc⟩

/-- Numbers of our own, between lo and hi. -/
structure Own64 (lo hi : Nat) (w : World) (a : Option Addr) (n cap : Nat) (zs : List Int) : Prop where
  row : w.ownsRow lo 2 1 (.slice a n cap) n (zs.map (Value.int .i64))
  lt : ∀ x, a = some x → x.block < hi
theorem Own64.toRow {lo hi : Nat} {w : World} {a : Option Addr} {n cap : Nat} {zs : List Int} (h : Own64 lo hi w a n cap zs) : Row64 w a n zs := by
  have hl : zs.length = n := by simpa using h.row.1
  refine ⟨hl, fun k hk => ?_⟩
  rcases h.row.2 with ⟨_, h0⟩ | ⟨g, cap', cur, hv, hb, hg, r⟩
  · omega
  · simp only [Value.slice.injEq] at hv
    obtain ⟨rfl, _, rfl⟩ := hv
    refine ⟨g, 0, rfl, (Array.getElem?_eq_some_iff.1 hg).1, ?_⟩
    rw [Nat.zero_add, World.ownsRow.cellAt h.row k (by omega)]
    simp [show k < zs.length by omega]
theorem Own64.kept {lo hi : Nat} {w w' : World} {a : Option Addr} {n cap : Nat} {zs : List Int} (h : Own64 lo hi w a n cap zs) (hb : Below w.heap.size w w') : Own64 lo hi w' a n cap zs := ⟨ownsRow_below h.row hb, h.lt⟩
theorem Own64.touch {lo hi p q : Nat} {w w' : World} {a : Option Addr} {n cap : Nat} {zs : List Int} (h : Own64 lo hi w a n cap zs) (hd : hi ≤ p ∨ q ≤ lo) (ht : Touch p q w w') : Own64 lo hi w' a n cap zs := by
  refine ⟨⟨h.row.1, ?_⟩, h.lt⟩
  rcases h.row.2 with hn' | ⟨g, cap', cur, hv, hbb, hgg, rest⟩
  · exact .inl hn'
  · simp only [Value.slice.injEq] at hv
    obtain ⟨rfl, _, rfl⟩ := hv
    have hp := h.lt _ rfl
    simp at hp
    exact .inr ⟨g, cap, cur, rfl, hbb, (ht.block g (Array.getElem?_eq_some_iff.1 hgg).1 (by omega)).trans hgg, rest⟩

theorem Tryz.info2 : (Tryz.prog.info? 2).map (fun i => (i.zero, i.size, i.bytes)) = some (some (.int .i64 0), 1, 8) := by kernel_rfl

theorem made64 {B n : Nat} {w : World} {v : Value} (h : w.ownsRow B 2 1 v n (madeCells (Value.int .i64 0).cells (n * 1)).toList) : w.ownsRow B 2 1 v n ((List.replicate n (0 : Int)).map (Value.int .i64)) := by
  have e : (madeCells (Value.int .i64 0).cells (n * 1)).toList = (List.replicate n (0 : Int)).map (Value.int .i64) := by
    rw [List.map_replicate, Nat.mul_one]; exact toList_madeCells_one _ _
  rwa [e] at h

set_option maxRecDepth 10000 in
set_option maxHeartbeats 400000 in
theorem eqInt64S_same (a b : Option Addr) (n ca cb : Nat) (zs : List Int) (w : World) (hx : Row64 w a n zs) (hy : Row64 w b n zs) (hn : n ≤ 9223372036854775807) :
    Calls Tryz.prog 10 #[.slice a n ca, .slice b n cb] w fun e w' => e = .returned (.bool true) ∧ Below w.heap.size w w' := by
  have HX : Hid (Row64 w a n zs) := hx
  have HY : Hid (Row64 w b n zs) := hy
  clear hx hy
  go_enter Tryz.func10, Tryz.ntmps10
  go_wp2
  go_loopw [5] (fun i wr => ∃ k : Nat, k ≤ n ∧ i = .int .i64 k ∧ Below w.heap.size w wr) (fun i _ => n - (intOf i).toNat)
  case atStart => exact ⟨0, Nat.zero_le _, rfl, Below.refl _ _⟩
  case round =>
    obtain ⟨k, hk, rfl, hbr⟩ := hrel
    by_cases hlt : k < n
    · obtain ⟨b1, off1, rfl, hb1, hc1⟩ := HX.out.get k hlt
      obtain ⟨b2, off2, rfl, hb2, hc2⟩ := HY.out.get k hlt
      have hr1 : wr.cell? ⟨b1, off1 + k, none⟩ = some (.int .i64 (zs.getD k 0)) := (hbr.cell (p := ⟨b1, off1 + k, none⟩) hb1).trans hc1
      have hr2 : wr.cell? ⟨b2, off2 + k, none⟩ = some (.int .i64 (zs.getD k 0)) := (hbr.cell (p := ⟨b2, off2 + k, none⟩) hb2).trans hc2
      clear hc1 hc2
      obtain ⟨z, hz⟩ : ∃ z, z = zs.getD k 0 := ⟨_, rfl⟩
      rw [← hz] at hr1 hr2
      clear hz
      go_wp2
      go_quiet (fail)
      go_wp2
      go_roundw
      case rel => exact ⟨k + 1, by omega, by go_num, below_drewN hbr nq⟩
      case measure => simp [intOf]; omega
    · go_wp2
      go_ret
      exact ⟨rfl, hbr⟩

set_option maxRecDepth 10000 in
set_option maxHeartbeats 400000 in
theorem markInt64S_any (lo hi : Nat) (a : Option Addr) (n cap k : Nat) (zs : List Int) (w : World) (h : Own64 lo hi w a n cap zs) (hn : n ≤ 1000000000) (hk : k ≤ 1000000000) :
    Calls Tryz.prog 15 #[.slice a n cap, .int .i64 k] w fun e w' => e = .returned (.int .i64 (k + n : Nat)) ∧ Touch lo hi w w' := by
  have HLT : Hid (_) := h.lt
  have HRW : Hid (_) := h.row
  clear h
  go_enter Tryz.func15, Tryz.ntmps15
  go_wp2
  go_loopw [1, 5] (fun kk i wr => ∃ j : Nat, j ≤ n ∧ i = .int .i64 j ∧ kk = .int .i64 (k + j : Nat) ∧ (∃ vs, wr.ownsRow lo 2 1 (.slice a n cap) n vs) ∧ Touch lo hi w wr) (fun _ i _ => n - (intOf i).toNat)
  case atStart => exact ⟨0, Nat.zero_le _, rfl, rfl, ⟨_, HRW.out⟩, Touch.of_below (Below.refl _ _)⟩
  case round =>
    obtain ⟨j, hj, rfl, rfl, ⟨vs, hor⟩, htr⟩ := hrel
    by_cases hlt : j < n
    · obtain ⟨g, rfl⟩ : ∃ g, a = some ⟨g, 0, none⟩ := by
        rcases hor.2 with ⟨_, h0⟩ | ⟨g, cap', cur, hv, _⟩
        · omega
        · simp only [Value.slice.injEq] at hv
          exact ⟨g, hv.1⟩
      have hfr : wr.frozen? ⟨g, j, none⟩ = false := hor.frozenAt j
      have hvl : vs.length = n * 1 := hor.1
      obtain ⟨y, hy⟩ : ∃ y, wr.cell? ⟨g, j, none⟩ = some y := ⟨_, (hor.cellAt j (by omega)).trans (List.getElem?_eq_getElem (by omega))⟩
      have hs := (hor.stored j (.int .i64 ((k : Int) + (j : Int)))).1
      have hlg := (hor.lt g rfl).1
      have hg2 := HLT.out _ rfl
      have ht2 : Touch lo hi w (wr.setCell ⟨g, j, none⟩ (.int .i64 ((k : Int) + (j : Int)))) := htr.trans ⟨rfl, rfl, rfl, by simp, fun i _ hi' => heap_setCell_other wr ⟨g, j, none⟩ i _ (by simp at hg2; simp; omega)⟩
      have FIN : Hid (_ ∧ _) := ⟨hs, ht2⟩
      clear hor htr hs ht2
      go_wp2
      go_roundw
      case rel => exact ⟨j + 1, by omega, by go_num, by go_num, ⟨_, FIN.out.1⟩, FIN.out.2⟩
      case measure => simp [intOf]; omega
    · have hjn : j = n := by omega
      subst hjn
      go_wp2
      go_ret
      exact ⟨rfl, htr⟩

end Go.Proofs.YtkngnmnfkedfcaaGreat
