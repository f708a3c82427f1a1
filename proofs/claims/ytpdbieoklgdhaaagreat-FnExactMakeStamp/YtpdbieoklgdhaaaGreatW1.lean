import Derived.Test.YtpdbieoklgdhaaaGreatProg
import Derived.Test.YtpdbieoklgdhaaaGreatBase
import Derived.WalkKit
import Derived.WalkSpells
import Derived.WalkLawsBesides
import Derived.Deep.QuietTactic
import Derived.BigQuiet
namespace Go.Proofs.YtpdbieoklgdhaaaGreat
open Go.RowKit

theorem take_next {xs ys : List Int} {k : Nat} (h : xs.take k = ys.take k) (e : xs.getD k 0 = ys.getD k 0) (hx : k < xs.length) (hy : k < ys.length) : xs.take (k + 1) = ys.take (k + 1) := by
  rw [List.take_succ_eq_append_getElem hx, List.take_succ_eq_append_getElem hy, h]
  simp [hx, hy] at e
  rw [e]
theorem take_whole {xs ys : List Int} {k : Nat} (h : xs.take k = ys.take k) (hx : xs.length ≤ k) (hy : ys.length ≤ k) : xs = ys := by
  rwa [List.take_of_length_le hx, List.take_of_length_le hy] at h


theorem Tryz.info5 : (Tryz.prog.info? 5).map (fun i => (i.zero, i.size, i.bytes)) = some (some (.int .u8 0), 1, 1) := by kernel_rfl

set_option maxRecDepth 10000 in
set_option maxHeartbeats 400000 in
theorem eqByteS_any (a b : Option Addr) (n m ca cb : Nat) (xs ys : List Int) (w : World) (hx : Row w a n xs) (hy : Row w b m ys) (hn : n ≤ maxLen) (hm : m ≤ maxLen) :
    Calls Tryz.prog 20 #[.slice a n ca, .slice b m cb] w fun e w' => e = .returned (.bool (decide (xs = ys))) ∧ Below w.heap.size w w' := by
  unfold maxLen at hn hm
  have HX : Hid (Row w a n xs) := hx
  have HY : Hid (Row w b m ys) := hy
  clear hx hy
  by_cases hnm : n = m
  · subst hnm
    go_enter Tryz.func20, Tryz.ntmps20
    go_wp2
    go_loopw [5] (fun i wr => ∃ k : Nat, k ≤ n ∧ i = .int .i64 k ∧ Below w.heap.size w wr ∧ xs.take k = ys.take k) (fun i _ => n - (intOf i).toNat)
    case atStart => exact ⟨0, Nat.zero_le _, rfl, Below.refl _ _, by simp⟩
    case round =>
      obtain ⟨k, hk, rfl, hbr, hpre⟩ := hrel
      by_cases hlt : k < n
      · obtain ⟨b1, off1, rfl, hb1, hc1⟩ := HX.out.get k hlt
        obtain ⟨b2, off2, rfl, hb2, hc2⟩ := HY.out.get k hlt
        have hr1 : wr.cell? ⟨b1, off1 + k, none⟩ = some (.int .u8 (xs.getD k 0)) := (hbr.cell (p := ⟨b1, off1 + k, none⟩) hb1).trans hc1
        have hr2 : wr.cell? ⟨b2, off2 + k, none⟩ = some (.int .u8 (ys.getD k 0)) := (hbr.cell (p := ⟨b2, off2 + k, none⟩) hb2).trans hc2
        clear hc1 hc2
        have HP : Hid (xs.take k = ys.take k) := hpre
        clear hpre
        obtain ⟨x, hx⟩ : ∃ x, x = xs.getD k 0 := ⟨_, rfl⟩
        obtain ⟨y, hy⟩ : ∃ y, y = ys.getD k 0 := ⟨_, rfl⟩
        rw [← hx] at hr1
        rw [← hy] at hr2
        have Hx : Hid (x = xs.getD k 0) := hx
        have Hy : Hid (y = ys.getD k 0) := hy
        clear hx hy
        have lx := HX.out.len
        have ly := HY.out.len
        have LX : Hid (xs.length = n) := lx
        have LY : Hid (ys.length = n) := ly
        clear lx ly
        by_cases hxy : x = y
        · subst hxy
          go_wp2
          go_quiet (fail)
          go_wp2
          go_roundw
          case rel => exact ⟨k + 1, by omega, by go_num, (below_drewN hbr nq), take_next HP.out (Hx.out.symm.trans Hy.out) (by have := LX.out; omega) (by have := LY.out; omega)⟩
          case measure => simp [intOf]; omega
        · have hne : (x != y) = true := by simp [hxy]
          go_wp2
          go_quiet (fail)
          go_wp2
          go_ret
          exact ⟨by rw [decide_eq_false (fun e => hxy (by rw [Hx.out, Hy.out, e]))]; rfl, below_drewN hbr nq⟩
      · go_wp2
        go_ret
        exact ⟨by rw [decide_eq_true (take_whole hpre (by have := HX.out.len; omega) (by have := HY.out.len; omega))]; rfl, hbr⟩
  · have hne : ((n : Int) != (m : Int)) = true := by simp; omega
    go_enter Tryz.func20, Tryz.ntmps20
    go_wp2
    go_ret
    exact ⟨by rw [decide_eq_false (fun e => hnm (by rw [← HX.out.len, ← HY.out.len, e]))]; rfl, Below.refl _ _⟩

end Go.Proofs.YtpdbieoklgdhaaaGreat
