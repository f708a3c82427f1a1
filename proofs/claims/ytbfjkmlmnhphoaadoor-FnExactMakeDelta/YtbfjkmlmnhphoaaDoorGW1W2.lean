import Derived.Test.YtbfjkmlmnhphoaaDoorProg
import Derived.Test.YtbfjkmlmnhphoaaDoorBase
import Derived.WalkKit
import Derived.WalkSpells
import Derived.WalkLawsBesides
import Derived.Deep.QuietTactic
import Derived.BigQuiet
namespace Go.Proofs.YtbfjkmlmnhphoaaDoor
open Go.RowKit

theorem take_next {xs ys : List Int} {k : Nat} (h : xs.take k = ys.take k) (e : xs.getD k 0 = ys.getD k 0) (hx : k < xs.length) (hy : k < ys.length) : xs.take (k + 1) = ys.take (k + 1) := by
  rw [List.take_succ_eq_append_getElem hx, List.take_succ_eq_append_getElem hy, h]
  simp [hx, hy] at e
  rw [e]
theorem take_whole {xs ys : List Int} {k : Nat} (h : xs.take k = ys.take k) (hx : xs.length ≤ k) (hy : ys.length ≤ k) : xs = ys := by
  rwa [List.take_of_length_le hx, List.take_of_length_le hy] at h


theorem Tryd.info5 : (Tryd.prog.info? 5).map (fun i => (i.zero, i.size, i.bytes)) = some (some (.int .u8 0), 1, 1) := by kernel_rfl

set_option maxRecDepth 10000 in
set_option maxHeartbeats 400000 in
theorem toByteS_any (a : Option Addr) (n cap : Nat) (bs : List Int) (w : World) (h : Row w a n bs) (hn : n ≤ 1048576) :
    Calls Tryd.prog 34 #[.slice a n cap] w fun e w' => ∃ a', e = .returned (.slice a' n n) ∧ Own w.heap.size w' a' n n bs ∧ Below w.heap.size w w' := by
  obtain ⟨i0, hi, hz0, hz1, hz2⟩ := info_parts Tryd.info5
  have hlen := h.len
  have hby := h.byte
  have HL : Hid (bs.length = n) := hlen
  clear hlen
  go_enter Tryd.func34, Tryd.ntmps34
  go_wp2_with (first | (at_make; refine wpList_make_full _ rfl _ _ 26 rfl w.heap.size 5 i0 (.int .u8 0) 1 Tryd.underlying26 hi hz0 hz1 _ _ _ _ n rfl rfl rfl rfl (by rw [hz2]; omega) (by unfold maxLen; omega) (by exact Nat.le_refl _) ?_; intro w1 hown hgrow))
  have ho := own_made hown
  have hbl : Below w.heap.size w w1 := (Below.refl _ _).grown hgrow (Nat.le_refl _) (by simp)
  clear hown hgrow hi hz0 hz1 hz2
  have H0 : Hid (Row w a n bs) := h
  clear h
  go_loopw [4] (fun i wr => ∃ k : Nat, k ≤ n ∧ i = .int .i64 k ∧ Own w.heap.size wr (some ⟨w.heap.size, 0, none⟩) n n (half bs k) ∧ Below w.heap.size w wr) (fun i _ => n - (intOf i).toNat)
  case atStart => exact ⟨0, Nat.zero_le _, rfl, by rw [half_zero, HL.out]; exact ho, hbl⟩
  case round =>
    obtain ⟨k, hk, rfl, hor, hbr⟩ := hrel
    by_cases hlt : k < n
    · obtain ⟨b, off, rfl, hb, hc⟩ := H0.out.get k hlt
      have hcr : wr.cell? ⟨b, off + k, none⟩ = some (.int .u8 (bs.getD k 0)) := (hbr.cell (p := ⟨b, off + k, none⟩) hb).trans hc
      have hfr : wr.frozen? ⟨w.heap.size, k, none⟩ = false := hor.row.frozenAt k
      obtain ⟨y, hy⟩ : ∃ y, wr.cell? ⟨w.heap.size, k, none⟩ = some y := ⟨_, (hor.row.cellAt k (by omega)).trans (List.getElem?_eq_getElem (by simp [half_len bs k (by have := HL.out; omega), HL.out]; exact hlt))⟩
      have hs := hor.store k (bs.getD k 0) (hby k)
      rw [half_set bs k (by have := HL.out; omega)] at hs
      have hb2 : Below w.heap.size w (wr.setCell ⟨w.heap.size, k, none⟩ (.int .u8 (bs.getD k 0))) := hbr.setCell (Nat.le_refl _) _
      clear hc hor hbr
      go_wp2
      go_roundw
      case rel => exact ⟨k + 1, by omega, by go_num, hs, hb2⟩
      case measure => simp [intOf]; omega
    · have hkn : k = n := by omega
      subst hkn
      rw [← HL.out, half_all] at hor
      go_wp2
      go_ret
      exact ⟨_, rfl, by rw [HL.out] at hor; exact hor, hbr⟩

set_option maxRecDepth 10000 in
set_option maxHeartbeats 400000 in
theorem eqByteS_any (a b : Option Addr) (n m ca cb : Nat) (xs ys : List Int) (w : World) (hx : Row w a n xs) (hy : Row w b m ys) (hn : n ≤ maxLen) (hm : m ≤ maxLen) :
    Calls Tryd.prog 41 #[.slice a n ca, .slice b m cb] w fun e w' => e = .returned (.bool (decide (xs = ys))) ∧ Below w.heap.size w w' := by
  unfold maxLen at hn hm
  have HX : Hid (Row w a n xs) := hx
  have HY : Hid (Row w b m ys) := hy
  clear hx hy
  by_cases hnm : n = m
  · subst hnm
    go_enter Tryd.func41, Tryd.ntmps41
    go_wp2
    go_loopw [5] (fun i wr => ∃ k : Nat, k ≤ n ∧ i = .int .i64 k ∧ Below w.heap.size w wr ∧ xs.take k = ys.take k) (fun i _ => n - (intOf i).toNat)
    case atStart => exact ⟨0, Nat.zero_le _, rfl, Below.refl _ _, by simp⟩
    case round =>
      obtain ⟨k, hk, rfl, hbr, hpre⟩ := hrel
      by_cases hlt : k < n
      · obtain ⟨b1, off1, rfl, hb1, hc1⟩ := HX.out.get k hlt
        obtain ⟨b2, off2, rfl, hb2, hc2⟩ := HY.out.get k hlt
        have hr1 : wr.cell? ⟨b1, off1 + k, none⟩ = some (.int .u8 (xs.getD k 0)) := (hbr.cell (p := ⟨b1, off1 + k, none⟩) hb1).trans hc1
        have hr2 : wr.cell? ⟨b2, off2 + k, none⟩ = some (.int .u8 (ys.getD k 0)) := (hbr.cell (p := ⟨b2, off2 + k, none⟩) hb2).trans hc2
        clear hc1 hc2
        have HP : Hid (xs.take k = ys.take k) := hpre
        clear hpre
        obtain ⟨x, hx⟩ : ∃ x, x = xs.getD k 0 := ⟨_, rfl⟩
        obtain ⟨y, hy⟩ : ∃ y, y = ys.getD k 0 := ⟨_, rfl⟩
        rw [← hx] at hr1
        rw [← hy] at hr2
        have Hx : Hid (x = xs.getD k 0) := hx
        have Hy : Hid (y = ys.getD k 0) := hy
        clear hx hy
        have lx := HX.out.len
        have ly := HY.out.len
        have LX : Hid (xs.length = n) := lx
        have LY : Hid (ys.length = n) := ly
        clear lx ly
        by_cases hxy : x = y
        · subst hxy
          go_wp2
          go_quiet (fail)
          go_wp2
          go_roundw
          case rel => exact ⟨k + 1, by omega, by go_num, (below_drewN hbr nq), take_next HP.out (Hx.out.symm.trans Hy.out) (by have := LX.out; omega) (by have := LY.out; omega)⟩
          case measure => simp [intOf]; omega
        · have hne : (x != y) = true := by simp [hxy]
          go_wp2
          go_quiet (fail)
          go_wp2
          go_ret
          exact ⟨by rw [decide_eq_false (fun e => hxy (by rw [Hx.out, Hy.out, e]))]; rfl, below_drewN hbr nq⟩
      · go_wp2
        go_ret
        exact ⟨by rw [decide_eq_true (take_whole hpre (by have := HX.out.len; omega) (by have := HY.out.len; omega))]; rfl, hbr⟩
  · have hne : ((n : Int) != (m : Int)) = true := by simp; omega
    go_enter Tryd.func41, Tryd.ntmps41
    go_wp2
    go_ret
    exact ⟨by rw [decide_eq_false (fun e => hnm (by rw [← HX.out.len, ← HY.out.len, e]))]; rfl, Below.refl _ _⟩

end Go.Proofs.YtbfjkmlmnhphoaaDoor

namespace Go.Proofs.YtbfjkmlmnhphoaaDoor
open Go.RowKit

/-- What markByteS writes: the numbers from k on, as bytes. -/
def marks (k n : Nat) : List Int := (List.range n).map fun i => ((k + i : Nat) : Int) % 256

theorem marks_len (k n : Nat) : (marks k n).length = n := by simp [marks]
theorem marks_get (k n i : Nat) (h : i < n) : (marks k n).getD i 0 = ((k + i : Nat) : Int) % 256 := by simp [marks, h]
theorem marks_byte (k n : Nat) : ∀ i, 0 ≤ (marks k n).getD i 0 ∧ (marks k n).getD i 0 ≤ 255 := by
  intro i
  by_cases h : i < n
  · rw [marks_get k n i h]; omega
  · rw [List.getD_eq_getElem?_getD, List.getElem?_eq_none (by rw [marks_len]; omega)]; simp
theorem marks_succ (k n : Nat) : marks k (n + 1) = marks k n ++ [((k + n : Nat) : Int) % 256] := by simp [marks, List.range_succ]

def mkd (bs : List Int) (k j : Nat) : List Int := marks k j ++ bs.drop j
theorem mkd_zero (bs : List Int) (k : Nat) : mkd bs k 0 = bs := by simp [mkd, marks]
theorem mkd_all (bs : List Int) (k : Nat) : mkd bs k bs.length = marks k bs.length := by simp [mkd]
theorem mkd_set (bs : List Int) (k j : Nat) (h : j < bs.length) : (mkd bs k j).set j (((k + j : Nat) : Int) % 256) = mkd bs k (j + 1) := by
  unfold mkd
  rw [List.drop_eq_getElem_cons h, set_append_mid _ _ _ _ _ (marks_len k j), marks_succ, List.append_assoc]
  rfl
theorem mkd_len (bs : List Int) (k j : Nat) (h : j ≤ bs.length) : (mkd bs k j).length = bs.length := by simp [mkd, marks_len]; omega

theorem grown_trans {a b c : World} {r : Option Nat} (h : a.grownBy b r) (k : b.grownBy c r) : a.grownBy c r :=
  ⟨k.os.trans h.os, k.tape.trans h.tape, k.output.trans h.output, Nat.le_trans h.size k.size, fun i hi hr => (k.block i (Nat.lt_of_lt_of_le hi h.size) hr).trans (h.block i hi hr)⟩

set_option maxRecDepth 10000 in
set_option maxHeartbeats 400000 in
theorem markByteS_any (B : Nat) (a : Option Addr) (n cap k : Nat) (bs : List Int) (w : World) (h : Own B w a n cap bs) (hn : n ≤ 1000000000) (hk : k ≤ 1000000000) :
    Calls Tryd.prog 52 #[.slice a n cap, .int .i64 k] w fun e w' => e = .returned (.int .i64 (k + n : Nat)) ∧ Own B w' a n cap (marks k n) ∧ w.grownBy w' (Value.slice a n cap).ownBlock := by
  have HL : Hid (bs.length = n) := h.length
  have H0 : Hid (Own B w a n cap bs) := h
  clear h
  go_enter Tryd.func52, Tryd.ntmps52
  go_wp2
  go_loopw [1, 5] (fun kk i wr => ∃ j : Nat, j ≤ n ∧ i = .int .i64 j ∧ kk = .int .i64 (k + j : Nat) ∧ Own B wr a n cap (mkd bs k j) ∧ w.grownBy wr (Value.slice a n cap).ownBlock) (fun _ i _ => n - (intOf i).toNat)
  case atStart => exact ⟨0, Nat.zero_le _, rfl, rfl, by rw [mkd_zero]; exact H0.out, World.grownBy.refl _ _⟩
  case round =>
    obtain ⟨j, hj, rfl, rfl, hor, hgr⟩ := hrel
    by_cases hlt : j < n
    · obtain ⟨g, rfl⟩ := hor.shape (by omega)
      have hfr : wr.frozen? ⟨g, j, none⟩ = false := hor.row.frozenAt j
      obtain ⟨y, hy⟩ : ∃ y, wr.cell? ⟨g, j, none⟩ = some y := ⟨_, (hor.row.cellAt j (by omega)).trans (List.getElem?_eq_getElem (by simp [mkd_len bs k j (by have := HL.out; omega), HL.out]; exact hlt))⟩
      have hs := hor.store j (((k + j : Nat) : Int) % 256) (by omega)
      rw [mkd_set bs k j (by have := HL.out; omega)] at hs
      have hg2 := grown_trans hgr (hor.row.stored j (.int .u8 (((k + j : Nat) : Int) % 256))).2
      clear hor hgr
      have e0 : ((k + j : Nat) : Int) = (k : Int) + (j : Int) := by omega
      have HS : Hid (Own B (wr.setCell ⟨g, j, none⟩ (.int .u8 (((k + j : Nat) : Int) % 256))) (some ⟨g, 0, none⟩) n cap (mkd bs k (j + 1))) := hs
      have HG : Hid (w.grownBy (wr.setCell ⟨g, j, none⟩ (.int .u8 (((k + j : Nat) : Int) % 256))) (Value.slice (some ⟨g, 0, none⟩) n cap).ownBlock) := hg2
      clear hs hg2 e0
      go_wp2
      go_roundw
      case rel => exact ⟨j + 1, by omega, by go_num, by go_num, by have := HS.out; rw [Int.natCast_add] at this; exact this, by have := HG.out; rw [Int.natCast_add] at this; exact this⟩
      case measure => simp [intOf]; omega
    · have hjn : j = n := by omega
      subst hjn
      go_wp2
      go_ret
      exact ⟨rfl, by rw [← HL.out, mkd_all, HL.out] at hor; exact hor, hgr⟩

set_option maxRecDepth 10000 in
set_option maxHeartbeats 400000 in
theorem heldByteS_any (a : Option Addr) (n cap k : Nat) (w : World) (h : Row w a n (marks k n)) (hn : n ≤ 1000000000) (hk : k ≤ 1000000000) :
    Calls Tryd.prog 55 #[.slice a n cap, .int .i64 k] w fun e w' => e = .returned (.int .i64 (k + n : Nat)) ∧ w' = w := by
  have H0 : Hid (Row w a n (marks k n)) := h
  clear h
  go_enter Tryd.func55, Tryd.ntmps55
  go_wp2
  go_loop [1, 5] (fun kk i => ∃ j : Nat, j ≤ n ∧ i = .int .i64 j ∧ kk = .int .i64 (k + j : Nat)) (fun _ i => n - (intOf i).toNat)
  case atStart => exact ⟨0, Nat.zero_le _, rfl, rfl⟩
  case round =>
    obtain ⟨j, hj, rfl, rfl⟩ := hrel
    by_cases hlt : j < n
    · obtain ⟨b, off, rfl, hb, hc⟩ := H0.out.get j hlt
      rw [marks_get k n j hlt, Int.natCast_add] at hc
      go_wp2
      go_round
      case rel => exact ⟨j + 1, by omega, by go_num, by go_num⟩
      case measure => simp [intOf]; omega
    · have hjn : j = n := by omega
      subst hjn
      go_wp2
      go_ret
      exact ⟨rfl, rfl⟩

theorem markByteS_int (B : Nat) (a : Option Addr) (n cap : Nat) (k : Int) (bs : List Int) (w : World) (h : Own B w a n cap bs) (hn : n ≤ 1000000000) (hk0 : 0 ≤ k) (hk : k ≤ 1000000000) :
    Calls Tryd.prog 52 #[.slice a n cap, .int .i64 k] w fun e w' => e = .returned (.int .i64 (k + n)) ∧ Own B w' a n cap (marks k.toNat n) ∧ w.grownBy w' (Value.slice a n cap).ownBlock := by
  obtain ⟨m, rfl⟩ := Int.eq_ofNat_of_zero_le hk0
  refine (markByteS_any B a n cap m bs w h hn (by omega)).mono ?_
  rintro e w' ⟨rfl, h1, h2⟩
  exact ⟨by rw [Int.natCast_add], by rw [Int.toNat_natCast]; exact h1, h2⟩

theorem heldByteS_int (a : Option Addr) (n cap : Nat) (k : Int) (w : World) (h : Row w a n (marks k.toNat n)) (hn : n ≤ 1000000000) (hk0 : 0 ≤ k) (hk : k ≤ 1000000000) :
    Calls Tryd.prog 55 #[.slice a n cap, .int .i64 k] w fun e w' => e = .returned (.int .i64 (k + n)) ∧ w' = w := by
  obtain ⟨m, rfl⟩ := Int.eq_ofNat_of_zero_le hk0
  rw [Int.toNat_natCast] at h
  refine (heldByteS_any a n cap m w h hn (by omega)).mono ?_
  rintro e w' ⟨rfl, rfl⟩
  exact ⟨by rw [Int.natCast_add], rfl⟩

/-- What lies below a row of our own reads on while that row is written. -/
theorem Row.grown {B : Nat} {w w' : World} {a a' : Option Addr} {n n' cap' : Nat} {bs bs' : List Int} (h : Row w a n bs) (hlt : ∀ b off, a = some ⟨b, off, none⟩ → 0 < n → b < B) (ho : Own B w a' n' cap' bs') (hg : w.grownBy w' (Value.slice a' n' cap').ownBlock) : Row w' a n bs := by
  refine ⟨h.len, fun k hk => ?_, h.byte⟩
  obtain ⟨b, off, ha, hb, hc⟩ := h.get k hk
  refine ⟨b, off, ha, Nat.lt_of_lt_of_le hb hg.size, hg.cell hc ?_⟩
  intro e
  have h1 := hlt b off ha (by omega)
  have h2 := (ho.row.lt b e.symm).1
  omega

theorem Row.under {B : Nat} {w : World} {a : Option Addr} {n : Nat} {bs : List Int} (h : Row w a n bs) (hB : w.heap.size ≤ B) : ∀ b off, a = some ⟨b, off, none⟩ → 0 < n → b < B := by
  intro b off ha hn
  obtain ⟨b', off', ha', hb, _⟩ := h.get 0 hn
  rw [ha'] at ha
  simp at ha
  omega

end Go.Proofs.YtbfjkmlmnhphoaaDoor
