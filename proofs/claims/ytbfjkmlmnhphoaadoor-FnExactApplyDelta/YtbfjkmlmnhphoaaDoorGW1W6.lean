import Derived.Test.YtbfjkmlmnhphoaaDoorProg
import Derived.Test.YtbfjkmlmnhphoaaDoorBase
import Derived.WalkKit
import Derived.WalkSpells
import Derived.WalkLawsBesides
import Derived.Deep.QuietTactic
import Derived.BigQuiet
import Derived.Deep.RegionLaw
import Derived.Laws.BytesArg
namespace Go.Proofs.YtbfjkmlmnhphoaaDoor
open Go.RowKit

theorem take_next {xs ys : List Int} {k : Nat} (h : xs.take k = ys.take k) (e : xs.getD k 0 = ys.getD k 0) (hx : k < xs.length) (hy : k < ys.length) : xs.take (k + 1) = ys.take (k + 1) := by
  rw [List.take_succ_eq_append_getElem hx, List.take_succ_eq_append_getElem hy, h]
  simp [hx, hy] at e
  rw [e]
theorem take_whole {xs ys : List Int} {k : Nat} (h : xs.take k = ys.take k) (hx : xs.length ≤ k) (hy : ys.length ≤ k) : xs = ys := by
  rwa [List.take_of_length_le hx, List.take_of_length_le hy] at h


theorem Tryd.info5 : (Tryd.prog.info? 5).map (fun i => (i.zero, i.size, i.bytes)) = some (some (.int .u8 0), 1, 1) := by kernel_rfl

set_option maxRecDepth 10000 in
set_option maxHeartbeats 400000 in
theorem toByteS_any (a : Option Addr) (n cap : Nat) (bs : List Int) (w : World) (h : Row w a n bs) (hn : n ≤ 1048576) :
    Calls Tryd.prog 34 #[.slice a n cap] w fun e w' => ∃ a', e = .returned (.slice a' n n) ∧ Own w.heap.size w' a' n n bs ∧ Below w.heap.size w w' := by
  obtain ⟨i0, hi, hz0, hz1, hz2⟩ := info_parts Tryd.info5
  have hlen := h.len
  have hby := h.byte
  have HL : Hid (bs.length = n) := hlen
  clear hlen
  go_enter Tryd.func34, Tryd.ntmps34
  go_wp2_with (first | (at_make; refine wpList_make_full _ rfl _ _ 26 rfl w.heap.size 5 i0 (.int .u8 0) 1 Tryd.underlying26 hi hz0 hz1 _ _ _ _ n rfl rfl rfl rfl (by rw [hz2]; omega) (by unfold maxLen; omega) (by exact Nat.le_refl _) ?_; intro w1 hown hgrow))
  have ho := own_made hown
  have hbl : Below w.heap.size w w1 := (Below.refl _ _).grown hgrow (Nat.le_refl _) (by simp)
  clear hown hgrow hi hz0 hz1 hz2
  have H0 : Hid (Row w a n bs) := h
  clear h
  go_loopw [4] (fun i wr => ∃ k : Nat, k ≤ n ∧ i = .int .i64 k ∧ Own w.heap.size wr (some ⟨w.heap.size, 0, none⟩) n n (half bs k) ∧ Below w.heap.size w wr) (fun i _ => n - (intOf i).toNat)
  case atStart => exact ⟨0, Nat.zero_le _, rfl, by rw [half_zero, HL.out]; exact ho, hbl⟩
  case round =>
    obtain ⟨k, hk, rfl, hor, hbr⟩ := hrel
    by_cases hlt : k < n
    · obtain ⟨b, off, rfl, hb, hc⟩ := H0.out.get k hlt
      have hcr : wr.cell? ⟨b, off + k, none⟩ = some (.int .u8 (bs.getD k 0)) := (hbr.cell (p := ⟨b, off + k, none⟩) hb).trans hc
      have hfr : wr.frozen? ⟨w.heap.size, k, none⟩ = false := hor.row.frozenAt k
      obtain ⟨y, hy⟩ : ∃ y, wr.cell? ⟨w.heap.size, k, none⟩ = some y := ⟨_, (hor.row.cellAt k (by omega)).trans (List.getElem?_eq_getElem (by simp [half_len bs k (by have := HL.out; omega), HL.out]; exact hlt))⟩
      have hs := hor.store k (bs.getD k 0) (hby k)
      rw [half_set bs k (by have := HL.out; omega)] at hs
      have hb2 : Below w.heap.size w (wr.setCell ⟨w.heap.size, k, none⟩ (.int .u8 (bs.getD k 0))) := hbr.setCell (Nat.le_refl _) _
      clear hc hor hbr
      go_wp2
      go_roundw
      case rel => exact ⟨k + 1, by omega, by go_num, hs, hb2⟩
      case measure => simp [intOf]; omega
    · have hkn : k = n := by omega
      subst hkn
      rw [← HL.out, half_all] at hor
      go_wp2
      go_ret
      exact ⟨_, rfl, by rw [HL.out] at hor; exact hor, hbr⟩

set_option maxRecDepth 10000 in
set_option maxHeartbeats 400000 in
theorem eqByteS_any (a b : Option Addr) (n m ca cb : Nat) (xs ys : List Int) (w : World) (hx : Row w a n xs) (hy : Row w b m ys) (hn : n ≤ maxLen) (hm : m ≤ maxLen) :
    Calls Tryd.prog 41 #[.slice a n ca, .slice b m cb] w fun e w' => e = .returned (.bool (decide (xs = ys))) ∧ Below w.heap.size w w' := by
  unfold maxLen at hn hm
  have HX : Hid (Row w a n xs) := hx
  have HY : Hid (Row w b m ys) := hy
  clear hx hy
  by_cases hnm : n = m
  · subst hnm
    go_enter Tryd.func41, Tryd.ntmps41
    go_wp2
    go_loopw [5] (fun i wr => ∃ k : Nat, k ≤ n ∧ i = .int .i64 k ∧ Below w.heap.size w wr ∧ xs.take k = ys.take k) (fun i _ => n - (intOf i).toNat)
    case atStart => exact ⟨0, Nat.zero_le _, rfl, Below.refl _ _, by simp⟩
    case round =>
      obtain ⟨k, hk, rfl, hbr, hpre⟩ := hrel
      by_cases hlt : k < n
      · obtain ⟨b1, off1, rfl, hb1, hc1⟩ := HX.out.get k hlt
        obtain ⟨b2, off2, rfl, hb2, hc2⟩ := HY.out.get k hlt
        have hr1 : wr.cell? ⟨b1, off1 + k, none⟩ = some (.int .u8 (xs.getD k 0)) := (hbr.cell (p := ⟨b1, off1 + k, none⟩) hb1).trans hc1
        have hr2 : wr.cell? ⟨b2, off2 + k, none⟩ = some (.int .u8 (ys.getD k 0)) := (hbr.cell (p := ⟨b2, off2 + k, none⟩) hb2).trans hc2
        clear hc1 hc2
        have HP : Hid (xs.take k = ys.take k) := hpre
        clear hpre
        obtain ⟨x, hx⟩ : ∃ x, x = xs.getD k 0 := ⟨_, rfl⟩
        obtain ⟨y, hy⟩ : ∃ y, y = ys.getD k 0 := ⟨_, rfl⟩
        rw [← hx] at hr1
        rw [← hy] at hr2
        have Hx : Hid (x = xs.getD k 0) := hx
        have Hy : Hid (y = ys.getD k 0) := hy
        clear hx hy
        have lx := HX.out.len
        have ly := HY.out.len
        have LX : Hid (xs.length = n) := lx
        have LY : Hid (ys.length = n) := ly
        clear lx ly
        by_cases hxy : x = y
        · subst hxy
          go_wp2
          go_quiet (fail)
          go_wp2
          go_roundw
          case rel => exact ⟨k + 1, by omega, by go_num, (below_drewN hbr nq), take_next HP.out (Hx.out.symm.trans Hy.out) (by have := LX.out; omega) (by have := LY.out; omega)⟩
          case measure => simp [intOf]; omega
        · have hne : (x != y) = true := by simp [hxy]
          go_wp2
          go_quiet (fail)
          go_wp2
          go_ret
          exact ⟨by rw [decide_eq_false (fun e => hxy (by rw [Hx.out, Hy.out, e]))]; rfl, below_drewN hbr nq⟩
      · go_wp2
        go_ret
        exact ⟨by rw [decide_eq_true (take_whole hpre (by have := HX.out.len; omega) (by have := HY.out.len; omega))]; rfl, hbr⟩
  · have hne : ((n : Int) != (m : Int)) = true := by simp; omega
    go_enter Tryd.func41, Tryd.ntmps41
    go_wp2
    go_ret
    exact ⟨by rw [decide_eq_false (fun e => hnm (by rw [← HX.out.len, ← HY.out.len, e]))]; rfl, Below.refl _ _⟩

end Go.Proofs.YtbfjkmlmnhphoaaDoor

namespace Go.Proofs.YtbfjkmlmnhphoaaDoor
open Go.RowKit

/-- What markByteS writes: the numbers from k on, as bytes. -/
def marks (k n : Nat) : List Int := (List.range n).map fun i => ((k + i : Nat) : Int) % 256

theorem marks_len (k n : Nat) : (marks k n).length = n := by simp [marks]
theorem marks_get (k n i : Nat) (h : i < n) : (marks k n).getD i 0 = ((k + i : Nat) : Int) % 256 := by simp [marks, h]
theorem marks_byte (k n : Nat) : ∀ i, 0 ≤ (marks k n).getD i 0 ∧ (marks k n).getD i 0 ≤ 255 := by
  intro i
  by_cases h : i < n
  · rw [marks_get k n i h]; omega
  · rw [List.getD_eq_getElem?_getD, List.getElem?_eq_none (by rw [marks_len]; omega)]; simp
theorem marks_succ (k n : Nat) : marks k (n + 1) = marks k n ++ [((k + n : Nat) : Int) % 256] := by simp [marks, List.range_succ]

def mkd (bs : List Int) (k j : Nat) : List Int := marks k j ++ bs.drop j
theorem mkd_zero (bs : List Int) (k : Nat) : mkd bs k 0 = bs := by simp [mkd, marks]
theorem mkd_all (bs : List Int) (k : Nat) : mkd bs k bs.length = marks k bs.length := by simp [mkd]
theorem mkd_set (bs : List Int) (k j : Nat) (h : j < bs.length) : (mkd bs k j).set j (((k + j : Nat) : Int) % 256) = mkd bs k (j + 1) := by
  unfold mkd
  rw [List.drop_eq_getElem_cons h, set_append_mid _ _ _ _ _ (marks_len k j), marks_succ, List.append_assoc]
  rfl
theorem mkd_len (bs : List Int) (k j : Nat) (h : j ≤ bs.length) : (mkd bs k j).length = bs.length := by simp [mkd, marks_len]; omega

theorem grown_trans {a b c : World} {r : Option Nat} (h : a.grownBy b r) (k : b.grownBy c r) : a.grownBy c r :=
  ⟨k.os.trans h.os, k.tape.trans h.tape, k.output.trans h.output, Nat.le_trans h.size k.size, fun i hi hr => (k.block i (Nat.lt_of_lt_of_le hi h.size) hr).trans (h.block i hi hr)⟩

set_option maxRecDepth 10000 in
set_option maxHeartbeats 400000 in
theorem markByteS_any (B : Nat) (a : Option Addr) (n cap k : Nat) (bs : List Int) (w : World) (h : Own B w a n cap bs) (hn : n ≤ 1000000000) (hk : k ≤ 1000000000) :
    Calls Tryd.prog 52 #[.slice a n cap, .int .i64 k] w fun e w' => e = .returned (.int .i64 (k + n : Nat)) ∧ Own B w' a n cap (marks k n) ∧ w.grownBy w' (Value.slice a n cap).ownBlock := by
  have HL : Hid (bs.length = n) := h.length
  have H0 : Hid (Own B w a n cap bs) := h
  clear h
  go_enter Tryd.func52, Tryd.ntmps52
  go_wp2
  go_loopw [1, 5] (fun kk i wr => ∃ j : Nat, j ≤ n ∧ i = .int .i64 j ∧ kk = .int .i64 (k + j : Nat) ∧ Own B wr a n cap (mkd bs k j) ∧ w.grownBy wr (Value.slice a n cap).ownBlock) (fun _ i _ => n - (intOf i).toNat)
  case atStart => exact ⟨0, Nat.zero_le _, rfl, rfl, by rw [mkd_zero]; exact H0.out, World.grownBy.refl _ _⟩
  case round =>
    obtain ⟨j, hj, rfl, rfl, hor, hgr⟩ := hrel
    by_cases hlt : j < n
    · obtain ⟨g, rfl⟩ := hor.shape (by omega)
      have hfr : wr.frozen? ⟨g, j, none⟩ = false := hor.row.frozenAt j
      obtain ⟨y, hy⟩ : ∃ y, wr.cell? ⟨g, j, none⟩ = some y := ⟨_, (hor.row.cellAt j (by omega)).trans (List.getElem?_eq_getElem (by simp [mkd_len bs k j (by have := HL.out; omega), HL.out]; exact hlt))⟩
      have hs := hor.store j (((k + j : Nat) : Int) % 256) (by omega)
      rw [mkd_set bs k j (by have := HL.out; omega)] at hs
      have hg2 := grown_trans hgr (hor.row.stored j (.int .u8 (((k + j : Nat) : Int) % 256))).2
      clear hor hgr
      have e0 : ((k + j : Nat) : Int) = (k : Int) + (j : Int) := by omega
      have HS : Hid (Own B (wr.setCell ⟨g, j, none⟩ (.int .u8 (((k + j : Nat) : Int) % 256))) (some ⟨g, 0, none⟩) n cap (mkd bs k (j + 1))) := hs
      have HG : Hid (w.grownBy (wr.setCell ⟨g, j, none⟩ (.int .u8 (((k + j : Nat) : Int) % 256))) (Value.slice (some ⟨g, 0, none⟩) n cap).ownBlock) := hg2
      clear hs hg2 e0
      go_wp2
      go_roundw
      case rel => exact ⟨j + 1, by omega, by go_num, by go_num, by have := HS.out; rw [Int.natCast_add] at this; exact this, by have := HG.out; rw [Int.natCast_add] at this; exact this⟩
      case measure => simp [intOf]; omega
    · have hjn : j = n := by omega
      subst hjn
      go_wp2
      go_ret
      exact ⟨rfl, by rw [← HL.out, mkd_all, HL.out] at hor; exact hor, hgr⟩

set_option maxRecDepth 10000 in
set_option maxHeartbeats 400000 in
theorem heldByteS_any (a : Option Addr) (n cap k : Nat) (w : World) (h : Row w a n (marks k n)) (hn : n ≤ 1000000000) (hk : k ≤ 1000000000) :
    Calls Tryd.prog 55 #[.slice a n cap, .int .i64 k] w fun e w' => e = .returned (.int .i64 (k + n : Nat)) ∧ w' = w := by
  have H0 : Hid (Row w a n (marks k n)) := h
  clear h
  go_enter Tryd.func55, Tryd.ntmps55
  go_wp2
  go_loop [1, 5] (fun kk i => ∃ j : Nat, j ≤ n ∧ i = .int .i64 j ∧ kk = .int .i64 (k + j : Nat)) (fun _ i => n - (intOf i).toNat)
  case atStart => exact ⟨0, Nat.zero_le _, rfl, rfl⟩
  case round =>
    obtain ⟨j, hj, rfl, rfl⟩ := hrel
    by_cases hlt : j < n
    · obtain ⟨b, off, rfl, hb, hc⟩ := H0.out.get j hlt
      rw [marks_get k n j hlt, Int.natCast_add] at hc
      go_wp2
      go_round
      case rel => exact ⟨j + 1, by omega, by go_num, by go_num⟩
      case measure => simp [intOf]; omega
    · have hjn : j = n := by omega
      subst hjn
      go_wp2
      go_ret
      exact ⟨rfl, rfl⟩

theorem markByteS_int (B : Nat) (a : Option Addr) (n cap : Nat) (k : Int) (bs : List Int) (w : World) (h : Own B w a n cap bs) (hn : n ≤ 1000000000) (hk0 : 0 ≤ k) (hk : k ≤ 1000000000) :
    Calls Tryd.prog 52 #[.slice a n cap, .int .i64 k] w fun e w' => e = .returned (.int .i64 (k + n)) ∧ Own B w' a n cap (marks k.toNat n) ∧ w.grownBy w' (Value.slice a n cap).ownBlock := by
  obtain ⟨m, rfl⟩ := Int.eq_ofNat_of_zero_le hk0
  refine (markByteS_any B a n cap m bs w h hn (by omega)).mono ?_
  rintro e w' ⟨rfl, h1, h2⟩
  exact ⟨by rw [Int.natCast_add], by rw [Int.toNat_natCast]; exact h1, h2⟩

theorem heldByteS_int (a : Option Addr) (n cap : Nat) (k : Int) (w : World) (h : Row w a n (marks k.toNat n)) (hn : n ≤ 1000000000) (hk0 : 0 ≤ k) (hk : k ≤ 1000000000) :
    Calls Tryd.prog 55 #[.slice a n cap, .int .i64 k] w fun e w' => e = .returned (.int .i64 (k + n)) ∧ w' = w := by
  obtain ⟨m, rfl⟩ := Int.eq_ofNat_of_zero_le hk0
  rw [Int.toNat_natCast] at h
  refine (heldByteS_any a n cap m w h hn (by omega)).mono ?_
  rintro e w' ⟨rfl, rfl⟩
  exact ⟨by rw [Int.natCast_add], rfl⟩

/-- What lies below a row of our own reads on while that row is written. -/
theorem Row.grown {B : Nat} {w w' : World} {a a' : Option Addr} {n n' cap' : Nat} {bs bs' : List Int} (h : Row w a n bs) (hlt : ∀ b off, a = some ⟨b, off, none⟩ → 0 < n → b < B) (ho : Own B w a' n' cap' bs') (hg : w.grownBy w' (Value.slice a' n' cap').ownBlock) : Row w' a n bs := by
  refine ⟨h.len, fun k hk => ?_, h.byte⟩
  obtain ⟨b, off, ha, hb, hc⟩ := h.get k hk
  refine ⟨b, off, ha, Nat.lt_of_lt_of_le hb hg.size, hg.cell hc ?_⟩
  intro e
  have h1 := hlt b off ha (by omega)
  have h2 := (ho.row.lt b e.symm).1
  omega

theorem Row.under {B : Nat} {w : World} {a : Option Addr} {n : Nat} {bs : List Int} (h : Row w a n bs) (hB : w.heap.size ≤ B) : ∀ b off, a = some ⟨b, off, none⟩ → 0 < n → b < B := by
  intro b off ha hn
  obtain ⟨b', off', ha', hb, _⟩ := h.get 0 hn
  rw [ha'] at ha
  simp at ha
  omega

end Go.Proofs.YtbfjkmlmnhphoaaDoor

namespace Go.Proofs.YtbfjkmlmnhphoaaDoor
open Go.RowKit

theorem step_append_own {P : Program} {ops : Array Oper} {o : Oper} {a : Act} {w : World} {K : Act → World → Prop} {Q : Exit → Act → World → Prop} {E : Prop}
    (hg : o.guard = none) (s x : Operand) (t : TypeId) (hop : o.op = Op.call { callee := Callee.builtin Builtin.append, args := #[s, x], argTypes := #[t, t] })
    (base : Nat) (e : TypeId) (i : TypeInfo) (z : Value) (size bytes : Nat) (h1 : P.underlying t = some (.slice e)) (h2 : P.info? e = some i) (h3 : i.zero = some z) (h4 : i.size = size) (h5 : i.bytes = bytes) (h6 : z.cells.size = size) (h7 : 0 < size)
    (v : Value) (n : Nat) (xs : List Value) (hs : a.eval s = v) (hown : w.ownsRow base e size v n xs)
    (ad : Addr) (m c : Nat) (news : List Value) (hx : a.eval x = .slice (some ad) m c) (hn : news.length = m * size) (hc : ∀ j u, news[j]? = some u → w.cell? (ad.add j) = some u) (h1c : ∀ u ∈ news, u.oneCell' = true)
    (b1 : n + m ≤ maxLen) (b2 : (n + m) * bytes ≤ 140737488355328) (b3 : base ≤ w.heap.size)
    (hK : ∀ v' w', w'.ownsRow base e size v' (n + m) (xs ++ news) → w.grownBy w' v.ownBlock → K (a.put o.dst v') w') :
    if Region.wanted o (yielded ops a.tmps) = true then Oper.wp P o a w K Q else E := by
  have hw : Region.wanted o (yielded ops a.tmps) = true := by simp [Region.wanted, hg]
  rw [if_pos hw]
  obtain ⟨v', w', hrun, r1, r2, _⟩ := run_append_own (P := P) w base t o.type e i z size bytes h1 h2 h3 h4 h5 h6 h7 v n xs hown ad m c news hn hc h1c b1 b2 b3
  unfold Oper.wp
  simp [execOp, hop, resolve, invoke, builtin, hs, hx, hrun, Result.andThen]
  exact hK v' w' r1 r2

/-- The digit of a number below 16. -/
def hexD (q : Int) : Int := if q < 10 then q + 48 else q + 87
theorem hexD_byte (q : Int) (h0 : 0 ≤ q) (h1 : q ≤ 15) : 0 ≤ hexD q ∧ hexD q ≤ 255 := by unfold hexD; split <;> omega

theorem index_digit (q : Int) (h0 : 0 ≤ q) (h1 : q ≤ 15) (w : World) :
    (Instr.index 9 (.string ⟨#[48, 49, 50, 51, 52, 53, 54, 55, 56, 57, 97, 98, 99, 100, 101, 102]⟩) (.int .u8 q)).run Tryd.prog w = .ok (.int .u8 (hexD q)) w := by
  obtain ⟨k, rfl⟩ := Int.eq_ofNat_of_zero_le h0
  have hk : k < 16 := by omega
  have hc : k = 0 ∨ k = 1 ∨ k = 2 ∨ k = 3 ∨ k = 4 ∨ k = 5 ∨ k = 6 ∨ k = 7 ∨ k = 8 ∨ k = 9 ∨ k = 10 ∨ k = 11 ∨ k = 12 ∨ k = 13 ∨ k = 14 ∨ k = 15 := by omega
  clear hk h0 h1
  rcases hc with rfl | rfl | rfl | rfl | rfl | rfl | rfl | rfl | rfl | rfl | rfl | rfl | rfl | rfl | rfl | rfl
  all_goals (change _ = _; kernel_rfl)

/-- Two digits each. -/
def hexT : List Int → List Int
  | [] => []
  | x :: r => hexD (x / 16) :: hexD (x % 16) :: hexT r
theorem hexT_len (bs : List Int) : (hexT bs).length = 2 * bs.length := by
  induction bs with
  | nil => rfl
  | cons x r ih => simp [hexT, ih]; omega
theorem hexT_append (a b : List Int) : hexT (a ++ b) = hexT a ++ hexT b := by
  induction a with
  | nil => rfl
  | cons x r ih => simp [hexT, ih]
theorem hexT_next (bs : List Int) (k : Nat) (h : k < bs.length) : hexT (bs.take (k + 1)) = hexT (bs.take k) ++ [hexD (bs.getD k 0 / 16), hexD (bs.getD k 0 % 16)] := by
  rw [List.take_succ_eq_append_getElem h, hexT_append]
  simp [hexT, h]

theorem convert_own {B : Nat} {w : World} {a : Option Addr} {n cap : Nat} {bs : List Int} (h : Own B w a n cap bs) : (convert 26 9 (.slice a n cap)).run Tryd.prog w = .ok (.string (strOfNums bs)) w := by
  have hr := h.toRow
  rcases h.row.2 with ⟨hv, h0⟩ | ⟨g, cap', cur, hv, _⟩
  · simp only [Value.slice.injEq] at hv
    obtain ⟨rfl, _, rfl⟩ := hv
    have hb : bs = [] := List.eq_nil_of_length_eq_zero (by rw [hr.len]; exact h0)
    subst hb
    exact run_convert_bytes_nil w 26 5 Tryd.underlying26 Tryd.underlying5 _ _ 9 Tryd.underlying9
  · simp only [Value.slice.injEq] at hv
    obtain ⟨rfl, _, rfl⟩ := hv
    refine run_convert_bytes_arg w 26 5 Tryd.underlying26 Tryd.underlying5 g 0 n cap bs hr.len (fun i hi => ?_) 9 Tryd.underlying9
    obtain ⟨b, off, ha, _, hc⟩ := hr.get i hi
    simp at ha
    obtain ⟨rfl, rfl⟩ := ha
    exact hc

end Go.Proofs.YtbfjkmlmnhphoaaDoor

namespace Go.Proofs.YtbfjkmlmnhphoaaDoor
open Go.RowKit

/-- The byte at a place of a text. -/
def cAt (s : ByteArray) (j : Nat) : Int := ((s.data.toList.getD j 0).toNat : Int)
theorem cAt_get (s : ByteArray) (j : Nat) (h : j < s.size) : cAt s j = (s[j].toNat : Int) := by
  have h' : j < s.data.toList.length := by simpa using h
  unfold cAt
  rw [List.getD_eq_getElem?_getD, List.getElem?_eq_getElem h']
  rfl
def SaysW (P : Prop) (w : World) (e : Ending) (w' : World) : Prop := ∃ b, e = .returned (.bool b) ∧ Hid (b = true ↔ P) ∧ w = w'
theorem saysW_t {P : Prop} {w : World} (h : P) : SaysW P w (.returned (.bool true)) w := ⟨true, rfl, ⟨fun _ => h, fun _ => rfl⟩, rfl⟩
theorem saysW_f {P : Prop} {w : World} (h : ¬ P) : SaysW P w (.returned (.bool false)) w := ⟨false, rfl, ⟨fun e => (by cases e), fun e => absurd e h⟩, rfl⟩

end Go.Proofs.YtbfjkmlmnhphoaaDoor

namespace Go.Proofs.YtbfjkmlmnhphoaaDoor
open Go.RowKit

def digOk (x : Int) : Bool := decide (48 ≤ x ∧ x ≤ 57 ∨ 97 ≤ x ∧ x ≤ 102)
def digV (x : Int) : Int := if 48 ≤ x ∧ x ≤ 57 then x - 48 else if 97 ≤ x ∧ x ≤ 102 then x - 87 else 0
theorem digV_bd (x : Int) : 0 ≤ digV x ∧ digV x ≤ 15 := by
  unfold digV
  split
  · omega
  · split <;> omega

def DigPost (x : Int) (w : World) (e : Ending) (w' : World) : Prop :=
  ∃ (v : Int) (ok : Bool), e = .returned (.tuple #[.int .u8 v, .bool ok]) ∧ Hid (v = digV x) ∧ Hid (ok = digOk x) ∧ 0 ≤ v ∧ v ≤ 15 ∧ w = w'

theorem digPost_mk (x v : Int) (ok : Bool) (w : World) (hv : v = digV x) (ho : ok = digOk x) : DigPost x w (.returned (.tuple #[.int .u8 v, .bool ok])) w :=
  ⟨v, ok, rfl, hv, ho, by rw [hv]; exact (digV_bd x).1, by rw [hv]; exact (digV_bd x).2, rfl⟩

theorem dig_cases (x : Int) : (48 ≤ x ∧ x ≤ 57 ∧ digV x = x - 48 ∧ digOk x = true) ∨ (97 ≤ x ∧ x ≤ 102 ∧ digV x = x - 97 + 10 ∧ digOk x = true) ∨ (digV x = 0 ∧ digOk x = false ∧ (x < 48 ∨ (57 < x ∧ x < 97) ∨ 102 < x)) := by
  unfold digV digOk
  by_cases h1 : 48 ≤ x ∧ x ≤ 57
  · left; simp [h1]
  · by_cases h2 : 97 ≤ x ∧ x ≤ 102
    · right; left; rw [if_neg h1, if_pos h2]; simp [h2]; omega
    · right; right; rw [if_neg h1, if_neg h2]; simp; omega


def pairV (s : ByteArray) (j : Nat) : Int := digV (cAt s (2 * j)) * 16 + digV (cAt s (2 * j + 1))
def hexL (s : ByteArray) (k : Nat) : List Int := (List.range k).map (pairV s)
def hexGood (s : ByteArray) (k : Nat) : Prop := ∀ j, j < 2 * k → digOk (cAt s j) = true
def hexRes (s : ByteArray) (bs : List Int) (ok : Bool) : Prop := (ok = true ∧ s.size % 2 = 0 ∧ hexGood s (s.size / 2) ∧ bs = hexL s (s.size / 2)) ∨ (ok = false ∧ bs = [] ∧ ¬ (s.size % 2 = 0 ∧ hexGood s (s.size / 2)))

theorem hexRes_one {s : ByteArray} {a b : List Int} {x y : Bool} (h : hexRes s a x) (k : hexRes s b y) : a = b ∧ x = y := by
  rcases h with ⟨rfl, h1, h2, rfl⟩ | ⟨rfl, rfl, hn⟩
  · rcases k with ⟨rfl, _, _, rfl⟩ | ⟨rfl, rfl, kn⟩
    · exact ⟨rfl, rfl⟩
    · exact absurd ⟨h1, h2⟩ kn
  · rcases k with ⟨rfl, k1, k2, rfl⟩ | ⟨rfl, rfl, kn⟩
    · exact absurd ⟨k1, k2⟩ hn
    · exact ⟨rfl, rfl⟩

theorem hexL_len (s : ByteArray) (k : Nat) : (hexL s k).length = k := by simp [hexL]
theorem hexL_succ (s : ByteArray) (k : Nat) : hexL s (k + 1) = hexL s k ++ [pairV s k] := by simp [hexL, List.range_succ]
theorem pairV_byte (s : ByteArray) (k : Nat) : 0 ≤ pairV s k ∧ pairV s k ≤ 255 := by
  have h1 := digV_bd (cAt s (2 * k))
  have h2 := digV_bd (cAt s (2 * k + 1))
  unfold pairV; omega
theorem hexL_byte (s : ByteArray) (k : Nat) : ∀ j, 0 ≤ (hexL s k).getD j 0 ∧ (hexL s k).getD j 0 ≤ 255 := by
  intro j
  by_cases h : j < k
  · simp [hexL, h, pairV_byte]
  · rw [List.getD_eq_getElem?_getD, List.getElem?_eq_none (by rw [hexL_len]; omega)]; simp
theorem hexGood_zero (s : ByteArray) : hexGood s 0 := fun j h => by omega
theorem hexGood_succ {s : ByteArray} {k : Nat} (h : hexGood s k) (h1 : digOk (cAt s (2 * k)) = true) (h2 : digOk (cAt s (2 * k + 1)) = true) : hexGood s (k + 1) := by
  intro j hj
  by_cases e1 : j = 2 * k
  · rw [e1]; exact h1
  · by_cases e2 : j = 2 * k + 1
    · rw [e2]; exact h2
    · exact h j (by omega)
theorem or4 (x y : Int) (hx : 0 ≤ x) (hx' : x ≤ 15) (hy : 0 ≤ y) (hy' : y ≤ 15) : bits .or .u8 (x * 16) y = x * 16 + y :=
  bits_join .u8 8 (by decide) wraps_u8 4 (x * 16) y (by omega) (by omega) (by omega) hy (by omega) (by omega)
theorem hexBad {s : ByteArray} {k : Nat} (hk : k < s.size / 2) {j : Nat} (hj : j = 2 * k ∨ j = 2 * k + 1) (h : digOk (cAt s j) = false) : hexRes s [] false := by
  refine .inr ⟨rfl, rfl, fun hh => ?_⟩
  have := hh.2 j (by omega)
  rw [h] at this
  exact absurd this (by decide)

/-- What HexRead answers. -/
def HexPost (s : ByteArray) (w : World) (e : Ending) (w' : World) : Prop :=
  ∃ (a : Option Addr) (n cap : Nat) (bs : List Int) (ok : Bool), e = .returned (.tuple #[.slice a n cap, .bool ok]) ∧ hexRes s bs ok ∧ Own w.heap.size w' a n cap bs ∧ Below w.heap.size w w'

theorem own_new_empty {B : Nat} (w : World) (h : B ≤ w.heap.size) : Own B (w.alloc (.cells #[] 5)) (some ⟨w.heap.size, 0, none⟩) 0 0 [] :=
  ⟨World.ownsRow_lit w #[] 0 h (Nat.zero_le _) rfl, by simp⟩
theorem own_nil (B : Nat) (w : World) : Own B w none 0 0 [] := ⟨World.ownsRow_nil _ _ _ _, by simp⟩

/-- The first k pairs, and then zeros up to m. -/
def hexHalf (s : ByteArray) (m k : Nat) : List Int := hexL s k ++ List.replicate (m - k) 0
theorem hexHalf_zero (s : ByteArray) (m : Nat) : hexHalf s m 0 = List.replicate m 0 := by simp [hexHalf, hexL]
theorem hexHalf_all (s : ByteArray) (m : Nat) : hexHalf s m m = hexL s m := by simp [hexHalf]
theorem hexHalf_len (s : ByteArray) (m k : Nat) (h : k ≤ m) : (hexHalf s m k).length = m := by simp [hexHalf, hexL_len]; omega
theorem hexHalf_set (s : ByteArray) (m k : Nat) (h : k < m) : (hexHalf s m k).set k (pairV s k) = hexHalf s m (k + 1) := by
  unfold hexHalf
  rw [show m - k = (m - (k + 1)) + 1 by omega, List.replicate_succ, set_append_mid _ _ _ _ _ (hexL_len s k), hexL_succ, List.append_assoc]
  rfl

end Go.Proofs.YtbfjkmlmnhphoaaDoor
