import Derived.Test.YtjkkokjojaknkaaDoorWL1
import Derived.Test.YtjkkokjojaknkaaDoorFJ
import Derived.Deep.RegionWith
namespace Go.Proofs.YtjkkokjojaknkaaDoor
open Go.RowKit

/-! sameItem of one item in two places. -/
def SameQ (d : Nat) : Prop := ∀ (d2 : Nat) (x : It) (ab : Option Addr) (nb cb : Nat) (ak : Option Addr) (nk ck : Nat) (ab2 : Option Addr) (cb2 : Nat) (ak2 : Option Addr) (ck2 : Nat) (w : World),
    Row w ab nb x.body → Kids d w ak nk x.kids → Row w ab2 nb x.body → Kids d2 w ak2 nk x.kids →
    Calls Tryd.prog 17 #[itv x ab nb cb ak nk ck, itv x ab2 nb cb2 ak2 nk ck2] w fun e w' => e = .returned (.bool true) ∧ Below w.heap.size w w'

set_option maxRecDepth 10000 in
set_option maxHeartbeats 2000000 in
theorem sameQ_next (d : Nat) (ih : SameQ d) : SameQ (d + 1) := by
  intro d2 x ab nb cb ak nk ck ab2 cb2 ak2 ck2 w hr hk hr2 hk2
  obtain ⟨d2, rfl⟩ : ∃ m, d2 = m + 1 := by
    cases d2 with
    | zero => exact hk2.elim
    | succ m => exact ⟨m, rfl⟩
  have hn := hk.2.1
  have HR : Hid (Row w ab nb x.body) := hr
  have HR2 : Hid (Row w ab2 nb x.body) := hr2
  have HK : Hid (Kids (d + 1) w ak nk x.kids) := hk
  have HK2 : Hid (Kids (d2 + 1) w ak2 nk x.kids) := hk2
  clear hr hk hr2 hk2
  unfold itv
  have t1 : (x.cls != x.cls) = false := by simp
  have t2 : (x.tag != x.tag) = false := by simp
  have t3 : (x.cons != x.cons) = false := by simp
  have t4 : ((nk : Int) != (nk : Int)) = false := by simp
  obtain ⟨b0, b1⟩ := two_blocks w (.cells #[.int .i64 x.cls, .int .i64 x.tag, .bool x.cons, .slice ab nb cb, .slice ak nk ck] 26) (.cells #[.int .i64 x.cls, .int .i64 x.tag, .bool x.cons, .slice ab2 nb cb2, .slice ak2 nk ck2] 26)
  have hB : Below w.heap.size w ((w.alloc (.cells #[.int .i64 x.cls, .int .i64 x.tag, .bool x.cons, .slice ab nb cb, .slice ak nk ck] 26)).alloc (.cells #[.int .i64 x.cls, .int .i64 x.tag, .bool x.cons, .slice ab2 nb cb2, .slice ak2 nk ck2] 26)) := ((Below.refl _ _).alloc (Nat.le_refl _) _).alloc (by simp) _
  have hsB : ((w.alloc (.cells #[.int .i64 x.cls, .int .i64 x.tag, .bool x.cons, .slice ab nb cb, .slice ak nk ck] 26)).alloc (.cells #[.int .i64 x.cls, .int .i64 x.tag, .bool x.cons, .slice ab2 nb cb2, .slice ak2 nk ck2] 26)).heap.size = w.heap.size + 2 := by simp
  have HB0 : Hid (_ = _) := b0
  have HB1 : Hid (_ = _) := b1
  have HBB : Hid (_) := hB
  have SB := sameBytes_any ab ab2 nb nb cb cb2 x.body x.body _ (HR.out.kept hB) (HR2.out.kept hB)
  rw [decide_eq_true (rfl : x.body = x.body)] at SB
  clear b0 b1 hB
  go_enter Tryd.func17, Tryd.ntmps17
  go_wp2_with (go_at_call 18; refine SB.mono ?_; rintro e w1 ⟨rfl, rfl⟩)
  obtain ⟨W, hW⟩ : ∃ W, W = (w.alloc (.cells #[.int .i64 x.cls, .int .i64 x.tag, .bool x.cons, .slice ab nb cb, .slice ak nk ck] 26)).alloc (.cells #[.int .i64 x.cls, .int .i64 x.tag, .bool x.cons, .slice ab2 nb cb2, .slice ak2 nk ck2] 26) := ⟨_, rfl⟩
  rw [← hW] at HB0 HB1 HBB hsB ⊢
  clear hW SB
  go_loopw [5] (fun i wr => ∃ k : Nat, k ≤ nk ∧ i = .int .i64 k ∧ Below W.heap.size W wr) (fun i _ => nk - (intOf i).toNat)
  case atStart => exact ⟨0, Nat.zero_le _, rfl, Below.refl _ _⟩
  case round =>
    obtain ⟨k, hk, rfl, hbr⟩ := hrel
    have k4 : wr.cell? ⟨w.heap.size, 4, none⟩ = some (.slice ak nk ck) := (hbr.cell (p := ⟨w.heap.size, 4, none⟩) (show w.heap.size < W.heap.size by omega)).trans ((cell_of_row _ w.heap.size 4 _ 26 (0, 0) HB0.out).trans rfl)
    have k5 : wr.cell? ⟨w.heap.size + 1, 4, none⟩ = some (.slice ak2 nk ck2) := (hbr.cell (p := ⟨w.heap.size + 1, 4, none⟩) (show w.heap.size + 1 < W.heap.size by omega)).trans ((cell_of_row _ (w.heap.size + 1) 4 _ 26 (0, 0) HB1.out).trans rfl)
    by_cases hkn : k < nk
    · have hbw : Below w.heap.size w wr := HBB.out.trans (hbr.mono (by omega))
      obtain ⟨b1, off1, rfl, hl1, ab1, nb1, cb1, ak1, nk1, ck1, c0, c1, c2, c3, c4, hr1, hn1, hm1, hk1⟩ := HK.out.2.2 k hkn
      obtain ⟨b2, off2, rfl, hl2, ab3, nb2, cb3, ak3, nk2, ck3, e0, e1, e2, e3, e4, hr2, hn2, hm2, hk2⟩ := HK2.out.2.2 k hkn
      obtain ⟨y, hy⟩ : ∃ y, y = x.kids.getD k default := ⟨_, rfl⟩
      rw [← hy] at c0 c1 c2 hr1 hk1 e0 e1 e2 hr2 hk2
      clear hy
      obtain rfl : nb1 = nb2 := hr1.len.symm.trans hr2.len
      obtain rfl : nk1 = nk2 := by
        cases d with
        | zero => exact hk1.elim
        | succ d =>
          cases d2 with
          | zero => exact hk2.elim
          | succ d2 => exact hk1.1.symm.trans hk2.1
      have cc : ∀ j, wr.cell? ⟨b1, j, none⟩ = w.cell? ⟨b1, j, none⟩ := fun j => hbw.cell (p := ⟨b1, j, none⟩) hl1
      have dd : ∀ j, wr.cell? ⟨b2, j, none⟩ = w.cell? ⟨b2, j, none⟩ := fun j => hbw.cell (p := ⟨b2, j, none⟩) hl2
      rw [← cc] at c0 c1 c2 c3 c4
      rw [← dd] at e0 e1 e2 e3 e4
      clear cc dd
      have hkni : (k : Int) < (nk : Int) := by omega
      have hs := hbr.size
      have R1 : Hid (Row wr.drew ab1 nb1 y.body) := hr1.kept hbw.drew
      have R2 : Hid (Row wr.drew ab3 nb1 y.body) := hr2.kept hbw.drew
      have K1 : Hid (Kids d wr.drew ak1 nk1 y.kids) := hk1.kept hbw.drew
      have K2 : Hid (Kids d2 wr.drew ak3 nk1 y.kids) := hk2.kept hbw.drew
      clear hr1 hr2 hk1 hk2
      go_wp2_with fail
      go_region_with (go_at_call 17; refine (ih d2 y ab1 nb1 cb1 ak1 nk1 ck1 ab3 cb3 ak3 ck3 _ R1.out K1.out R2.out K2.out).mono ?_; rintro e w2 ⟨rfl, hb2⟩)
      all_goals
        have b5 : Below W.heap.size W w2 := hbr.drew.trans (hb2.mono hs)
        go_wp2
        go_roundw
        case rel => exact ⟨k + 1, by omega, by go_num, b5⟩
        case measure => simp [intOf]; omega
    · go_wp2
      go_ret
      exact ⟨rfl, HBB.out.trans (hbr.mono (by omega))⟩
theorem sameQ_all (d : Nat) : SameQ d := by
  induction d with
  | zero => intro d2 x ab nb cb ak nk ck ab2 cb2 ak2 ck2 w _ h; exact h.elim
  | succ d ih => exact sameQ_next d ih

end Go.Proofs.YtjkkokjojaknkaaDoor
