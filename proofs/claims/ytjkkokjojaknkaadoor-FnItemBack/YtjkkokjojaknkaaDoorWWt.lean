import Derived.Test.YtjkkokjojaknkaaDoorWWs
import Derived.Test.YtjkkokjojaknkaaDoorOpenIt
namespace Go.Proofs.YtjkkokjojaknkaaDoor
open Go.RowKit

/-- A variable with an item of our own. -/
structure Tree (lo M hi d : Nat) (W : World) (g : Nat) (y : It) (ab : Option Addr) (nb cb : Nat) (ak : Option Addr) (nk ck : Nat) : Prop where
  box : BoxT 26 g W y ab nb cb ak nk ck
  body : OwnB lo M W ab nb cb y.body
  kids : OwnKids d M hi W ak nk y.kids
  le : lo ≤ M ∧ M ≤ hi
theorem Tree.kept {lo M hi d : Nat} {W W' : World} {g : Nat} {y : It} {ab : Option Addr} {nb cb : Nat} {ak : Option Addr} {nk ck : Nat} (h : Tree lo M hi d W g y ab nb cb ak nk ck) (hb : Below W.heap.size W W') : Tree lo M hi d W' g y ab nb cb ak nk ck :=
  ⟨h.box.kept hb, h.body.kept hb, h.kids.kept hb, h.le⟩
theorem Tree.touch {lo M hi d p q : Nat} {W W' : World} {g : Nat} {y : It} {ab : Option Addr} {nb cb : Nat} {ak : Option Addr} {nk ck : Nat} (h : Tree lo M hi d W g y ab nb cb ak nk ck) (hd : hi ≤ p ∨ q ≤ lo) (hg : g < p ∨ q ≤ g) (ht : Touch p q W W') : Tree lo M hi d W' g y ab nb cb ak nk ck :=
  ⟨h.box.touch hg ht, h.body.touch (by have := h.le; omega) ht, ownKids_moves d _ _ p q _ _ _ _ _ h.kids (by have := h.le; omega) ht, h.le⟩
theorem tree_new {lo M hi d : Nat} {W : World} {y : It} {ab : Option Addr} {nb cb : Nat} {ak : Option Addr} {nk ck : Nat} (hb : OwnB lo M W ab nb cb y.body) (hk : OwnKids d M hi W ak nk y.kids) (h1 : lo ≤ M) (h2 : M ≤ hi) :
    Tree lo M hi d (W.alloc (.cells #[.int .i64 y.cls, .int .i64 y.tag, .bool y.cons, .slice ab nb cb, .slice ak nk ck] 26)) W.heap.size y ab nb cb ak nk ck :=
  ⟨boxT_new 26 W y ab nb cb ak nk ck, hb.kept ((Below.refl _ _).alloc (Nat.le_refl _) _), hk.kept ((Below.refl _ _).alloc (Nat.le_refl _) _), h1, h2⟩
/-- Two such items that are the same are told as the same. -/
theorem Tree.eq {lo M hi d lo2 M2 hi2 d2 : Nat} {W : World} {g g2 : Nat} {y : It} {ab : Option Addr} {nb cb : Nat} {ak : Option Addr} {nk ck : Nat} {ab2 : Option Addr} {nb2 cb2 : Nat} {ak2 : Option Addr} {nk2 ck2 : Nat} (h : Tree lo M hi d W g y ab nb cb ak nk ck) (h2 : Tree lo2 M2 hi2 d2 W g2 y ab2 nb2 cb2 ak2 nk2 ck2) :
    Calls Tryd.prog 24 #[itv y ab nb cb ak nk ck, itv y ab2 nb2 cb2 ak2 nk2 ck2] W fun e w' => e = .returned (.bool true) ∧ Below W.heap.size W w' := by
  obtain rfl : nb = nb2 := h.body.own.length.symm.trans h2.body.own.length
  have k1 := h.kids.kids.le (show d ≤ d + d2 + 1 by omega)
  have k2 := h2.kids.kids.le (show d2 ≤ d + d2 + 1 by omega)
  obtain rfl : nk = nk2 := k1.1.symm.trans k2.1
  exact eqItem_same (d + d2 + 1) (eqS_all _) y ab nb cb ak nk ck ab2 cb2 ak2 ck2 W h.body.own.toRow k1 h2.body.own.toRow k2 (by have := h.body.own.max; unfold maxLen; omega)

set_option maxRecDepth 10000 in
set_option maxHeartbeats 1000000 in
theorem heldItem_any (d : Nat) (y : It) (ab : Option Addr) (nb cb : Nat) (ak : Option Addr) (nk ck : Nat) (k : Nat) (K : Int) (hK : K = (k : Int)) (w : World) (hb : Row w ab nb (marks k nb)) (hk : Kids d w ak nk (mkS d y.kids (k + nb)).1) (hw : k + nb + 3 * wtS d y.kids ≤ 100000000) :
    Calls Tryd.prog 28 #[itv y ab nb cb ak nk ck, .int .i64 K] w fun e w' => e = .returned (.int .i64 ((mkS d y.kids (k + nb)).2 : Nat)) ∧ Below w.heap.size w w' := by
  subst hK
  have hbl : Below w.heap.size w (w.alloc (.cells #[.int .i64 y.cls, .int .i64 y.tag, .bool y.cons, .slice ab nb cb, .slice ak nk ck] 26)) := (Below.refl _ _).alloc (Nat.le_refl _) _
  have RB : Hid (_) := hb.kept hbl
  have KB : Hid (_) := hk.kept hbl
  have hbx := boxT_new 26 w y ab nb cb ak nk ck
  obtain ⟨x0, x1, x2, x3, x4⟩ := hbx.cells
  clear hb hk hbx
  have hq := mkS_le d y.kids (k + nb)
  have g0 : ¬ (k : Int) + (nb : Int) < 0 := by omega
  unfold itv
  go_enter Tryd.func28, Tryd.ntmps28
  go_wp2_with fail
  refine (heldByteS_int ab nb cb (k : Int) _ (by rw [Int.toNat_natCast]; exact RB.out) (by omega) (by omega) (by omega)).mono ?_
  rintro e w1 ⟨rfl, rfl⟩
  go_wp2_with fail
  refine (heldS_all d ak nk ck y.kids (k + nb) _ _ (by omega) KB.out hw).mono ?_
  rintro e w2 ⟨rfl, hb2⟩
  have B2 : Below w.heap.size w w2 := hbl.trans (hb2.mono hbl.size)
  obtain ⟨q, hqe⟩ : ∃ q, q = (mkS d y.kids (k + nb)).2 := ⟨_, rfl⟩
  have HQ : Hid (q = (mkS d y.kids (k + nb)).2) := hqe
  rw [← hqe] at hq ⊢
  have g1 : ¬ (q : Int) < 0 := by omega
  clear hqe hb2
  go_wp2
  go_ret
  exact ⟨by rw [← HQ.out]; rfl, B2⟩

end Go.Proofs.YtjkkokjojaknkaaDoor
