import Derived.Test.YtjechndhgkkpeaaD2
import Derived.Deep.RegionWith
import Derived.Deep.OwnRows
namespace Go.Proofs.Ytjechndhgkkpeaa
open Go.RowKit

def ats (ps : List (Int × Int)) : List Int := ps.map Prod.fst
def vls (ps : List (Int × Int)) : List Int := ps.map Prod.snd
theorem ats_len (ps : List (Int × Int)) : (ats ps).length = ps.length := by simp [ats]
theorem vls_len (ps : List (Int × Int)) : (vls ps).length = ps.length := by simp [vls]
theorem ats_get (ps : List (Int × Int)) (k : Nat) (h : k < ps.length) : (ats ps).getD k 0 = (ps.getD k (0, 0)).1 := by simp [ats, h]
theorem vls_get (ps : List (Int × Int)) (k : Nat) (h : k < ps.length) : (vls ps).getD k 0 = (ps.getD k (0, 0)).2 := by simp [vls, h]

theorem fb0 (w : World) (o0 o1 o2 o3 : Obj) : ((((w.alloc o0).alloc o1).alloc o2).alloc o3).drew.heap[w.heap.size]? = some o0 :=
  (alloc_old2 _ o3 _ (by simp; omega)).trans ((alloc_old2 _ o2 _ (by simp; omega)).trans ((alloc_old2 _ o1 _ (by simp)).trans (heap_alloc_new w o0)))
theorem fb1 (w : World) (o0 o1 o2 o3 : Obj) : ((((w.alloc o0).alloc o1).alloc o2).alloc o3).drew.heap[w.heap.size + 1]? = some o1 := by
  have s1 : (w.alloc o0).heap.size = w.heap.size + 1 := by simp
  exact (alloc_old2 _ o3 _ (by simp)).trans ((alloc_old2 _ o2 _ (by simp)).trans (by rw [← s1]; exact heap_alloc_new _ o1))
theorem fb2 (w : World) (o0 o1 o2 o3 : Obj) : ((((w.alloc o0).alloc o1).alloc o2).alloc o3).drew.heap[w.heap.size + 1 + 1]? = some o2 := by
  have s1 : ((w.alloc o0).alloc o1).heap.size = w.heap.size + 1 + 1 := by simp
  exact (alloc_old2 _ o3 _ (by simp)).trans (by rw [← s1]; exact heap_alloc_new _ o2)
theorem fb3 (w : World) (o0 o1 o2 o3 : Obj) : ((((w.alloc o0).alloc o1).alloc o2).alloc o3).drew.heap[w.heap.size + 1 + 1 + 1]? = some o3 := by
  have s1 : (((w.alloc o0).alloc o1).alloc o2).heap.size = w.heap.size + 1 + 1 + 1 := by simp
  show (((w.alloc o0).alloc o1).alloc o2 |>.alloc o3).heap[w.heap.size + 1 + 1 + 1]? = some o3
  rw [← s1]; exact heap_alloc_new _ o3
theorem fbB (w : World) (o0 o1 o2 o3 : Obj) : Below w.heap.size w ((((w.alloc o0).alloc o1).alloc o2).alloc o3).drew :=
  (((((Below.refl _ _).alloc (Nat.le_refl _) _).alloc (by simp) _).alloc (by simp; omega) _).alloc (by simp; omega) _).drew

/-- Two variables, each with a row of numbers of its own. -/
structure RB (w wx : World) (b4 b5 g1 g2 n : Nat) (us vs : List Int) : Prop where
  h4 : wx.heap[b4]? = some (.cells #[.slice (some ⟨g1, 0, none⟩) n n] 24)
  h5 : wx.heap[b5]? = some (.cells #[.slice (some ⟨g2, 0, none⟩) n n] 24)
  r1 : wx.ownsRow w.heap.size 2 1 (.slice (some ⟨g1, 0, none⟩) n n) n (us.map (Value.int .i64))
  r2 : wx.ownsRow w.heap.size 2 1 (.slice (some ⟨g2, 0, none⟩) n n) n (vs.map (Value.int .i64))
  ne : (b4 ≠ g1 ∧ b4 ≠ g2 ∧ b5 ≠ g1 ∧ b5 ≠ g2 ∧ g1 ≠ g2) ∧ w.heap.size ≤ g1 ∧ w.heap.size ≤ g2
  below : Below w.heap.size w wx
theorem made_row {w wx : World} {g n : Nat} (hn : n ≤ 1048576) (hg : wx.heap[g]? = some (.cells (madeCells #[.int .i64 0] n) 2)) (hb : w.heap.size ≤ g) : wx.ownsRow w.heap.size 2 1 (.slice (some ⟨g, 0, none⟩) n n) n ((List.replicate n (0 : Int)).map (Value.int .i64)) := by
  refine ⟨by simp, .inr ⟨g, n, _, rfl, hb, hg, Nat.le_refl _, by unfold maxLen; omega, by simp [size_madeCells], ?_⟩⟩
  rw [toList_madeCells_one, Nat.mul_one, List.map_replicate, List.take_of_length_le (by simp)]
theorem RB.made {w wx : World} {b4 b5 g1 g2 n : Nat} (hn : n ≤ 1048576) (h4 : wx.heap[b4]? = some (.cells #[.slice (some ⟨g1, 0, none⟩) n n] 24)) (h5 : wx.heap[b5]? = some (.cells #[.slice (some ⟨g2, 0, none⟩) n n] 24))
    (k1 : wx.heap[g1]? = some (.cells (madeCells #[.int .i64 0] n) 2)) (k2 : wx.heap[g2]? = some (.cells (madeCells #[.int .i64 0] n) 2)) (ne : (b4 ≠ g1 ∧ b4 ≠ g2 ∧ b5 ≠ g1 ∧ b5 ≠ g2 ∧ g1 ≠ g2) ∧ w.heap.size ≤ g1 ∧ w.heap.size ≤ g2) (hb : Below w.heap.size w wx) :
    RB w wx b4 b5 g1 g2 n (List.replicate n 0) (List.replicate n 0) :=
  ⟨h4, h5, made_row hn k1 ne.2.1, made_row hn k2 ne.2.2, ne, hb⟩

theorem ownsRow_other {w : World} {B e s n g g' j : Nat} {cap : Nat} {xs : List Value} (h : w.ownsRow B e s (.slice (some ⟨g, 0, none⟩) n cap) n xs) (u : Value) (hne : g ≠ g') : (w.setCell ⟨g', j, none⟩ u).ownsRow B e s (.slice (some ⟨g, 0, none⟩) n cap) n xs := by
  refine ⟨h.1, ?_⟩
  rcases h.2 with hv | ⟨g2, cap', cur, hv, hb, hg, rest⟩
  · exact .inl hv
  · have : g2 = g := by simp at hv; exact hv.1.symm
    subst this
    exact .inr ⟨g2, cap', cur, hv, hb, (heap_setCell_other w ⟨g', j, none⟩ g2 u hne).trans hg, rest⟩
/-- Both rows get their k-th number. -/
theorem RB.store {w wx : World} {b4 b5 g1 g2 n : Nat} {us vs : List Int} (h : RB w wx b4 b5 g1 g2 n us vs) (k : Nat) (x y : Int) :
    RB w ((wx.setCell ⟨g1, k, none⟩ (.int .i64 x)).setCell ⟨g2, k, none⟩ (.int .i64 y)) b4 b5 g1 g2 n (us.set k x) (vs.set k y) := by
  obtain ⟨⟨n1, n2, n3, n4, n5⟩, l1, l2⟩ := h.ne
  refine ⟨?_, ?_, ?_, ?_, h.ne, (h.below.setCell l1 _).setCell l2 _⟩
  · exact (heap_setCell_other _ ⟨g2, k, none⟩ b4 _ n2).trans ((heap_setCell_other _ ⟨g1, k, none⟩ b4 _ n1).trans h.h4)
  · exact (heap_setCell_other _ ⟨g2, k, none⟩ b5 _ n4).trans ((heap_setCell_other _ ⟨g1, k, none⟩ b5 _ n3).trans h.h5)
  · rw [List.map_set]; exact ownsRow_other (h.r1.stored k (.int .i64 x)).1 _ n5
  · rw [List.map_set]; exact ((ownsRow_other h.r2 (.int .i64 x) (Ne.symm n5)).stored k (.int .i64 y)).1
theorem RB.kept {w wx wy : World} {b4 b5 g1 g2 n : Nat} {us vs : List Int} (h : RB w wx b4 b5 g1 g2 n us vs) (hb : Below wx.heap.size wx wy) : RB w wy b4 b5 g1 g2 n us vs :=
  ⟨(hb.block _ (Array.getElem?_eq_some_iff.1 h.h4).1).trans h.h4, (hb.block _ (Array.getElem?_eq_some_iff.1 h.h5).1).trans h.h5, ownsRow_below h.r1 hb, ownsRow_below h.r2 hb, h.ne, keep3 h.below hb⟩
theorem RB.row1 {w wx : World} {b4 b5 g1 g2 n : Nat} {us vs : List Int} (h : RB w wx b4 b5 g1 g2 n us vs) : Row64 wx (some ⟨g1, 0, none⟩) n us :=
  Own64.toRow (lo := w.heap.size) (hi := g1 + 1) (cap := n) ⟨h.r1, fun x hx => by simp at hx; subst hx; simp⟩
theorem RB.row2 {w wx : World} {b4 b5 g1 g2 n : Nat} {us vs : List Int} (h : RB w wx b4 b5 g1 g2 n us vs) : Row64 wx (some ⟨g2, 0, none⟩) n vs :=
  Own64.toRow (lo := w.heap.size) (hi := g2 + 1) (cap := n) ⟨h.r2, fun x hx => by simp at hx; subst hx; simp⟩
theorem RB.c4 {w wx : World} {b4 b5 g1 g2 n : Nat} {us vs : List Int} (h : RB w wx b4 b5 g1 g2 n us vs) : wx.cell? ⟨b4, 0, none⟩ = some (.slice (some ⟨g1, 0, none⟩) n n) := (cell_of_row _ b4 0 _ 24 (0, 0) h.h4).trans rfl
theorem RB.c5 {w wx : World} {b4 b5 g1 g2 n : Nat} {us vs : List Int} (h : RB w wx b4 b5 g1 g2 n us vs) : wx.cell? ⟨b5, 0, none⟩ = some (.slice (some ⟨g2, 0, none⟩) n n) := (cell_of_row _ b5 0 _ 24 (0, 0) h.h5).trans rfl

def rterm (ps : List (Int × Int)) (j : Nat) : Int := lamL (ats ps) ((ats ps).getD j 0) * (vls ps).getD j 0 % 500000003

set_option maxHeartbeats 2000000 in
theorem restTerm_any (b4 b5 g1 g2 n : Nat) (us vs : List Int) (i : Nat) (w wx : World) (h : RB w wx b4 b5 g1 g2 n us vs) (hi : i < n) (hn : n ≤ 20) (hs : ∀ j, j < n → secP (us.getD j 0)) (he : ∀ j, j < n → expP (vs.getD j 0)) :
    Calls Try.prog 33 #[.int .i64 i, .pointer (some ⟨b4, 0, none⟩), .pointer (some ⟨b5, 0, none⟩)] wx fun e w' => e = .returned (.int .i64 (lamL us (us.getD i 0) * vs.getD i 0 % 500000003)) ∧ ∃ q, w' = wx.drewN q := by
  have q4 := h.c4
  have q5 := h.c5
  have hr1 := h.row1
  have HR1 : Hid (Row64 wx (some ⟨g1, 0, none⟩) n us) := hr1
  obtain ⟨b, off, hb1, _, hc1⟩ := hr1.get i hi
  obtain ⟨b', off', hb2, _, hc2⟩ := h.row2.get i hi
  simp only [Option.some.injEq, Addr.mk.injEq, and_true] at hb1 hb2
  obtain ⟨rfl, rfl⟩ := hb1
  obtain ⟨rfl, rfl⟩ := hb2
  rw [Nat.zero_add] at hc1 hc2
  have HS : Hid (∀ j, j < n → secP (us.getD j 0)) := hs
  obtain ⟨hv0, hv1⟩ := he i hi
  have hsi := hs i hi
  obtain ⟨x, hx⟩ : ∃ x, x = us.getD i 0 := ⟨_, rfl⟩
  obtain ⟨y, hy⟩ : ∃ y, y = vs.getD i 0 := ⟨_, rfl⟩
  rw [← hx] at hc1 hsi ⊢
  rw [← hy] at hc2 hv0 hv1 ⊢
  obtain ⟨hl0, hl1⟩ := lamL_bd us x
  obtain ⟨hp0, hp1⟩ := prod_bd hl0 (show lamL us x < 1000000007 by omega) hv0 (show y < 1000000007 by omega) (Int.le_refl _)
  have hii : (i : Int) < (n : Int) := by omega
  clear h hr1 hs he hx hy
  go_enter Try.func33, Try.ntmps33
  go_wp2_with fail
  go_quiet ((go_at_call 34; refine Calls.quiet_of_same (weightAt_any _ n n us x _ (HR1.out.kept (below_drewN3 (Below.refl _ _) _)) hn HS.out hsi)))
  go_wp2
  go_ret
  exact ⟨rfl, _, rfl⟩

end Go.Proofs.Ytjechndhgkkpeaa
