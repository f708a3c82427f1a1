import Derived.Test.YtjkkokjojaknkaaDoorWItem8
import Derived.Deep.RegionWith
namespace Go.Proofs.YtjkkokjojaknkaaDoor
open Go.RowKit

theorem two_blocks (w : World) (o0 o1 : Obj) : ((w.alloc o0).alloc o1).heap[w.heap.size]? = some o0 ∧ ((w.alloc o0).alloc o1).heap[w.heap.size + 1]? = some o1 := by
  have s1 : (w.alloc o0).heap.size = w.heap.size + 1 := by simp
  exact ⟨(alloc_old _ o1 _ (by omega)).trans (heap_alloc_new w o0), by rw [← s1]; exact heap_alloc_new _ o1⟩

def EqS (d : Nat) : Prop := ∀ (a b : Option Addr) (n ca cb : Nat) (xs : List It) (w : World), Kids d w a n xs → Kids d w b n xs →
    Calls Tryd.prog 46 #[.slice a n ca, .slice b n cb] w fun e w' => e = .returned (.bool true) ∧ Below w.heap.size w w'

set_option maxRecDepth 10000 in
set_option maxHeartbeats 1000000 in
theorem eqItem_same (d : Nat) (ih : EqS d) (x : It) (ab : Option Addr) (nb cb : Nat) (ak : Option Addr) (nk ck : Nat) (ab2 : Option Addr) (cb2 : Nat) (ak2 : Option Addr) (ck2 : Nat) (w : World)
    (hr : Row w ab nb x.body) (hk : Kids d w ak nk x.kids) (hr2 : Row w ab2 nb x.body) (hk2 : Kids d w ak2 nk x.kids) (hnb : nb ≤ maxLen) :
    Calls Tryd.prog 24 #[itv x ab nb cb ak nk ck, itv x ab2 nb cb2 ak2 nk ck2] w fun e w' => e = .returned (.bool true) ∧ Below w.heap.size w w' := by
  have HR : Hid (Row w ab nb x.body) := hr
  have HR2 : Hid (Row w ab2 nb x.body) := hr2
  have HK : Hid (Kids d w ak nk x.kids) := hk
  have HK2 : Hid (Kids d w ak2 nk x.kids) := hk2
  clear hr hk hr2 hk2
  unfold itv
  have t1 : (x.cls != x.cls) = false := by simp
  have t2 : (x.tag != x.tag) = false := by simp
  have t3 : (x.cons != x.cons) = false := by simp
  go_enter Tryd.func24, Tryd.ntmps24
  have hB : Below w.heap.size w ((w.alloc (.cells #[.int .i64 x.cls, .int .i64 x.tag, .bool x.cons, .slice ab nb cb, .slice ak nk ck] 26)).alloc (.cells #[.int .i64 x.cls, .int .i64 x.tag, .bool x.cons, .slice ab2 nb cb2, .slice ak2 nk ck2] 26)) := ((Below.refl _ _).alloc (Nat.le_refl _) _).alloc (by simp) _
  go_wp2_with fail
  refine (eqByteS_any ab ab2 nb nb cb cb2 x.body x.body _ (HR.out.kept hB) (HR2.out.kept hB) hnb hnb).mono ?_
  rintro e w1 ⟨rfl, hb1⟩
  rw [decide_eq_true (rfl : x.body = x.body)]
  have hb1' : Below w.heap.size w w1 := hB.trans (hb1.mono (by simp; omega))
  have k4 : w1.cell? ⟨w.heap.size, 4, none⟩ = some (.slice ak nk ck) := (hb1.cell (p := ⟨w.heap.size, 4, none⟩) (by simp; omega)).trans ((cell_of_row _ w.heap.size 4 _ 26 (0, 0) (two_blocks w _ _).1).trans rfl)
  have k5 : w1.cell? ⟨w.heap.size + 1, 4, none⟩ = some (.slice ak2 nk ck2) := (hb1.cell (p := ⟨w.heap.size + 1, 4, none⟩) (by simp)).trans ((cell_of_row _ (w.heap.size + 1) 4 _ 26 (0, 0) (two_blocks w _ _).2).trans rfl)
  clear hb1 hB
  go_wp2_with fail
  refine (ih ak ak2 nk ck ck2 x.kids _ (HK.out.kept hb1') (HK2.out.kept hb1')).mono ?_
  rintro e w2 ⟨rfl, hb2⟩
  go_wp2
  go_ret
  exact ⟨rfl, hb1'.trans (hb2.mono hb1'.size)⟩

set_option maxRecDepth 10000 in
set_option maxHeartbeats 1000000 in
theorem eqItemS_same (d : Nat) (ih : EqS d) : EqS (d + 1) := by
  intro a b n ca cb xs w hk hk2
  have HK : Hid (Kids (d + 1) w a n xs) := hk
  have HK2 : Hid (Kids (d + 1) w b n xs) := hk2
  have hn := hk.2.1
  clear hk hk2
  have t1 : ((n : Int) != (n : Int)) = false := by simp
  go_enter Tryd.func46, Tryd.ntmps46
  go_wp2
  go_loopw [5] (fun i wr => ∃ k : Nat, k ≤ n ∧ i = .int .i64 k ∧ Below w.heap.size w wr) (fun i _ => n - (intOf i).toNat)
  case atStart => exact ⟨0, Nat.zero_le _, rfl, Below.refl _ _⟩
  case round =>
    obtain ⟨k, hk, rfl, hbr⟩ := hrel
    by_cases hkn : k < n
    · obtain ⟨b1, off1, rfl, hl1, ab1, nb1, cb1, ak1, nk1, ck1, c0, c1, c2, c3, c4, hr1, hn1, hm1, hk1⟩ := HK.out.2.2 k hkn
      obtain ⟨b2, off2, rfl, hl2, ab2, nb2, cb2, ak2, nk2, ck2, d0, d1, d2, d3, d4, hr2, hn2, hm2, hk2⟩ := HK2.out.2.2 k hkn
      obtain ⟨y, hy⟩ : ∃ y, y = xs.getD k default := ⟨_, rfl⟩
      rw [← hy] at c0 c1 c2 hr1 hk1 d0 d1 d2 hr2 hk2
      clear hy
      obtain rfl : nb1 = nb2 := hr1.len.symm.trans hr2.len
      obtain rfl : nk1 = nk2 := by
        cases d with
        | zero => exact hk1.elim
        | succ d => exact hk1.1.symm.trans hk2.1
      have cc : ∀ j, wr.cell? ⟨b1, j, none⟩ = w.cell? ⟨b1, j, none⟩ := fun j => hbr.cell (p := ⟨b1, j, none⟩) hl1
      have dd : ∀ j, wr.cell? ⟨b2, j, none⟩ = w.cell? ⟨b2, j, none⟩ := fun j => hbr.cell (p := ⟨b2, j, none⟩) hl2
      rw [← cc] at c0 c1 c2 c3 c4
      rw [← dd] at d0 d1 d2 d3 d4
      clear cc dd
      have hkni : (k : Int) < (n : Int) := by omega
      have hs := hbr.size
      have R1 : Hid (Row wr.drew ab1 nb1 y.body) := hr1.kept hbr.drew
      have R2 : Hid (Row wr.drew ab2 nb1 y.body) := hr2.kept hbr.drew
      have K1 : Hid (Kids d wr.drew ak1 nk1 y.kids) := hk1.kept hbr.drew
      have K2 : Hid (Kids d wr.drew ak2 nk1 y.kids) := hk2.kept hbr.drew
      clear hr1 hr2 hk1 hk2
      go_wp2_with fail
      go_region_with (go_at_call 24; refine (eqItem_same d ih y ab1 nb1 cb1 ak1 nk1 ck1 ab2 cb2 ak2 ck2 _ R1.out K1.out R2.out K2.out (by unfold maxLen; omega)).mono ?_; rintro e w2 ⟨rfl, hb2⟩)
      all_goals
        have b5 : Below w.heap.size w w2 := hbr.drew.trans (hb2.mono hs)
        go_wp2
        go_roundw
        case rel => exact ⟨k + 1, by omega, by go_num, b5⟩
        case measure => simp [intOf]; omega
    · go_wp2
      go_ret
      exact ⟨rfl, hbr⟩

theorem eqS_all (d : Nat) : EqS d := by
  induction d with
  | zero => intro a b n ca cb xs w h; exact h.elim
  | succ d ih => exact eqItemS_same d ih

end Go.Proofs.YtjkkokjojaknkaaDoor
