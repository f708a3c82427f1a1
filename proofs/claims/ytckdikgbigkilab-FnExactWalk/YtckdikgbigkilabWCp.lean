import Derived.Test.YtckdikgbigkilabWCl
import Derived.Deep.AppendLies
namespace Go.Proofs.Ytckdikgbigkilab
open Go.RowKit

theorem OwnPre.regrow {K : Nat → Nat → World → Option Addr → Nat → List It → Prop} (hK : Moves K) {lo hi : Nat} {w w' : World} {g g' i : Nat} {xs : List It} (h : OwnPre K lo hi w g i xs)
    (hc : ∀ j, j < i * 5 → w'.cell? ⟨g', j, none⟩ = w.cell? ⟨g, j, none⟩) (hg : g' = g ∨ hi ≤ g') (ht : Touch g (g + 1) w w') : OwnPre K lo hi w' g' i xs := by
  obtain ⟨L, H, h1, h2, h3⟩ := h
  refine ⟨L, H, fun k hk => ?_, h2, fun k hk => ?_⟩
  · have := h1 k hk
    rcases hg with rfl | hg
    · exact this
    · omega
  · obtain ⟨ab, nb, cb, ak, nk, ck, M, c0, c1, c2, c3, c4, m1, m2, ob, ok⟩ := h3 k hk
    have hb := h1 k hk
    exact ⟨ab, nb, cb, ak, nk, ck, M, (hc _ (by omega)).trans c0, (hc _ (by omega)).trans c1, (hc _ (by omega)).trans c2, (hc _ (by omega)).trans c3, (hc _ (by omega)).trans c4, m1, m2,
      ob.touch (by omega) ht, hK _ _ _ _ _ _ _ _ _ ok (by omega) ht⟩
theorem OwnPre.wide {K : Nat → Nat → World → Option Addr → Nat → List It → Prop} {lo hi hi' : Nat} {w : World} {g i : Nat} {xs : List It} (h : OwnPre K lo hi w g i xs) (hh : hi ≤ hi') : OwnPre K lo hi' w g i xs := by
  obtain ⟨L, H, h1, h2, h3⟩ := h
  exact ⟨L, H, fun k hk => by have := h1 k hk; omega, h2, h3⟩
theorem OwnPre.more' {K : Nat → Nat → World → Option Addr → Nat → List It → Prop} {lo hi s hi' M : Nat} {w : World} {g i : Nat} {xs : List It} (h : OwnPre K lo hi w g i xs) (hs : hi ≤ s) (hg : g < s ∨ hi' ≤ g) (hlo : lo ≤ s) (m1 : s ≤ M) (m2 : M ≤ hi')
    {ab : Option Addr} {nb cb : Nat} {ak : Option Addr} {nk ck : Nat} (c0 : w.cell? ⟨g, i * 5, none⟩ = some (.int .i64 (xs.getD i default).cls)) (c1 : w.cell? ⟨g, i * 5 + 1, none⟩ = some (.int .i64 (xs.getD i default).tag)) (c2 : w.cell? ⟨g, i * 5 + 2, none⟩ = some (.bool (xs.getD i default).cons))
    (c3 : w.cell? ⟨g, i * 5 + 3, none⟩ = some (.slice ab nb cb)) (c4 : w.cell? ⟨g, i * 5 + 4, none⟩ = some (.slice ak nk ck)) (ob : OwnB s M w ab nb cb (xs.getD i default).body) (ok : K M hi' w ak nk (xs.getD i default).kids) : OwnPre K lo hi' w g (i + 1) xs := by
  obtain ⟨L, H, h1, h2, h3⟩ := h
  refine ⟨fun k => if k = i then s else L k, fun k => if k = i then hi' else H k, fun k hk => ?_, fun j k hjk hk => ?_, fun k hk => ?_⟩
  · by_cases hki : k = i
    · subst hki
      simp only [if_true]
      omega
    · have := h1 k (by omega)
      simp only [if_neg hki]
      omega
  · have hj := h1 j (by omega)
    simp only [if_neg (show j ≠ i by omega)]
    by_cases hki : k = i
    · simp only [if_pos hki]; omega
    · simp only [if_neg hki]; exact h2 j k hjk (by omega)
  · by_cases hki : k = i
    · subst hki
      simp only [if_true]
      exact ⟨ab, nb, cb, ak, nk, ck, M, c0, c1, c2, c3, c4, m1, m2, ob, ok⟩
    · simp only [if_neg hki]
      exact h3 k (by omega)

theorem cells_new (w : World) (cs : Array Value) (t : TypeId) : ∀ j u, cs.toList[j]? = some u → (w.alloc (.cells cs t)).cell? ((⟨w.heap.size, 0, none⟩ : Addr).add j) = some u := by
  intro j u hj
  rw [Addr.add_lit, Nat.zero_add, cell_of_row _ w.heap.size j _ t (0, 0) (heap_alloc_new w _)]
  simpa using hj

def CopyI (d : Nat) : Prop := ∀ (x : It) (ab : Option Addr) (nb cb : Nat) (ak : Option Addr) (nk ck : Nat) (w : World), Row w ab nb x.body → (ab = none → cb = 0) → nb ≤ 1048576 → Kids d w ak nk x.kids → wtS d x.kids ≤ 1048576 →
    Calls Try.prog 35 #[itv x ab nb cb ak nk ck] w fun e w' => ClPost d x nb nk w e w'

set_option maxRecDepth 10000 in
set_option maxHeartbeats 4000000 in
theorem copyI_next (d : Nat) (ih : CopyI d) : CopyI (d + 1) := by
  intro x ab nb cb ak nk ck w hr hnil hnb hk hwt
  obtain ⟨i0, hi, hz0, hz1, hz2⟩ := info_parts Try.infoItem
  obtain ⟨i5, hi5, hz50, hz51, hz52⟩ := info_parts Try.info5
  have HR : Hid (Row w ab nb x.body) := hr
  have HK : Hid (Kids (d + 1) w ak nk x.kids) := hk
  have HL : Hid (x.kids.length = nk) := hk.1
  have HW : Hid (nk + wtP d x.kids nk ≤ 1048576) := by show _ ≤ _; rw [wtS_succ, hk.1] at hwt; exact hwt
  have hnk : nk ≤ 1048576 := by have := HW.out; omega
  clear hk hr hwt
  obtain ⟨b0, b1, _⟩ := three_blocks w (.cells #[.int .i64 x.cls, .int .i64 x.tag, .bool x.cons, .slice ab nb cb, .slice ak nk ck] 34) (.cells #[.int .i64 0, .int .i64 0, .bool false, .slice none 0 0, .slice none 0 0] 34) (.cells #[] 5)
  have hB0 : Below w.heap.size w (((w.alloc (.cells #[.int .i64 x.cls, .int .i64 x.tag, .bool x.cons, .slice ab nb cb, .slice ak nk ck] 34)).alloc (.cells #[.int .i64 0, .int .i64 0, .bool false, .slice none 0 0, .slice none 0 0] 34)).alloc (.cells #[] 5)) := (((Below.refl _ _).alloc (Nat.le_refl _) _).alloc (by simp) _).alloc (by simp; omega) _
  have HO : Hid (Own (w.heap.size + 2) (((w.alloc (.cells #[.int .i64 x.cls, .int .i64 x.tag, .bool x.cons, .slice ab nb cb, .slice ak nk ck] 34)).alloc (.cells #[.int .i64 0, .int .i64 0, .bool false, .slice none 0 0, .slice none 0 0] 34)).alloc (.cells #[] 5)) (some ⟨w.heap.size + 1 + 1, 0, none⟩) 0 0 []) := own_zero _ _ _ (by simp) (by simp)
  have B0 : Hid (_ = _) := b0
  have B1 : Hid (_ = _) := b1
  clear b0 b1
  unfold itv
  go_enter Try.func35, Try.ntmps35
  go_wp2_with (at_builtin; refine wpList_append_row _ rfl (.tmp 5) (.tmp 7) 22 rfl (w.heap.size + 2) i5 Try.underlying22 hi5 hz50 hz51 hz52 _ _ _ rfl HO.out.row ab nb cb x.body rfl (HR.out.kept hB0) hnil (by omega) (by simp) ?_; intro v1 w1 hv1 hg1; obtain ⟨a1, c1, rfl, ho1⟩ := own_appended (xs := []) (ys := x.body) hv1 HO.out.byte HR.out.byte; have hb1 : Below w.heap.size w w1 := below_appended hB0 hB0.size (HO.out.mono (by omega)).row hg1; have bb0 := (hg1.block w.heap.size (by simp; omega) (by show some w.heap.size ≠ some (w.heap.size + 1 + 1); simp; omega)).trans B0.out; have bb1 := (hg1.block (w.heap.size + 1) (by simp) (by show some (w.heap.size + 1) ≠ some (w.heap.size + 1 + 1); simp)).trans B1.out; have c03 : w1.cell? ⟨w.heap.size, 3, none⟩ = some (.slice ab nb cb) := (cell_of_row _ w.heap.size 3 _ 34 (0, 0) bb0).trans rfl; have f03 : w1.frozen? ⟨w.heap.size, 3, none⟩ = false := frozen_of_row w1 w.heap.size 3 _ 34 bb0; have hsz1 := hg1.size)
  have ho1' : Own (w.heap.size + 2) w1 a1 nb c1 x.body := by simpa using ho1
  simp at hsz1
  have t1 : Touch w.heap.size (w.heap.size + 2) w1 (w1.setCell ⟨w.heap.size, 3, none⟩ (.slice a1 nb c1)) := touch_set w1 _ 3 _ (by omega) (by omega)
  have hsz : (w1.setCell ⟨w.heap.size, 3, none⟩ (.slice a1 nb c1)).heap.size = w1.heap.size := by simp
  have e0 : (w1.setCell ⟨w.heap.size, 3, none⟩ (.slice a1 nb c1)).heap[w.heap.size]? = some (.cells #[.int .i64 x.cls, .int .i64 x.tag, .bool x.cons, .slice a1 nb c1, .slice ak nk ck] 34 (0, 0)) := (heap_setCell_same w1 w.heap.size 3 _ 34 (.slice a1 nb c1) bb0).trans rfl
  have e1 : (w1.setCell ⟨w.heap.size, 3, none⟩ (.slice a1 nb c1)).heap[w.heap.size + 1]? = some (.cells #[.int .i64 0, .int .i64 0, .bool false, .slice none 0 0, .slice none 0 0] 34 (0, 0)) := (heap_setCell_other w1 ⟨w.heap.size, 3, none⟩ (w.heap.size + 1) (.slice a1 nb c1) (by simp)).trans bb1
  have ob1 : OwnB (w.heap.size + 2) w1.heap.size (w1.setCell ⟨w.heap.size, 3, none⟩ (.slice a1 nb c1)) a1 nb c1 x.body := ho1'.ownB.touch (.inr (by omega)) t1
  have hal : Below w1.heap.size (w1.setCell ⟨w.heap.size, 3, none⟩ (.slice a1 nb c1)) ((w1.setCell ⟨w.heap.size, 3, none⟩ (.slice a1 nb c1)).alloc (.cells #[] 34)) := (Below.refl _ _).alloc (by rw [hsz]; exact Nat.le_refl _) _
  have hB2 : Below w.heap.size w ((w1.setCell ⟨w.heap.size, 3, none⟩ (.slice a1 nb c1)).alloc (.cells #[] 34)) := (hb1.setCell (by simp) _).trans (hal.mono (by omega))
  have hown : ((w1.setCell ⟨w.heap.size, 3, none⟩ (.slice a1 nb c1)).alloc (.cells #[] 34)).ownsRow w1.heap.size 34 5 (.slice (some ⟨w1.heap.size, 0, none⟩) 0 0) 0 [] := by
    have := World.ownsRow_lit (e := 34) (base := w1.heap.size) (size := 5) (w1.setCell ⟨w.heap.size, 3, none⟩ (.slice a1 nb c1)) #[] 0 (by rw [hsz]; exact Nat.le_refl _) (by decide) rfl
    rw [hsz] at this
    exact this
  have hszW : ((w1.setCell ⟨w.heap.size, 3, none⟩ (.slice a1 nb c1)).alloc (.cells #[] 34)).heap.size = w1.heap.size + 1 := by simp
  replace e0 := heap_kept hal (by omega) e0
  replace e1 := heap_kept hal (by omega) e1
  rw [← hsz] at hal
  have ob2 := ob1.kept hal
  obtain ⟨W1, hW1⟩ : ∃ W1, W1 = (w1.setCell ⟨w.heap.size, 3, none⟩ (.slice a1 nb c1)).alloc (.cells #[] 34) := ⟨_, rfl⟩
  rw [← hW1] at e0 e1 ob2 hown hszW hB2 ⊢
  have E0 : Hid (_ = _) := e0
  have E1 : Hid (_ = _) := e1
  clear hW1 hal ob1 t1 c03 f03 bb0 bb1 hg1 hv1 ho1 ho1' hb1 e0 e1 hsz HO B0 B1 hB0
  go_loopw [3, 4] (fun o i wr => ∃ k g c : Nat, k ≤ nk ∧ i = .int .i64 k ∧ o = .slice (some ⟨g, 0, none⟩) k c ∧ (∃ vs, wr.ownsRow w1.heap.size 34 5 (.slice (some ⟨g, 0, none⟩) k c) k vs) ∧ OwnPre (OwnKids d) w1.heap.size wr.heap.size wr g k x.kids ∧ OwnB (w.heap.size + 2) w1.heap.size wr a1 nb c1 x.body ∧ wr.heap[w.heap.size]? = W1.heap[w.heap.size]? ∧ wr.heap[w.heap.size + 1]? = W1.heap[w.heap.size + 1]? ∧ Below w.heap.size w wr) (fun _ i _ => nk - (intOf i).toNat)
  case atStart => exact ⟨0, w1.heap.size, 0, Nat.zero_le _, rfl, rfl, ⟨_, hown⟩, ownPre_zero _ _ _ _ _, ob2, rfl, rfl, hB2⟩
  case round =>
    obtain ⟨k, g, c, hk, rfl, rfl, ⟨vs, hor⟩, hpre, hob, hh0, hh1, hbr⟩ := hrel
    have e0 := hh0.trans E0.out
    have e1 := hh1.trans E1.out
    have x4 : wr.cell? ⟨w.heap.size, 4, none⟩ = some (.slice ak nk ck) := (cell_of_row _ w.heap.size 4 _ 34 (0, 0) e0).trans rfl
    have hlt := hor.lt g rfl
    by_cases hkn : k < nk
    · obtain ⟨b, off, rfl, hlb, ab1, nb1, cb1, ak1, nk1, ck1, c0, c1', c2, c3, c4, hr, hnil1, hnb1, hkk⟩ := HK.out.2.2 k hkn
      have HN : Hid (_ = _) := wtP_next d x.kids k (by have := HL.out; omega)
      have HLE : Hid (_ ≤ _) := wtP_le d x.kids (k + 1)
      obtain ⟨y, hy⟩ : ∃ y, y = x.kids.getD k default := ⟨_, rfl⟩
      rw [← hy] at c0 c1' c2 hr hkk
      have HY : Hid (y = x.kids.getD k default) := hy
      have cc : ∀ j, wr.cell? ⟨b, j, none⟩ = w.cell? ⟨b, j, none⟩ := fun j => hbr.cell (p := ⟨b, j, none⟩) hlb
      rw [← cc] at c0 c1' c2 c3 c4
      have hkni : (k : Int) < (nk : Int) := by omega
      have hwt : nb1 + wtS d y.kids ≤ 1048576 := by
        have h1 := HN.out
        have h2 := HLE.out
        have h3 := HW.out
        rw [HL.out] at h2
        rw [← hy, hr.len] at h1
        omega
      clear cc hy
      have hs := hbr.size
      have hrr := hr.kept hbr
      have hkr := hkk.kept hbr
      have HPRE : Hid (_) := hpre
      have HOR : Hid (_) := hor
      have HOB : Hid (_) := hob
      have HH0 : Hid (_ = _) := hh0
      have HH1 : Hid (_ = _) := hh1
      clear hpre hor hr hkk hob hh0 hh1 e0 e1
      go_wp2_with fail
      refine (ih y ab1 nb1 cb1 ak1 nk1 ck1 _ hrr hnil1 (by omega) hkr (by omega)).mono ?_
      rintro e w3 ⟨ab2, cb2, ak2, ck2, M, rfl, m1, m2, ob3, ok3, hb3⟩
      have hs3 := hb3.size
      have hor3 : w3.ownsRow w1.heap.size 34 5 (.slice (some ⟨g, 0, none⟩) k c) k vs := ownsRow_below HOR.out hb3
      have hal : Below w3.heap.size w3 (w3.alloc (.cells #[.int .i64 y.cls, .int .i64 y.tag, .bool y.cons, .slice ab2 nb1 cb2, .slice ak2 nk1 ck2] 34)) := (Below.refl _ _).alloc (Nat.le_refl _) _
      have hor4 : (w3.alloc (.cells #[.int .i64 y.cls, .int .i64 y.tag, .bool y.cons, .slice ab2 nb1 cb2, .slice ak2 nk1 ck2] 34)).ownsRow w1.heap.size 34 5 (.slice (some ⟨g, 0, none⟩) k c) k vs := hor3.alloc _
      have hnews := cells_new w3 #[.int .i64 y.cls, .int .i64 y.tag, .bool y.cons, .slice ab2 nb1 cb2, .slice ak2 nk1 ck2] 34
      have H34 : Hid (Below wr.heap.size wr (w3.alloc (.cells #[.int .i64 y.cls, .int .i64 y.tag, .bool y.cons, .slice ab2 nb1 cb2, .slice ak2 nk1 ck2] 34))) := hb3.trans (hal.mono hs3)
      unfold itv
      go_wp2_with (at_builtin; refine wpList_append_lies _ rfl (.tmp 18) (.tmp 25) 32 rfl w1.heap.size 34 i0 _ 5 72 Try.underlying32 hi hz0 hz1 hz2 rfl (by decide) _ k vs rfl hor4 ⟨w3.heap.size, 0, none⟩ 1 1 [.int .i64 y.cls, .int .i64 y.tag, .bool y.cons, .slice ab2 nb1 cb2, .slice ak2 nk1 ck2] rfl rfl hnews (by intro u hu; simp only [List.mem_cons, List.not_mem_nil, or_false] at hu; rcases hu with rfl | rfl | rfl | rfl | rfl <;> rfl) (by decide) (by unfold maxLen; omega) (by omega) (by simp; omega) (w3.heap.size + 1) (by simp) ?_; intro g5 c5 w5 hown5 hg5 hlies5 hlt5)
      have hg5' : (w3.alloc (.cells #[.int .i64 y.cls, .int .i64 y.tag, .bool y.cons, .slice ab2 nb1 cb2, .slice ak2 nk1 ck2] 34)).grownBy w5 (some g) := hg5
      have hl5 : some g = some g5 ∨ g5 = w3.heap.size + 1 := hlies5
      obtain ⟨W4, hW4⟩ : ∃ W4, W4 = w3.alloc (.cells #[.int .i64 y.cls, .int .i64 y.tag, .bool y.cons, .slice ab2 nb1 cb2, .slice ak2 nk1 ck2] 34) := ⟨_, rfl⟩
      rw [← hW4] at hg5' hor4 hal H34
      clear hW4 hg5 hlies5 hnews hor3
      have hvl : vs.length = k * 5 := hor4.1
      have hg5'' : g5 = g ∨ g5 = w3.heap.size + 1 := hl5.elim (fun h => .inl (Option.some.inj h).symm) .inr
      have t5 : Touch g (g + 1) W4 w5 := ⟨hg5'.os, hg5'.tape, hg5'.output, hg5'.size, fun i hi' ho => hg5'.block i hi' (by simp; omega)⟩
      have hs4 := H34.out.size
      have hs4' := hal.size
      have hs5 := t5.size
      have HP3 : OwnPre (OwnKids d) w1.heap.size wr.heap.size W4 g k x.kids := OwnPre.move (ownKids_moves d) HPRE.out (fun j hj => H34.out.cell (p := ⟨g, j, none⟩) hlt.2) (.inr ⟨rfl, rfl⟩) (Touch.of_below H34.out)
      have HP4 : OwnPre (OwnKids d) w1.heap.size wr.heap.size w5 g5 k x.kids := HP3.regrow (ownKids_moves d) (fun j hj => by rw [hown5.cellAt j (by omega), hor4.cellAt j (by omega), List.getElem?_append_left (by omega)]) (by omega) t5
      have nc : ∀ i, i < 5 → w5.cell? ⟨g5, k * 5 + i, none⟩ = [Value.int .i64 y.cls, .int .i64 y.tag, .bool y.cons, .slice ab2 nb1 cb2, .slice ak2 nk1 ck2][i]? := fun i hi' => by rw [hown5.cellAt _ (by omega), List.getElem?_append_right (by omega), hvl, Nat.add_sub_cancel_left]
      have HP5 := (HP4.more' (s := wr.heap.size) (hi' := w3.heap.size) (M := M) (Nat.le_refl _) (by omega) (by omega) m1 m2 (by rw [← HY.out]; exact nc 0 (by decide)) (by rw [← HY.out]; exact nc 1 (by decide)) (by rw [← HY.out]; exact nc 2 (by decide)) (nc 3 (by decide)) (nc 4 (by decide)) (by rw [← HY.out]; exact (ob3.kept hal).touch (.inr (by omega)) t5) (by rw [← HY.out]; exact ownKids_moves d _ _ _ _ _ _ _ _ _ (ok3.kept hal) (.inr (by omega)) t5)).wide (hi' := w5.heap.size) (by omega)
      have HOB5 := (HOB.out.kept H34.out).touch (p := g) (q := g + 1) (.inl hlt.1) t5
      have h50 : w5.heap[w.heap.size]? = W1.heap[w.heap.size]? := (hg5'.block _ (by omega) (by simp; omega)).trans ((H34.out.block _ (by omega)).trans HH0.out)
      have h51 : w5.heap[w.heap.size + 1]? = W1.heap[w.heap.size + 1]? := (hg5'.block _ (by omega) (by simp; omega)).trans ((H34.out.block _ (by omega)).trans HH1.out)
      have HB5 : Below w.heap.size w w5 := (hbr.trans (H34.out.mono hs)).trans (t5.below (by omega) (by omega))
      have hex5 : ∃ vs, w5.ownsRow w1.heap.size 34 5 (.slice (some ⟨g5, 0, none⟩) (k + 1) c5) (k + 1) vs := ⟨_, hown5⟩
      have HP6 : Hid (_ ∧ _ ∧ _ ∧ _ ∧ _ ∧ _) := ⟨hex5, HP5, HOB5, h50, h51, HB5⟩
      clear hex5 HP3 HP4 HP5 HOB5 h50 h51 HB5 nc hown5 hg5' t5
      go_roundw
      case rel => exact ⟨k + 1, g5, c5, by omega, by go_num, rfl, HP6.out.1, HP6.out.2.1, HP6.out.2.2.1, HP6.out.2.2.2.1, HP6.out.2.2.2.2.1, HP6.out.2.2.2.2.2⟩
      case measure => simp [intOf]; omega
    · obtain rfl : nk = k := by omega
      have cr0 : wr.cell? ⟨w.heap.size, 0, none⟩ = some (.int .i64 x.cls) := (cell_of_row _ w.heap.size 0 _ 34 (0, 0) e0).trans rfl
      have cr1 : wr.cell? ⟨w.heap.size, 1, none⟩ = some (.int .i64 x.tag) := (cell_of_row _ w.heap.size 1 _ 34 (0, 0) e0).trans rfl
      have cr2 : wr.cell? ⟨w.heap.size, 2, none⟩ = some (.bool x.cons) := (cell_of_row _ w.heap.size 2 _ 34 (0, 0) e0).trans rfl
      have cr3 : wr.cell? ⟨w.heap.size, 3, none⟩ = some (.slice a1 nb c1) := (cell_of_row _ w.heap.size 3 _ 34 (0, 0) e0).trans rfl
      have cr4 : wr.cell? ⟨w.heap.size, 4, none⟩ = some (.slice ak nk ck) := (cell_of_row _ w.heap.size 4 _ 34 (0, 0) e0).trans rfl
      have fr4 : wr.frozen? ⟨w.heap.size, 4, none⟩ = false := frozen_of_row wr w.heap.size 4 _ 34 e0
      have cs0 : wr.cell? ⟨w.heap.size + 1, 0, none⟩ = some (.int .i64 0) := (cell_of_row _ (w.heap.size + 1) 0 _ 34 (0, 0) e1).trans rfl
      have cs1 : wr.cell? ⟨w.heap.size + 1, 1, none⟩ = some (.int .i64 0) := (cell_of_row _ (w.heap.size + 1) 1 _ 34 (0, 0) e1).trans rfl
      have cs2 : wr.cell? ⟨w.heap.size + 1, 2, none⟩ = some (.bool false) := (cell_of_row _ (w.heap.size + 1) 2 _ 34 (0, 0) e1).trans rfl
      have cs3 : wr.cell? ⟨w.heap.size + 1, 3, none⟩ = some (.slice none 0 0) := (cell_of_row _ (w.heap.size + 1) 3 _ 34 (0, 0) e1).trans rfl
      have cs4 : wr.cell? ⟨w.heap.size + 1, 4, none⟩ = some (.slice none 0 0) := (cell_of_row _ (w.heap.size + 1) 4 _ 34 (0, 0) e1).trans rfl
      have fs0 : wr.frozen? ⟨w.heap.size + 1, 0, none⟩ = false := frozen_of_row wr (w.heap.size + 1) 0 _ 34 e1
      have fs1 : wr.frozen? ⟨w.heap.size + 1, 1, none⟩ = false := frozen_of_row wr (w.heap.size + 1) 1 _ 34 e1
      have fs2 : wr.frozen? ⟨w.heap.size + 1, 2, none⟩ = false := frozen_of_row wr (w.heap.size + 1) 2 _ 34 e1
      have fs3 : wr.frozen? ⟨w.heap.size + 1, 3, none⟩ = false := frozen_of_row wr (w.heap.size + 1) 3 _ 34 e1
      have fs4 : wr.frozen? ⟨w.heap.size + 1, 4, none⟩ = false := frozen_of_row wr (w.heap.size + 1) 4 _ 34 e1
      have EE1 : Hid (_ = _) := e1
      have OK : Hid (OwnKids (d + 1) w1.heap.size wr.heap.size wr (some ⟨g, 0, none⟩) nk x.kids) := by
        refine ⟨HL.out, by omega, ?_⟩
        rcases Nat.eq_zero_or_pos nk with h0 | h0
        · exact .inl h0
        · exact .inr ⟨g, c, vs, rfl, hlt.1, hlt.2, hor, hpre⟩
      have OB : Hid (_) := hob
      have HBR : Hid (_) := hbr
      clear e0 e1 hor hpre hob hh0 hh1 hbr x4
      go_wp2
      have q0 := heap_setCell_other wr ⟨w.heap.size, 4, none⟩ (w.heap.size + 1) (.slice (some ⟨g, 0, none⟩) nk c) (by simp)
      have q1 := heap_setCell_same _ (w.heap.size + 1) 0 _ 34 (.int .i64 x.cls) (q0.trans EE1.out)
      have q2 := heap_setCell_same _ (w.heap.size + 1) 1 _ 34 (.int .i64 x.tag) q1
      have q3 := heap_setCell_same _ (w.heap.size + 1) 2 _ 34 (.bool x.cons) q2
      have q4 := heap_setCell_same _ (w.heap.size + 1) 3 _ 34 (.slice a1 nb c1) q3
      have q5 := heap_setCell_same _ (w.heap.size + 1) 4 _ 34 (.slice (some ⟨g, 0, none⟩) nk c) q4
      have tt : Touch w.heap.size (w.heap.size + 2) wr ((((((wr.setCell ⟨w.heap.size, 4, none⟩ (.slice (some ⟨g, 0, none⟩) nk c)).setCell ⟨w.heap.size + 1, 0, none⟩ (.int .i64 x.cls)).setCell ⟨w.heap.size + 1, 1, none⟩ (.int .i64 x.tag)).setCell ⟨w.heap.size + 1, 2, none⟩ (.bool x.cons)).setCell ⟨w.heap.size + 1, 3, none⟩ (.slice a1 nb c1)).setCell ⟨w.heap.size + 1, 4, none⟩ (.slice (some ⟨g, 0, none⟩) nk c)) :=
        (((((touch_set _ _ _ _ (by omega) (by omega)).trans (touch_set _ _ _ _ (by omega) (by omega))).trans (touch_set _ _ _ _ (by omega) (by omega))).trans (touch_set _ _ _ _ (by omega) (by omega))).trans (touch_set _ _ _ _ (by omega) (by omega))).trans (touch_set _ _ _ _ (by omega) (by omega))
      have hsz3 : ((((((wr.setCell ⟨w.heap.size, 4, none⟩ (.slice (some ⟨g, 0, none⟩) nk c)).setCell ⟨w.heap.size + 1, 0, none⟩ (.int .i64 x.cls)).setCell ⟨w.heap.size + 1, 1, none⟩ (.int .i64 x.tag)).setCell ⟨w.heap.size + 1, 2, none⟩ (.bool x.cons)).setCell ⟨w.heap.size + 1, 3, none⟩ (.slice a1 nb c1)).setCell ⟨w.heap.size + 1, 4, none⟩ (.slice (some ⟨g, 0, none⟩) nk c)).heap.size = wr.heap.size := by simp
      try simp only [Exit.inBlock, Exit.then]
      refine bodyPost_ret (results_item rfl _ (w.heap.size + 1) rfl _ _ _ _ _ _ q5) rfl ?_
      refine ⟨a1, c1, some ⟨g, 0, none⟩, c, w1.heap.size, rfl, by omega, by rw [hsz3]; omega, (OB.out.touch (.inr (by omega)) tt).mono (by omega) (Nat.le_refl _), ?_, HBR.out.trans (tt.below (by omega) (by omega))⟩
      rw [hsz3]
      exact ownKids_moves (d + 1) _ _ _ _ _ _ _ _ _ OK.out (.inr (by omega)) tt

theorem copyI_all (d : Nat) : CopyI d := by
  induction d with
  | zero => intro x ab nb cb ak nk ck w _ _ _ h; exact h.elim
  | succ d ih => exact copyI_next d ih

end Go.Proofs.Ytckdikgbigkilab
