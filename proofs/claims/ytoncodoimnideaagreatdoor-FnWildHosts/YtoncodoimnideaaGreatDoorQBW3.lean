import Derived.Test.YtoncodoimnideaaGreatDoorMBW
namespace Go.Proofs.YtoncodoimnideaaGreatDoor
open Go.RowKit

def baseC : Array Value := #[.string ⟨#[97, 110, 110, 64]⟩, .string ⟨#[]⟩, .string ⟨#[46]⟩]
theorem baseC_get (v : Nat) (h : v < 3) : ∃ x : ByteArray, baseC[v]? = some (.string x) ∧ 0 ≤ x.size ∧ x.size ≤ 20 := by
  match v, h with
  | 0, _ | 1, _ | 2, _ => exact ⟨_, rfl, by decide, by decide⟩

def bitsC : Array Value := #[.int .i64 0, .int .i64 8, .int .i64 14, .int .i64 16, .int .i64 31, .int .i64 32]
theorem bitsC_get (v : Nat) (h : v < 6) : ∃ x : Int, bitsC[v]? = some (.int .i64 x) ∧ (x = 0 ∨ x = 8 ∨ x = 14 ∨ x = 16 ∨ x = 31 ∨ x = 32) := by
  match v, h with
  | 0, _ | 1, _ | 2, _ | 3, _ | 4, _ | 5, _ => exact ⟨_, rfl, by decide⟩
theorem GnR.weak {w : World} {g : Nat} {a : Option Addr} {n cap : Nat} {bs : List Int} {e : Ending} {w' : World} (h : GnR true w g a n cap bs e w') : GnR false w g a n cap bs e w' := by
  obtain ⟨x, ao, m, c, xs, h1, h2, h3, _, h5⟩ := h
  exact ⟨x, ao, m, c, xs, h1, h2, h3, (fun h => nomatch h), h5⟩

set_option maxRecDepth 10000 in
set_option maxHeartbeats 2000000 in
theorem drawBase_any (g : Nat) (a : Option Addr) (n cap : Nat) (bs : List Int) (w : World) (h : Rd w g a n cap bs) :
    Calls Tryz.prog 25 #[.pointer (some ⟨g, 0, none⟩)] w (GnR false w g a n cap bs) := by
  obtain ⟨w1, hw1⟩ : ∃ w1, w1 = w.alloc (.cells #[.int .i64 0, .string ⟨#[]⟩, .int .i64 0, .int .i64 0, .slice none 0 0] 30) := ⟨_, rfl⟩
  have H1 : Hid (DG w g a n cap bs w1) := by rw [hw1]; exact DG.start h
  have HW : Hid (_ = _) := hw1
  clear h hw1
  go_enter Tryz.func25, Tryz.ntmps25
  go_upto_region 1 with fail
  rw [← HW.out]
  clear HW
  go_wp2_with fail
  refine (below_any g a n cap bs 4 _ H1.out.rd (by decide)).mono ?_
  rintro e w2 ⟨v, rfl, hv0, hv1, hp⟩
  have H2 : Hid (DG w g a n cap bs w2) := H1.out.rdp hp
  clear hp H1
  by_cases h0 : v = 0
  · subst h0
    go_wp2_with fail
    refine (drawHost_any g a n cap bs false _ H2.out.rd).mono ?_
    rintro e w3 ⟨t, rfl, ht0, ht1, hp3⟩
    have H3 : Hid (DG w g a n cap bs w3) := H2.out.rdp hp3
    have HP3 : Hid (RdPost w3 g a n cap bs w3) := ⟨H3.out.rd, Touch.same _ _ _⟩
    have HL3 : Hid (g < w3.heap.size) := Nat.lt_trans H3.out.lt H3.out.size
    clear hp3 H2
    obtain ⟨wt, hwt⟩ : ∃ wt, wt = World.alloc w3 (.cells baseC 9) := ⟨_, rfl⟩
    have hbt : Below (World.heap w3).size w3 wt := by rw [hwt]; exact (Below.refl _ _).alloc (Nat.le_refl _) _
    have xt : wt.heap[(World.heap w3).size]? = some (.cells baseC 9) := by rw [hwt]; exact heap_alloc_new w3 _
    have st : (World.heap w3).size < wt.heap.size := (Array.getElem?_eq_some_iff.1 xt).1
    have HPT : Hid (RdPost w3 g a n cap bs wt) := ⟨HP3.out.1.kept hbt, HP3.out.2.trans (Touch.of_below hbt)⟩
    have HWT : Hid (_ = _) := hwt
    clear hwt
    go_wp2_with fail
    have et : World.alloc w3 (.cells #[.string ⟨#[97, 110, 110, 64]⟩, .string ⟨#[]⟩, .string ⟨#[46]⟩] 9) = wt := HWT.out.symm
    rw [et]
    clear HWT et
    refine (below_any g a n cap bs 3 _ HPT.out.1 (by decide)).mono ?_
    rintro e w6 ⟨y, rfl, hy0, hy1, hp6⟩
    obtain ⟨u, rfl⟩ := Int.eq_ofNat_of_zero_le hy0
    have hu : u < 3 := by omega
    have hui : (u : Int) < 3 := by omega
    obtain ⟨x, hx, hx0, hx1⟩ := baseC_get u hu
    have hgl : g < (World.heap w3).size := HL3.out
    have js : w6.cell? ⟨(World.heap w3).size, u, none⟩ = some (.string x) := (cell_of_row _ _ u _ 9 (0, 0) ((hp6.2.block _ st (.inr (by omega))).trans xt)).trans hx
    have hs6 := hp6.2.size
    have hl6 : (World.heap w3).size < w6.heap.size := by omega
    have HP6 : Hid (RdPost w3 g a n cap bs w6) := RdPost.step HPT.out hp6
    clear hp6 hy1 hy0 xt hbt HPT hx
    have H6 : Hid (DG w g a n cap bs w6) := H3.out.rdp HP6.out
    have hs2 : ¬ 9223372036854775807 < x.size + t.size := by omega
    go_wp2_with (refine wpList_store_rowTo rfl 30 _ _ rfl rfl (w.heap.size) #[.int .i64 2, .string (x ++ t), .int .i64 0, .int .i64 0, .slice none 0 0] rfl rfl 30 #[.int .i64 0, .string ⟨#[]⟩, .int .i64 0, .int .i64 0, .slice none 0 0] H6.out.box infoSizeGn rfl (by simp [Value.oneCell']) ?_)
    obtain ⟨hb, hO, hP⟩ := H6.out.fin ⟨2, x ++ t, 0, 0⟩ none 0 0 [] (ownPt_none (w.heap.size + 1) _) (Nat.lt_succ_self _)
    unfold gcl at hb hO hP
    try simp only [Exit.inBlock, Exit.then]
    exact bodyPost_ret (results_gn rfl _ w.heap.size rfl _ _ _ _ _ _ hb) rfl ⟨⟨2, x ++ t, 0, 0⟩, none, 0, 0, [], rfl, by rw [app_size]; show x.size + t.size ≤ 60; omega, by omega, (fun h => nomatch h), hO, hP⟩
  have e0 : (v == 0) = false := beq_false_of_ne h0
  by_cases h1 : v = 1
  · subst h1
    obtain ⟨wt, hwt⟩ : ∃ wt, wt = w2.alloc (.cells bitsC 2) := ⟨_, rfl⟩
    have hbt : Below w2.heap.size w2 wt := by rw [hwt]; exact (Below.refl _ _).alloc (Nat.le_refl _) _
    have xt : wt.heap[w2.heap.size]? = some (.cells bitsC 2) := by rw [hwt]; exact heap_alloc_new w2 _
    have st : w2.heap.size < wt.heap.size := (Array.getElem?_eq_some_iff.1 xt).1
    have HT : Hid (DG w g a n cap bs wt) := H2.out.below hbt
    have HWT : Hid (_ = _) := hwt
    clear hwt
    go_wp2_with fail
    have et : w2.alloc (.cells #[.int .i64 0, .int .i64 8, .int .i64 14, .int .i64 16, .int .i64 31, .int .i64 32] 2) = wt := HWT.out.symm
    rw [et]
    clear HWT et
    refine (below_any g a n cap bs 6 _ HT.out.rd (by decide)).mono ?_
    rintro e w3 ⟨y, rfl, hy0, hy1, hp3⟩
    obtain ⟨u, rfl⟩ := Int.eq_ofNat_of_zero_le hy0
    have hu : u < 6 := by omega
    have hui : (u : Int) < 6 := by omega
    obtain ⟨x, hx, hxx⟩ := bitsC_get u hu
    have hgl := H2.out.lt
    have hgs := H2.out.size
    have js : w3.cell? ⟨w2.heap.size, u, none⟩ = some (.int .i64 x) := (cell_of_row _ _ u _ 2 (0, 0) ((hp3.2.block _ st (.inr (by omega))).trans xt)).trans hx
    have hs3 := hp3.2.size
    have hl3 : w2.heap.size < w3.heap.size := by omega
    have H3 : Hid (DG w g a n cap bs w3) := HT.out.rdp hp3
    clear hp3 hy1 hy0 xt hbt HT hx H2 hgl hgs
    go_wp2_with fail
    refine (below_any g a n cap bs 4 _ H3.out.rd (by decide)).mono ?_
    rintro e w4 ⟨y2, rfl, hy0, hy1, hp4⟩
    have H4 : Hid (DG w g a n cap bs w4) := H3.out.rdp hp4
    have hy2 : y2 ≤ 3 := by omega
    clear hp4 H3 hy1 js
    go_wp2_with fail
    refine (below_any g a n cap bs 3 _ H4.out.rd (by decide)).mono ?_
    rintro e w5 ⟨z, rfl, hz0, hz1, hp5⟩
    have H5 : Hid (DG w g a n cap bs w5) := H4.out.rdp hp5
    have hz2 : z ≤ 2 := by omega
    clear hp5 H4 hz1
    rcases hxx with rfl | rfl | rfl | rfl | rfl | rfl
    all_goals
      go_wp2_with (refine wpList_store_rowTo rfl 30 _ _ rfl rfl (w.heap.size) _ rfl rfl 30 #[.int .i64 0, .string ⟨#[]⟩, .int .i64 0, .int .i64 0, .slice none 0 0] H5.out.box infoSizeGn rfl (by simp [Value.oneCell']) ?_)
      try simp only [Exit.inBlock, Exit.then]
      exact bodyPost_ret (results_gn rfl _ w.heap.size rfl _ _ _ _ _ _ (setRow_heap _ _ _ _ _ _ H5.out.box)) rfl ⟨⟨3, ⟨#[]⟩, _, _⟩, none, 0, 0, [], rfl, (show (0 : Nat) ≤ 60 by omega), by omega, (fun h => nomatch h), ownPt_none _ _, H5.out.post.grown (lo := w.heap.size) (hi := w.heap.size + 1) (setRow_touchG w5 w.heap.size _) H5.out.lt (Nat.le_refl _)⟩
  have e1 : (v == 1) = false := beq_false_of_ne h1
  by_cases h2 : v = 2
  · subst h2
    go_wp2_with fail
    refine (drawName1_any g a n cap bs _ H2.out.rd).mono ?_
    rintro e w3 ⟨m, c, ao, xs, rfl, hm0, hm1, ho, hx8, hp3⟩
    unfold nmv
    have H3 : Hid (DG w g a n cap bs w3) := H2.out.rdp hp3
    have HL : Hid (w.heap.size < w2.heap.size) := H2.out.size
    obtain ⟨gb, rfl, hgb0, hgb1⟩ := ho.there (by omega)
    have hcap := ho.cap
    have HO : Hid (OwnPt w2.heap.size w3 (some ⟨gb, 0, none⟩) m c xs) := ho
    clear hp3 H2 ho
    obtain ⟨w4, hw4⟩ : ∃ w4, w4 = w3.alloc (.cells #[.slice (some ⟨gb, 0, none⟩) m c] 28) := ⟨_, rfl⟩
    have hb4 : Below w3.heap.size w3 w4 := by rw [hw4]; exact (Below.refl _ _).alloc (Nat.le_refl _) _
    have x4 : w4.heap[w3.heap.size]? = some (.cells #[.slice (some ⟨gb, 0, none⟩) m c] 28) := by rw [hw4]; exact heap_alloc_new w3 _
    have s4 : w3.heap.size < w4.heap.size := (Array.getElem?_eq_some_iff.1 x4).1
    have H4 : Hid (DG w g a n cap bs w4) := H3.out.below hb4
    have HO4 : Hid (OwnPt w2.heap.size w4 (some ⟨gb, 0, none⟩) m c xs) := HO.out.keep fun q hq _ hl => hb4.block _ hl
    have HX4 : Hid (_ = _) := x4
    have HW4 : Hid (_ = _) := hw4
    have HGB : Hid (gb < w3.heap.size) := hgb1
    clear hw4 hb4 x4
    go_upto_region 11 with fail
    rw [← HW4.out]
    clear HW4
    go_wp2_with fail
    refine (once_any g a n cap bs 2 _ H4.out.rd (by decide) (by decide)).mono ?_
    rintro e w5 ⟨b5, rfl, hp5⟩
    have hgl := H4.out.lt
    have hgs := H4.out.size
    have hsz3 := H3.out.size
    have H5 : Hid (DG w g a n cap bs w5) := H4.out.rdp hp5
    have HO5 : Hid (OwnPt w2.heap.size w5 (some ⟨gb, 0, none⟩) m c xs) := HO4.out.keep fun q hq h1 hl => hp5.2.block _ hl (.inr (by have := HL.out; omega))
    have HX5 : Hid (w5.heap[w3.heap.size]? = some (.cells #[.slice (some ⟨gb, 0, none⟩) m c] 28 (0, 0))) := (hp5.2.block _ s4 (.inr (by omega))).trans HX4.out
    have k0 : w5.cell? ⟨w3.heap.size, 0, none⟩ = some (.slice (some ⟨gb, 0, none⟩) m c) := (cell_of_row _ _ 0 _ 28 (0, 0) HX5.out).trans rfl
    have f0 : w5.frozen? ⟨w3.heap.size, 0, none⟩ = false := frozen_of_row w5 _ 0 _ 28 HX5.out
    have s5 : w3.heap.size < w5.heap.size := Nat.lt_of_lt_of_le s4 hp5.2.size
    clear hp5 H4 HO4 HX4 s4
    cases b5 with
    | false =>
      go_wp2_with (refine wpList_store_rowTo rfl 30 _ _ rfl rfl (w.heap.size) #[.int .i64 4, .string ⟨#[]⟩, .int .i64 0, .int .i64 0, .slice (some ⟨gb, 0, none⟩) m c] rfl rfl 30 #[.int .i64 0, .string ⟨#[]⟩, .int .i64 0, .int .i64 0, .slice none 0 0] H5.out.box infoSizeGn rfl (by simp [Value.oneCell']) ?_)
      obtain ⟨hb, hO, hP⟩ := H5.out.fin ⟨4, ⟨#[]⟩, 0, 0⟩ (some ⟨gb, 0, none⟩) m c xs HO5.out HL.out
      unfold gcl at hb hO hP
      try simp only [Exit.inBlock, Exit.then]
      exact bodyPost_ret (results_gn rfl _ w.heap.size rfl _ _ _ _ _ _ hb) rfl ⟨⟨4, ⟨#[]⟩, 0, 0⟩, (some ⟨gb, 0, none⟩), m, c, xs, rfl, (show (0 : Nat) ≤ 60 by omega), hm1, (fun h => nomatch h), hO, hP⟩
    | true =>
      obtain ⟨k, hk⟩ : ∃ k : Nat, m = k + 1 := ⟨m - 1, by omega⟩
      subst hk
      have hk1 : ((k + 1 : Nat) : Int) - 1 = (k : Int) := by omega
      have hk2 : (k : Int) ≤ (c : Int) := by omega
      have HC : Hid (DG w g a n cap bs (w5.setCell ⟨w3.heap.size, 0, none⟩ (.slice (some ⟨gb, 0, none⟩) k c))) := by
        have ht := Touch.setCell (p := ⟨w3.heap.size, 0, none⟩) (Touch.same w3.heap.size (w3.heap.size + 1) w5) (Nat.le_refl _) (Nat.lt_succ_self _) (.slice (some ⟨gb, 0, none⟩) k c)
        have hsz := H3.out.size
        have hp := H5.out.post.grown ht (by have := H5.out.lt; omega) (by omega)
        exact ⟨hp.1, hp.2, H5.out.lt, Nat.lt_of_lt_of_le H5.out.size ht.size, (ht.block _ H5.out.size (.inl hsz)).trans H5.out.box⟩
      have HOC : Hid (OwnPt w2.heap.size (w5.setCell ⟨w3.heap.size, 0, none⟩ (.slice (some ⟨gb, 0, none⟩) k c)) (some ⟨gb, 0, none⟩) k c (xs.take k)) := (HO5.out.cut k (by omega)).keep fun q hq _ hl => by
        cases hq
        exact Below.heap_setCell _ _ _ _ (by have := HGB.out; show gb ≠ w3.heap.size; omega)
      have kC : (w5.setCell ⟨w3.heap.size, 0, none⟩ (.slice (some ⟨gb, 0, none⟩) k c)).cell? ⟨w3.heap.size, 0, none⟩ = some (.slice (some ⟨gb, 0, none⟩) k c) := (cell_of_row _ _ 0 _ 28 (0, 0) (heap_setCell_same w5 w3.heap.size 0 _ 28 (.slice (some ⟨gb, 0, none⟩) k c) HX5.out)).trans rfl
      go_wp2_with (refine wpList_store_rowTo rfl 30 _ _ rfl rfl (w.heap.size) #[.int .i64 4, .string ⟨#[]⟩, .int .i64 0, .int .i64 0, .slice (some ⟨gb, 0, none⟩) k c] rfl rfl 30 #[.int .i64 0, .string ⟨#[]⟩, .int .i64 0, .int .i64 0, .slice none 0 0] HC.out.box infoSizeGn rfl (by simp [Value.oneCell']) ?_)
      obtain ⟨hb, hO, hP⟩ := HC.out.fin ⟨4, ⟨#[]⟩, 0, 0⟩ (some ⟨gb, 0, none⟩) k c (xs.take k) HOC.out HL.out
      unfold gcl at hb hO hP
      try simp only [Exit.inBlock, Exit.then]
      exact bodyPost_ret (results_gn rfl _ w.heap.size rfl _ _ _ _ _ _ hb) rfl ⟨⟨4, ⟨#[]⟩, 0, 0⟩, (some ⟨gb, 0, none⟩), k, c, (xs.take k), rfl, (show (0 : Nat) ≤ 60 by omega), by omega, (fun h => nomatch h), hO, hP⟩
  · have e2 : (v == 2) = false := beq_false_of_ne h2
    go_wp2_with fail
    refine (drawHost_any g a n cap bs false _ H2.out.rd).mono ?_
    rintro e w3 ⟨t, rfl, ht0, ht1, hp3⟩
    have H3 : Hid (DG w g a n cap bs w3) := H2.out.rdp hp3
    clear hp3 H2
    go_wp2_with (refine wpList_store_rowTo rfl 30 _ _ rfl rfl (w.heap.size) #[.int .i64 1, .string t, .int .i64 0, .int .i64 0, .slice none 0 0] rfl rfl 30 #[.int .i64 0, .string ⟨#[]⟩, .int .i64 0, .int .i64 0, .slice none 0 0] H3.out.box infoSizeGn rfl (by simp [Value.oneCell']) ?_)
    obtain ⟨hb, hO, hP⟩ := H3.out.fin ⟨1, t, 0, 0⟩ none 0 0 [] (ownPt_none (w.heap.size + 1) _) (Nat.lt_succ_self _)
    unfold gcl at hb hO hP
    try simp only [Exit.inBlock, Exit.then]
    exact bodyPost_ret (results_gn rfl _ w.heap.size rfl _ _ _ _ _ _ hb) rfl ⟨⟨1, t, 0, 0⟩, none, 0, 0, [], rfl, by show t.size ≤ 60; omega, by omega, (fun h => nomatch h), hO, hP⟩

end Go.Proofs.YtoncodoimnideaaGreatDoor

