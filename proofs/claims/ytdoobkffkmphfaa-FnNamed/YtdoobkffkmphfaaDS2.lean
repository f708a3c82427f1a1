import Derived.Test.YtdoobkffkmphfaaDS1
namespace Go.Proofs.Ytdoobkffkmphfaa
open Go.RowKit

set_option maxRecDepth 10000 in
set_option maxHeartbeats 8000000 in
theorem drawSameName_any (a : Option Addr) (n cap : Nat) (bs : List Int) (w : World) (h : Row w a n bs) (hn : n ≤ 1000000000) :
    Calls Try.prog 5 #[.slice a n cap] w (DsR w) := by
  obtain ⟨i0, hi, hz0, hz1, hz2⟩ := info_parts Try.infoPart
  obtain ⟨wb, hwb⟩ : ∃ wb, wb = (w.alloc (.cells #[.slice none 0 0] 26)).alloc (.cells #[.slice none 0 0] 26) := ⟨_, rfl⟩
  have hss : wb.heap.size = w.heap.size + 2 := by rw [hwb]; simp
  have x1 : wb.heap[w.heap.size + 1]? = some (.cells #[.slice none 0 0] 26) := by rw [hwb]; have := heap_alloc_new (w.alloc (.cells #[.slice none 0 0] 26)) (.cells #[.slice none 0 0] 26 (0, 0)); simpa using this
  have x0 : wb.heap[w.heap.size]? = some (.cells #[.slice none 0 0] 26) := by rw [hwb]; exact (((Below.refl _ _).alloc (Nat.le_refl _) _).block w.heap.size (by simp)).trans (heap_alloc_new w _)
  have hbb : Below w.heap.size w wb := by rw [hwb]; exact ((Below.refl _ _).alloc (Nat.le_refl _) _).alloc (by simp) _
  have HR : Hid (Row wb a n bs) := h.kept hbb
  have HX0 : Hid (_ = _) := x0
  have HX1 : Hid (_ = _) := x1
  have HBB : Hid (Below w.heap.size w wb) := hbb
  have HWB : Hid (_ = _) := hwb
  have HSS : Hid (_ = _) := hss
  clear hwb x0 x1 hbb h hss
  go_enter Try.func5, Try.ntmps5
  go_upto_region 1 with fail
  rw [← HWB.out]
  clear HWB
  go_wp2_with fail
  refine (open_any a n cap bs _ HR.out hn).mono ?_
  rintro e w1 ⟨rfl, hrd1, hb1⟩
  have hss := HSS.out
  rw [hss] at hrd1 hb1 ⊢
  have s1 : w.heap.size + 3 ≤ w1.heap.size := hrd1.lt
  have HRD1 : Hid (_) := hrd1
  have HB1 : Hid (Below w.heap.size w w1) := HBB.out.trans (hb1.mono (by omega))
  have HY0 : Hid (w1.heap[w.heap.size]? = some (.cells #[.slice none 0 0] 26)) := (hb1.block _ (by omega)).trans HX0.out
  have HY1 : Hid (w1.heap[w.heap.size + 1]? = some (.cells #[.slice none 0 0] 26)) := (hb1.block _ (by omega)).trans HX1.out
  clear hrd1 hb1 hss HX0 HX1 HBB HR HSS
  go_wp2_with fail
  refine (drawName_any (w.heap.size + 2) a n cap bs _ HRD1.out).mono ?_
  rintro e w2 ⟨m, c, ao, xs, rfl, hm3, hoA, h8, hp2⟩
  unfold nmv
  obtain ⟨P, hP⟩ : ∃ P, P = w2.heap.size := ⟨_, rfl⟩
  obtain ⟨w3, hw3⟩ : ∃ w3, w3 = (w2.alloc (.cells #[.slice ao m c] 26)).alloc (.cells #[.slice none 0 0] 26) := ⟨_, rfl⟩
  have HS3 : Hid (SN w P a n cap bs w3 ao m c xs none 0 0 []) := by
    have sp2 := hp2.2.size
    have e3 : Below w2.heap.size w2 w3 := by rw [hw3]; exact ((Below.refl _ _).alloc (Nat.le_refl _) _).alloc (by simp) _
    have f2 : ∀ l, l < w1.heap.size → l ≠ w.heap.size + 2 → w3.heap[l]? = w1.heap[l]? := fun l hl hg => (e3.block l (by omega)).trans (hp2.2.block l hl (by omega))
    refine ⟨hp2.1.kept e3, (f2 _ (by omega) (by omega)).trans HY0.out, (f2 _ (by omega) (by omega)).trans HY1.out, ?_, ?_, (hoA.lower s1).keep fun q _ _ hl => e3.block _ hl, fun q hq => by rw [hP]; exact (hoA.blk q hq).2.1, h8, ownPt_none _ _, by omega, by rw [hw3, hP]; simp, ?_⟩
    · rw [hw3, hP]; exact (((Below.refl _ _).alloc (Nat.le_refl _) _).block w2.heap.size (by simp)).trans (heap_alloc_new w2 _)
    · rw [hw3, hP]; have := heap_alloc_new (w2.alloc (.cells #[.slice ao m c] 26)) (.cells #[.slice none 0 0] 26 (0, 0)); simpa using this
    · exact ⟨e3.os.trans (hp2.2.os.trans HB1.out.os), e3.tape.trans (hp2.2.tape.trans HB1.out.tape), e3.output.trans (hp2.2.output.trans HB1.out.output), Nat.le_trans HB1.out.size (Nat.le_trans sp2 e3.size), fun l hl => (f2 l (by omega) (by omega)).trans (HB1.out.block l hl)⟩
  have HW3 : Hid (_ = _) := hw3
  have HPP : Hid (P = w2.heap.size) := hP
  clear hw3 hP hp2 hoA h8 HY0 HY1 HB1 HRD1
  go_upto_region 4 with fail
  rw [← HW3.out, ← HPP.out]
  clear HW3 HPP
  go_wp2_with fail
  refine (once_any (w.heap.size + 2) a n cap bs 2 _ HS3.out.rd (by decide) (by decide)).mono ?_
  rintro e w4 ⟨v, rfl, hp4⟩
  have HS4 : Hid (SN w P a n cap bs w4 ao m c xs none 0 0 []) := HS3.out.rdp hp4
  clear HS3 hp4
  have hz4 := HS4.out.size
  obtain ⟨k0, k1, k2, k3, k4⟩ := HS4.out.cells
  rcases v with _ | _
  · go_wp2
    go_loopw [7] (fun i wr => ∃ (k c2 : Nat) (a2 : Option Addr) (ys : List PT), k ≤ m ∧ i = .int .i64 k ∧ Hid (SN w P a n cap bs wr ao m c xs a2 k c2 ys)) (fun i _ => m - (intOf i).toNat)
    case atStart => exact ⟨0, 0, none, [], Nat.zero_le _, rfl, HS4⟩
    case round =>
      obtain ⟨k, c2, a2, ys, hk, rfl, HS⟩ := hrel
      clear HS4 k0 k1 k2 k3 k4
      obtain ⟨k0, k1, k2, k3, k4⟩ := HS.out.cells
      by_cases hlt : k < m
      · obtain ⟨gb, rfl, hgb0, hgb1⟩ := HS.out.o1.there (by omega)
        obtain ⟨x, p0, p1, p8, p9⟩ := HS.out.part k hlt
        have hlti : (k : Int) < (m : Int) := by omega
        obtain ⟨pb, hpb0⟩ : ∃ pb, pb = wr.heap.size := ⟨_, rfl⟩
        obtain ⟨w5, hw5⟩ : ∃ w5, w5 = wr.alloc (.cells #[.int .i64 x.attr, .string x.val] 39) := ⟨_, rfl⟩
        have HS5 : Hid (SN w P a n cap bs w5 (some ⟨gb, 0, none⟩) m c xs a2 k c2 ys) := by rw [hw5]; exact HS.out.on ((Below.refl _ _).alloc (Nat.le_refl _) _)
        have HP5 : Hid (w5.heap[pb]? = some (.cells #[.int .i64 x.attr, .string x.val] 39 (0, 0))) := by rw [hw5, hpb0]; exact heap_alloc_new wr _
        have hpbg : pb ≠ w.heap.size + 2 ∧ P + 2 ≤ pb := by have := HS.out.hP; have := HS.out.size; omega
        have HNE : Hid (∀ q, a2 = some q → q.block ≠ pb) := fun q hq => by have := (HS.out.o2.blk q hq).2.1; omega
        have HW5 : Hid (_ = _) := hw5
        have HPB : Hid (pb = wr.heap.size) := hpb0
        clear hw5 hpb0
        go_upto_region 10 with fail
        rw [← HW5.out, ← HPB.out]
        clear HW5 HPB
        go_wp2_with fail
        refine (once_any (w.heap.size + 2) a n cap bs 2 _ HS5.out.rd (by decide) (by decide)).mono ?_
        rintro e w6 ⟨v, rfl, hp6⟩
        have HS6 : Hid (SN w P a n cap bs w6 (some ⟨gb, 0, none⟩) m c xs a2 k c2 ys) := HS5.out.rdp hp6
        have HP6 : Hid (w6.heap[pb]? = some (.cells #[.int .i64 x.attr, .string x.val] 39 (0, 0))) := (hp6.2.block _ (Array.getElem?_eq_some_iff.1 HP5.out).1 (by omega)).trans HP5.out
        clear HS5 HP5 hp6 HS k0 k1 k2 k3 k4 p0 p1 p9 hgb0 hgb1
        have hz6 := HS6.out.size
        rcases v with _ | _
        · have hpc0 : w6.cell? ⟨pb, 0, none⟩ = some (.int .i64 x.attr) := (cell_of_row _ _ 0 _ 39 (0, 0) HP6.out).trans rfl
          have hpc1 : w6.cell? ⟨pb, 1, none⟩ = some (.string x.val) := (cell_of_row _ _ 1 _ 39 (0, 0) HP6.out).trans rfl
          have hpb : pb < w6.heap.size := (Array.getElem?_eq_some_iff.1 HP6.out).1
          obtain ⟨j0, j1, j2, j3, j4⟩ := HS6.out.cells
          obtain ⟨n0, n1, n2, n3, n4⟩ := (HS6.out.on ((Below.refl _ _).alloc (Nat.le_refl _) (.cells #[.int .i64 x.attr, .string x.val] 39))).cells
          have HCL : Hid (∀ jj uu, ([.int .i64 x.attr, .string x.val] : List Value)[jj]? = some uu → (w6.alloc (.cells #[.int .i64 x.attr, .string x.val] 39)).cell? ((⟨w6.heap.size, 0, none⟩ : Addr).add jj) = some uu) := (by intro jj uu hju; rw [Addr.add_lit, Nat.zero_add, cell_of_row _ w6.heap.size jj _ 39 _ (heap_alloc_new w6 _), ← hju]; simp)
          have HH1 : Hid (∀ u ∈ ([.int .i64 x.attr, .string x.val] : List Value), u.oneCell' = true) := (by intro u hu; simp at hu; rcases hu with rfl | rfl; exact rfl; exact rfl)
          have HOR : Hid ((w6.alloc (.cells #[.int .i64 x.attr, .string x.val] 39)).ownsRow (P + 2) 39 2 (.slice a2 k c2) k (ptc ys)) := HS6.out.o2.row.alloc _
          have hbP : P + 2 ≤ (w6.alloc (.cells #[.int .i64 x.attr, .string x.val] 39)).heap.size := by simp; omega
          go_wp2_with (at_builtin; refine wpList_append_own _ rfl _ _ 24 rfl (P + 2) 39 i0 _ 2 24 Try.underlying24 hi hz0 hz1 hz2 rfl (by decide) (.slice a2 k c2) k _ rfl HOR.out ⟨w6.heap.size, 0, none⟩ 1 1 [.int .i64 x.attr, .string x.val] rfl rfl HCL.out HH1.out (by unfold maxLen; omega) (by omega) hbP ?_; intro v8 w8 hown8 hgrow8 _; obtain ⟨a8, c8, rfl⟩ := owns_shapeN hown8; have hb8 : Below (P + 2) w6 w8 := ((Below.refl (P + 2) w6).alloc (by omega) _).grown hgrow8 hbP (fun l hl => (HOR.out.lt l hl).1); have hn8 : w8.heap[P + 1]? = some (.cells #[.slice a2 k c2] 26 (0, 0)) := (hb8.block _ (by omega)).trans HS6.out.b6; have g0 : w8.cell? ⟨P + 1, 0, none⟩ = some (.slice a2 k c2) := (cell_of_row _ _ 0 _ 26 (0, 0) hn8).trans rfl; have g1 : w8.frozen? ⟨P + 1, 0, none⟩ = false := frozen_of_row w8 _ 0 _ 26 hn8; have g2 : P + 1 < w8.heap.size := (Array.getElem?_eq_some_iff.1 hn8).1; have HO8 : Hid (_) := hown8; have HB8 : Hid (Below (P + 2) w6 w8) := hb8; clear hn8 hown8 hgrow8 hb8)
          have HN : Hid (SN w P a n cap bs (w8.setCell ⟨P + 1, 0, none⟩ (.slice a8 (k + 1) c8)) (some ⟨gb, 0, none⟩) m c xs a8 (k + 1) c8 (ys ++ [⟨x.attr, x.val⟩])) := HS6.out.put HB8.out ⟨by rw [ptc_snoc]; exact HO8.out, by simp [HS6.out.o2.len], fun y hy => by
            rcases List.mem_append.1 hy with h1 | h1
            · exact HS6.out.o2.small y h1
            · simp at h1; subst h1; exact (Nat.le_trans p8 (by decide))⟩
          go_wp2
          go_roundw
          case rel => exact ⟨k + 1, c8, a8, _, by omega, by go_num, HN⟩
          case measure => simp [intOf]; omega
        · have hpv : w6.cell? ⟨pb, 1, none⟩ = some (.string x.val) := (cell_of_row _ _ 1 _ 39 (0, 0) HP6.out).trans rfl
          have hpw : pb < w6.heap.size := (Array.getElem?_eq_some_iff.1 HP6.out).1
          go_wp2_with fail
          refine (specFold_any x.val _ (by omega)).mono ?_
          rintro e w7 ⟨rfl, hb7⟩
          obtain ⟨F, hF⟩ : ∃ F, F = strOfNums (foldL x.val) := ⟨_, rfl⟩
          have hFs : F.size ≤ 16 := by rw [hF, strOfNums_size]; have := fo_len x.val x.val.size; unfold foldL; omega
          rw [← hF]
          clear hF
          have HS7 : Hid (SN w P a n cap bs w7 (some ⟨gb, 0, none⟩) m c xs a2 k c2 ys) := HS6.out.on hb7
          have HP7 : Hid (w7.heap[pb]? = some (.cells #[.int .i64 x.attr, .string x.val] 39 (0, 0))) := (hb7.block _ hpw).trans HP6.out
          clear hb7 HS6 HP6 hpv hpw hz6
          have hpv : w7.cell? ⟨pb, 1, none⟩ = some (.string x.val) := (cell_of_row _ _ 1 _ 39 (0, 0) HP7.out).trans rfl
          have hpf : w7.frozen? ⟨pb, 1, none⟩ = false := frozen_of_row w7 _ 1 _ 39 HP7.out
          have hpw : pb < w7.heap.size := (Array.getElem?_eq_some_iff.1 HP7.out).1
          have hso : ¬ (9223372036854775807 < 1 + F.size) := by omega
          have hsp : (⟨#[32]⟩ ++ F : ByteArray).size = 1 + F.size := by rw [ByteArray.size_append]; rfl
          have hso2 : ¬ (9223372036854775807 < (⟨#[32]⟩ ++ F : ByteArray).size + 1) := by rw [hsp]; omega
          go_upto_region 12 with fail
          obtain ⟨T, hT⟩ : ∃ T, T = (⟨#[32]⟩ ++ F ++ ⟨#[32]⟩ : ByteArray) := ⟨_, rfl⟩
          obtain ⟨w9, hw9⟩ : ∃ w9, w9 = w7.setCell ⟨pb, 1, none⟩ (.string (⟨#[32]⟩ ++ F ++ ⟨#[32]⟩ : ByteArray)) := ⟨_, rfl⟩
          have hTs : T.size ≤ 1000 := by rw [hT, ByteArray.size_append, hsp]; show 1 + F.size + 1 ≤ 1000; omega
          have HS9 : Hid (SN w P a n cap bs w9 (some ⟨gb, 0, none⟩) m c xs a2 k c2 ys) := by rw [hw9]; exact HS7.out.setp pb 1 _ hpbg.2 HNE.out
          have HP9 : Hid (w9.heap[pb]? = some (.cells #[.int .i64 x.attr, .string T] 39 (0, 0))) := by rw [hw9, hT]; exact (heap_setCell_same w7 pb 1 _ 39 _ HP7.out).trans rfl
          rw [← hw9, ← hT]
          clear hw9 hT hso hso2 hsp hpv hpf hpw HS7 HP7
          have hz9 := HS9.out.size
          have hpc0 : w9.cell? ⟨pb, 0, none⟩ = some (.int .i64 x.attr) := (cell_of_row _ _ 0 _ 39 (0, 0) HP9.out).trans rfl
          have hpc1 : w9.cell? ⟨pb, 1, none⟩ = some (.string T) := (cell_of_row _ _ 1 _ 39 (0, 0) HP9.out).trans rfl
          have hpb : pb < w9.heap.size := (Array.getElem?_eq_some_iff.1 HP9.out).1
          obtain ⟨j0, j1, j2, j3, j4⟩ := HS9.out.cells
          obtain ⟨n0, n1, n2, n3, n4⟩ := (HS9.out.on ((Below.refl _ _).alloc (Nat.le_refl _) (.cells #[.int .i64 x.attr, .string T] 39))).cells
          have HCL : Hid (∀ jj uu, ([.int .i64 x.attr, .string T] : List Value)[jj]? = some uu → (w9.alloc (.cells #[.int .i64 x.attr, .string T] 39)).cell? ((⟨w9.heap.size, 0, none⟩ : Addr).add jj) = some uu) := (by intro jj uu hju; rw [Addr.add_lit, Nat.zero_add, cell_of_row _ w9.heap.size jj _ 39 _ (heap_alloc_new w9 _), ← hju]; simp)
          have HH1 : Hid (∀ u ∈ ([.int .i64 x.attr, .string T] : List Value), u.oneCell' = true) := (by intro u hu; simp at hu; rcases hu with rfl | rfl; exact rfl; exact rfl)
          have HOR : Hid ((w9.alloc (.cells #[.int .i64 x.attr, .string T] 39)).ownsRow (P + 2) 39 2 (.slice a2 k c2) k (ptc ys)) := HS9.out.o2.row.alloc _
          have hbP : P + 2 ≤ (w9.alloc (.cells #[.int .i64 x.attr, .string T] 39)).heap.size := by simp; omega
          go_wp2_with (at_builtin; refine wpList_append_own _ rfl _ _ 24 rfl (P + 2) 39 i0 _ 2 24 Try.underlying24 hi hz0 hz1 hz2 rfl (by decide) (.slice a2 k c2) k _ rfl HOR.out ⟨w9.heap.size, 0, none⟩ 1 1 [.int .i64 x.attr, .string T] rfl rfl HCL.out HH1.out (by unfold maxLen; omega) (by omega) hbP ?_; intro v8 w8 hown8 hgrow8 _; obtain ⟨a8, c8, rfl⟩ := owns_shapeN hown8; have hb8 : Below (P + 2) w9 w8 := ((Below.refl (P + 2) w9).alloc (by omega) _).grown hgrow8 hbP (fun l hl => (HOR.out.lt l hl).1); have hn8 : w8.heap[P + 1]? = some (.cells #[.slice a2 k c2] 26 (0, 0)) := (hb8.block _ (by omega)).trans HS9.out.b6; have g0 : w8.cell? ⟨P + 1, 0, none⟩ = some (.slice a2 k c2) := (cell_of_row _ _ 0 _ 26 (0, 0) hn8).trans rfl; have g1 : w8.frozen? ⟨P + 1, 0, none⟩ = false := frozen_of_row w8 _ 0 _ 26 hn8; have g2 : P + 1 < w8.heap.size := (Array.getElem?_eq_some_iff.1 hn8).1; have HO8 : Hid (_) := hown8; have HB8 : Hid (Below (P + 2) w9 w8) := hb8; clear hn8 hown8 hgrow8 hb8)
          have HN : Hid (SN w P a n cap bs (w8.setCell ⟨P + 1, 0, none⟩ (.slice a8 (k + 1) c8)) (some ⟨gb, 0, none⟩) m c xs a8 (k + 1) c8 (ys ++ [⟨x.attr, T⟩])) := HS9.out.put HB8.out ⟨by rw [ptc_snoc]; exact HO8.out, by simp [HS9.out.o2.len], fun y hy => by
            rcases List.mem_append.1 hy with h1 | h1
            · exact HS9.out.o2.small y h1
            · simp at h1; subst h1; exact hTs⟩
          go_wp2
          go_roundw
          case rel => exact ⟨k + 1, c8, a8, _, by omega, by go_num, HN⟩
          case measure => simp [intOf]; omega
      · obtain rfl : m = k := by omega
        obtain ⟨j0, j1, j2, j3, j4⟩ := HS.out.cells
        obtain ⟨n0, n1, n2, n3, n4⟩ := (HS.out.on (Below.refl _ _).drew).cells
        go_upto_region 13 with fail
        go_region_law (go_simp; go_at_call 18; refine (bend_any (w.heap.size + 2) (w.heap.size + 3) P a n cap bs ao m c xs wr.drew (HS.out.on (Below.refl _ _).drew).rd (HS.out.on (Below.refl _ _).drew).o1 HS.out.l1 hm3 (by omega) HS.out.hP (by have := HS.out.size; show P ≤ wr.heap.size; omega)).mono ?_; rintro e w7 ⟨m1, c1, a1, zs, rfl, hm1, ho1, _, _, hbent⟩; unfold nmv; obtain ⟨y0, y1, y2, hY⟩ := (HS.out.on (Below.refl _ _).drew).fin (by omega) hm1 ho1 hbent; have HY0 : Hid (_) := y0; have HY1 : Hid (_) := y1; have HY : Hid (_) := hY; have z0 : w7.cell? ⟨w.heap.size, 0, none⟩ = some (.slice none 0 0) := (cell_of_row _ _ 0 _ 26 (0, 0) y0).trans rfl; have z1 : w7.cell? ⟨w.heap.size + 1, 0, none⟩ = some (.slice none 0 0) := (cell_of_row _ _ 0 _ 26 (0, 0) y1).trans rfl; have z2 : w7.frozen? ⟨w.heap.size, 0, none⟩ = false := frozen_of_row w7 _ 0 _ 26 y0; have z3 : w7.frozen? ⟨w.heap.size + 1, 0, none⟩ = false := frozen_of_row w7 _ 0 _ 26 y1; have z4 : w.heap.size + 1 < w7.heap.size := (Array.getElem?_eq_some_iff.1 y1).1; have z5 : w.heap.size < w7.heap.size := (by omega); have q0 : (w7.setCell ⟨w.heap.size, 0, none⟩ (.slice a1 m1 c1)).heap[w.heap.size + 1]? = some (.cells #[.slice none 0 0] 26) := (Below.heap_setCell _ _ _ _ (by show w.heap.size + 1 ≠ w.heap.size; omega)).trans y1; have q1 : (w7.setCell ⟨w.heap.size, 0, none⟩ (.slice a1 m1 c1)).cell? ⟨w.heap.size + 1, 0, none⟩ = some (.slice none 0 0) := (cell_of_row _ _ 0 _ 26 (0, 0) q0).trans rfl; have q2 : (w7.setCell ⟨w.heap.size, 0, none⟩ (.slice a1 m1 c1)).frozen? ⟨w.heap.size + 1, 0, none⟩ = false := frozen_of_row _ _ 0 _ 26 q0; have q4 : (w7.setCell ⟨w.heap.size, 0, none⟩ (.slice a1 m1 c1)).cell? ⟨P + 1, 0, none⟩ = some (.slice a2 m c2) := (World.cell?_setCell_other _ _ _ _ (by have := HS.out.hP; first | (simp; omega) | simp)).trans y2; clear q0 y0 y1 hY ho1 hbent)
        all_goals
          go_wp2
          try simp only [Exit.inBlock, Exit.then]
          exact bodyPost_ret (results_nn rfl _ w.heap.size (w.heap.size + 1) rfl rfl _ _ _ (two_set HY0.out HY1.out).1 (two_set HY0.out HY1.out).2) rfl HY.out
  · go_wp2_with fail
    refine (drawName_any (w.heap.size + 2) a n cap bs _ HS4.out.rd).mono ?_
    rintro e w5 ⟨m2, c2, a2, ys, rfl, hm23, hoB, _, hp5⟩
    unfold nmv
    have HS5 : Hid (SN w P a n cap bs w5 ao m c xs none 0 0 []) := HS4.out.rdp hp5
    obtain ⟨j0, j1, j2, j3, j4⟩ := HS5.out.cells
    obtain ⟨w6, hw6⟩ : ∃ w6, w6 = w5.setCell ⟨P + 1, 0, none⟩ (.slice a2 m2 c2) := ⟨_, rfl⟩
    have HS6 : Hid (SN w P a n cap bs w6 ao m c xs a2 m2 c2 ys) := by rw [hw6]; exact HS5.out.put (Below.refl _ _) (hoB.lower hz4)
    have HW6 : Hid (_ = _) := hw6
    clear hw6 hoB hp5 HS4 k0 k1 k2 k3 k4
    go_upto_region 13 with fail
    rw [← HW6.out]
    clear HW6 HS5 j0 j1 j2 j3 j4
    obtain ⟨j0, j1, j2, j3, j4⟩ := HS6.out.cells
    obtain ⟨n0, n1, n2, n3, n4⟩ := (HS6.out.on (Below.refl _ _).drew).cells
    skip
    go_region_law (go_simp; go_at_call 18; refine (bend_any (w.heap.size + 2) (w.heap.size + 3) P a n cap bs ao m c xs w6.drew (HS6.out.on (Below.refl _ _).drew).rd (HS6.out.on (Below.refl _ _).drew).o1 HS6.out.l1 hm3 (by omega) HS6.out.hP (by have := HS6.out.size; show P ≤ w6.heap.size; omega)).mono ?_; rintro e w7 ⟨m1, c1, a1, zs, rfl, hm1, ho1, _, _, hbent⟩; unfold nmv; obtain ⟨y0, y1, y2, hY⟩ := (HS6.out.on (Below.refl _ _).drew).fin (by omega) hm1 ho1 hbent; have HY0 : Hid (_) := y0; have HY1 : Hid (_) := y1; have HY : Hid (_) := hY; have z0 : w7.cell? ⟨w.heap.size, 0, none⟩ = some (.slice none 0 0) := (cell_of_row _ _ 0 _ 26 (0, 0) y0).trans rfl; have z1 : w7.cell? ⟨w.heap.size + 1, 0, none⟩ = some (.slice none 0 0) := (cell_of_row _ _ 0 _ 26 (0, 0) y1).trans rfl; have z2 : w7.frozen? ⟨w.heap.size, 0, none⟩ = false := frozen_of_row w7 _ 0 _ 26 y0; have z3 : w7.frozen? ⟨w.heap.size + 1, 0, none⟩ = false := frozen_of_row w7 _ 0 _ 26 y1; have z4 : w.heap.size + 1 < w7.heap.size := (Array.getElem?_eq_some_iff.1 y1).1; have z5 : w.heap.size < w7.heap.size := (by omega); have q0 : (w7.setCell ⟨w.heap.size, 0, none⟩ (.slice a1 m1 c1)).heap[w.heap.size + 1]? = some (.cells #[.slice none 0 0] 26) := (Below.heap_setCell _ _ _ _ (by show w.heap.size + 1 ≠ w.heap.size; omega)).trans y1; have q1 : (w7.setCell ⟨w.heap.size, 0, none⟩ (.slice a1 m1 c1)).cell? ⟨w.heap.size + 1, 0, none⟩ = some (.slice none 0 0) := (cell_of_row _ _ 0 _ 26 (0, 0) q0).trans rfl; have q2 : (w7.setCell ⟨w.heap.size, 0, none⟩ (.slice a1 m1 c1)).frozen? ⟨w.heap.size + 1, 0, none⟩ = false := frozen_of_row _ _ 0 _ 26 q0; have q4 : (w7.setCell ⟨w.heap.size, 0, none⟩ (.slice a1 m1 c1)).cell? ⟨P + 1, 0, none⟩ = some (.slice a2 m2 c2) := (World.cell?_setCell_other _ _ _ _ (by have := HS6.out.hP; first | (simp; omega) | simp)).trans y2; clear q0 y0 y1 hY ho1 hbent)
    all_goals
      go_wp2
      try simp only [Exit.inBlock, Exit.then]
      exact bodyPost_ret (results_nn rfl _ w.heap.size (w.heap.size + 1) rfl rfl _ _ _ (two_set HY0.out HY1.out).1 (two_set HY0.out HY1.out).2) rfl HY.out

end Go.Proofs.Ytdoobkffkmphfaa
