import Derived.Test.YtbfjkmlmnhphoaaDoorCC12
import Derived.Test.YtbfjkmlmnhphoaaDoorAP2
import Derived.BigQuiet
set_option linter.unusedVariables false
namespace Go.Proofs.YtbfjkmlmnhphoaaDoor
open Go.RowKit Go.Sort

theorem infoSizeGone : (Tryd.prog.info? 63).map (·.size) = some 4 := by kernel_rfl

set_option maxRecDepth 10000 in
set_option maxHeartbeats 8000000 in
theorem specApplyDelta_any (a1 : Option Addr) (n1 c1 : Nat) (a2 : Option Addr) (n2 c2 : Nat) (a3 : Option Addr) (n3 c3 : Nat) (x : CP) (b1 : Option Addr) (m1 d1 : Nat) (b2 : Option Addr) (m2 d2 : Nat) (b3 : Option Addr) (m3 d3 : Nat) (y : CP) (w : World) (h : Crs w a1 n1 a2 n2 a3 n3 x) (h' : Crs w b1 m1 b2 m2 b3 m3 y) (hz : CpOk n1 n2 n3 x) (hz' : CpOk m1 m2 m3 y) (hn1 : b1 = none → d1 = 0) (hn3 : b3 = none → d3 = 0)
    (hc : ∀ k, k < n2 → ∀ b off an nn cn, a2 = some ⟨b, off, none⟩ → w.cell? ⟨b, off + k * 4, none⟩ = some (.slice an nn cn) → (an = none → cn = 0) ∧ nn ≤ 1048576)
    (hc' : ∀ k, k < m2 → ∀ b off an nn cn, b2 = some ⟨b, off, none⟩ → w.cell? ⟨b, off + k * 4, none⟩ = some (.slice an nn cn) → (an = none → cn = 0) ∧ nn ≤ 1048576) :
    Calls Tryd.prog 16 #[crv a1 n1 c1 a2 n2 c2 a3 n3 c3 x, crv b1 m1 d1 b2 m2 d2 b3 m3 d3 y] w fun e w' => ApS x y m1 w e w' := by
  obtain ⟨i0, hi, hz0, hz1, hz2⟩ := info_parts Tryd.infoGone
  obtain ⟨w1, hw1⟩ : ∃ w1, w1 = ((w.alloc (.cells #[.slice a1 n1 c1, .int .i64 x.num, .int .i64 x.base, .int .i64 x.tm, .int .i64 x.next, .int .i64 x.scope, .bool x.ind, .slice a2 n2 c2, .slice a3 n3 c3] 36)).alloc (.cells #[.slice b1 m1 d1, .int .i64 y.num, .int .i64 y.base, .int .i64 y.tm, .int .i64 y.next, .int .i64 y.scope, .bool y.ind, .slice b2 m2 d2, .slice b3 m3 d3] 36)).alloc (.cells #[.slice none 0 0, .int .i64 0, .int .i64 0, .int .i64 0, .int .i64 0, .int .i64 0, .bool false, .slice none 0 0, .slice none 0 0] 36) := ⟨_, rfl⟩
  have hbb : Below w.heap.size w w1 := by rw [hw1]; exact (((Below.refl _ _).alloc (Nat.le_refl _) _).alloc (by simp) _).alloc (by simp; omega) _
  have hB1 := three_blocks' w (.cells #[.slice a1 n1 c1, .int .i64 x.num, .int .i64 x.base, .int .i64 x.tm, .int .i64 x.next, .int .i64 x.scope, .bool x.ind, .slice a2 n2 c2, .slice a3 n3 c3] 36) (.cells #[.slice b1 m1 d1, .int .i64 y.num, .int .i64 y.base, .int .i64 y.tm, .int .i64 y.next, .int .i64 y.scope, .bool y.ind, .slice b2 m2 d2, .slice b3 m3 d3] 36) (.cells #[.slice none 0 0, .int .i64 0, .int .i64 0, .int .i64 0, .int .i64 0, .int .i64 0, .bool false, .slice none 0 0, .slice none 0 0] 36)
  rw [← hw1] at hB1
  have hs1 : w1.heap.size = w.heap.size + 3 := by rw [hw1]; simp
  have HK : Hid (∀ W, Below w1.heap.size w1 W → W.heap[w.heap.size]? = some (.cells #[.slice a1 n1 c1, .int .i64 x.num, .int .i64 x.base, .int .i64 x.tm, .int .i64 x.next, .int .i64 x.scope, .bool x.ind, .slice a2 n2 c2, .slice a3 n3 c3] 36 (0, 0)) ∧ W.heap[w.heap.size + 1]? = some (.cells #[.slice b1 m1 d1, .int .i64 y.num, .int .i64 y.base, .int .i64 y.tm, .int .i64 y.next, .int .i64 y.scope, .bool y.ind, .slice b2 m2 d2, .slice b3 m3 d3] 36 (0, 0)) ∧ W.heap[w.heap.size + 2]? = some (.cells #[.slice none 0 0, .int .i64 0, .int .i64 0, .int .i64 0, .int .i64 0, .int .i64 0, .bool false, .slice none 0 0, .slice none 0 0] 36 (0, 0))) := fun W hb => ⟨(hb.block _ (by omega)).trans hB1.1, (hb.block _ (by omega)).trans hB1.2.1, (hb.block _ (by omega)).trans hB1.2.2⟩
  have HA : Hid (Crs w a1 n1 a2 n2 a3 n3 x ∧ CpOk n1 n2 n3 x) := ⟨h, hz⟩
  have HB : Hid (Crs w b1 m1 b2 m2 b3 m3 y ∧ CpOk m1 m2 m3 y) := ⟨h', hz'⟩
  have HCA : Hid (∀ k, k < n2 → ∀ b off an nn cn, a2 = some ⟨b, off, none⟩ → w.cell? ⟨b, off + k * 4, none⟩ = some (.slice an nn cn) → (an = none → cn = 0) ∧ nn ≤ 1048576) := hc
  have HCB : Hid (∀ k, k < m2 → ∀ b off an nn cn, b2 = some ⟨b, off, none⟩ → w.cell? ⟨b, off + k * 4, none⟩ = some (.slice an nn cn) → (an = none → cn = 0) ∧ nn ≤ 1048576) := hc'
  have HBW : Hid (Below w.heap.size w w1) := hbb
  have HS1 : Hid (_ = _) := hs1
  have HW : Hid (_ = _) := hw1
  have COX : ∀ W, Below w1.heap.size w1 W → _ := fun W hb => specCrlOk_any a1 n1 c1 a2 n2 c2 a3 n3 c3 x W (HA.out.1.kept (HBW.out.trans (hb.mono HBW.out.size))) HA.out.2
  have COY : ∀ W, Below w1.heap.size w1 W → _ := fun W hb => specCrlOk_any b1 m1 d1 b2 m2 d2 b3 m3 d3 y W (HB.out.1.kept (HBW.out.trans (hb.mono HBW.out.size))) HB.out.2
  have FLW : ∀ W, Below w1.heap.size w1 W → _ := fun W hb => l10Fit_any a1 n1 c1 a2 n2 c2 a3 n3 c3 x b1 m1 d1 b2 m2 d2 b3 m3 d3 y W (HA.out.1.kept (HBW.out.trans (hb.mono HBW.out.size))).nm (HB.out.1.kept (HBW.out.trans (hb.mono HBW.out.size))).nm HA.out.2.2.1 HB.out.2.2.1
  have HCC : Hid (∀ W, Below w.heap.size w W → ∀ k, k < m2 → ∀ b off an nn cn, b2 = some ⟨b, off, none⟩ → W.cell? ⟨b, off + k * 4, none⟩ = some (.slice an nn cn) → (an = none → cn = 0) ∧ nn ≤ 1048576) := fun W hb2 k hk b off an nn cn e hq => by
    refine HCB.out k hk b off an nn cn e ?_
    obtain ⟨b', off', _, _, _, e', hlt, _⟩ := HB.out.1.en.get k hk
    rw [e] at e'
    simp only [Option.some.injEq, Addr.mk.injEq] at e'
    obtain ⟨rfl, _, _⟩ := e'
    rw [← hb2.cell (p := ⟨b, off + k * 4, none⟩) hlt]
    exact hq
  have CPY : ∀ W, Below w1.heap.size w1 W → _ := fun W hb => l10Copy_any b1 m1 d1 b2 m2 d2 b3 m3 d3 y W (HB.out.1.kept (HBW.out.trans (hb.mono HBW.out.size))) HB.out.2 hn1 hn3 (HCC.out W (HBW.out.trans (hb.mono HBW.out.size)))
  unfold crv at COX COY FLW CPY
  have HOX : Hid (_) := COX
  have HOY : Hid (_) := COY
  have HFL : Hid (_) := FLW
  have HCP : Hid (_) := CPY
  clear hw1 hB1 hbb hs1 h h' hz hz' hn1 hn3 hc hc' COX COY FLW CPY
  unfold crv
  go_enter Tryd.func16, Tryd.ntmps16
  go_upto_region 1 with fail
  rw [← HW.out]
  clear HW
  go_cut [30] (fun c wx => ∃ bq : Bool, c = .bool bq ∧ Hid ((bq = false ↔ OkA x y) ∧ Below w1.heap.size w1 wx))
  case first =>
    go_wp2_with (refine wpList_load_row rfl 36 _ rfl (w.heap.size) rfl 36 #[.slice a1 n1 c1, .int .i64 x.num, .int .i64 x.base, .int .i64 x.tm, .int .i64 x.next, .int .i64 x.scope, .bool x.ind, .slice a2 n2 c2, .slice a3 n3 c3] (0, 0) _ (HK.out _ (Below.refl _ _)).1 Tryd.underlying36 rfl infoSizeCrl ?_)
    refine Calls.mono (HOX.out w1 (Below.refl _ _)) ?_
    rintro e w2 ⟨e1, rfl, hp1, hb2⟩
    cases e1 with
    | false =>
      go_wp2_with fail
      go_meet
      exact ⟨true, rfl, ⟨⟨fun e => (by cases e), fun e => absurd (hp1.out.2 e.1) (by decide)⟩, hb2⟩⟩
    | true =>
      have p0 : w2.cell? ⟨w.heap.size + 1, 0, none⟩ = some (.slice b1 m1 d1) := (cell_of_row _ _ 0 _ _ (0, 0) (HK.out _ hb2).2.1).trans rfl
      have p1 : w2.cell? ⟨w.heap.size + 1, 1, none⟩ = some (.int .i64 y.num) := (cell_of_row _ _ 1 _ _ (0, 0) (HK.out _ hb2).2.1).trans rfl
      have p2 : w2.cell? ⟨w.heap.size + 1, 2, none⟩ = some (.int .i64 y.base) := (cell_of_row _ _ 2 _ _ (0, 0) (HK.out _ hb2).2.1).trans rfl
      have p3 : w2.cell? ⟨w.heap.size + 1, 3, none⟩ = some (.int .i64 y.tm) := (cell_of_row _ _ 3 _ _ (0, 0) (HK.out _ hb2).2.1).trans rfl
      have p4 : w2.cell? ⟨w.heap.size + 1, 4, none⟩ = some (.int .i64 y.next) := (cell_of_row _ _ 4 _ _ (0, 0) (HK.out _ hb2).2.1).trans rfl
      have p5 : w2.cell? ⟨w.heap.size + 1, 5, none⟩ = some (.int .i64 y.scope) := (cell_of_row _ _ 5 _ _ (0, 0) (HK.out _ hb2).2.1).trans rfl
      have p6 : w2.cell? ⟨w.heap.size + 1, 6, none⟩ = some (.bool y.ind) := (cell_of_row _ _ 6 _ _ (0, 0) (HK.out _ hb2).2.1).trans rfl
      have p7 : w2.cell? ⟨w.heap.size + 1, 7, none⟩ = some (.slice b2 m2 d2) := (cell_of_row _ _ 7 _ _ (0, 0) (HK.out _ hb2).2.1).trans rfl
      have p8 : w2.cell? ⟨w.heap.size + 1, 8, none⟩ = some (.slice b3 m3 d3) := (cell_of_row _ _ 8 _ _ (0, 0) (HK.out _ hb2).2.1).trans rfl
      go_wp2_with fail
      clear p0 p1 p2 p3 p4 p5 p6 p7 p8
      refine Calls.mono (HOY.out w2 hb2) ?_
      rintro e w3 ⟨e2, rfl, hp2, hb3⟩
      have hb3r := hb2.trans (hb3.mono hb2.size)
      cases e2 with
      | false =>
        go_wp2_with fail
        go_meet
        exact ⟨true, rfl, ⟨⟨fun e => (by cases e), fun e => absurd (hp2.out.2 e.2.1) (by decide)⟩, hb3r⟩⟩
      | true =>
        have hX : crlP x := hp1.out.1 (by first | exact trivial | rfl)
        have hY : crlP y := hp2.out.1 (by first | exact trivial | rfl)
        have hx0 := hX.1.2.2.1.1
        have hy0 := hY.1.2.2.1.1
        have HXY : Hid (crlP x ∧ crlP y) := ⟨hX, hY⟩
        clear hp1 hp2 hX hY
        have x2 : w3.cell? ⟨w.heap.size, 2, none⟩ = some (.int .i64 x.base) := (cell_of_row _ _ 2 _ _ (0, 0) (HK.out _ hb3r).1).trans rfl
        have y2 : w3.cell? ⟨w.heap.size + 1, 2, none⟩ = some (.int .i64 y.base) := (cell_of_row _ _ 2 _ _ (0, 0) (HK.out _ hb3r).2.1).trans rfl
        by_cases hxb : (0 : Int) ≤ x.base
        · go_wp2_with fail
          go_meet
          exact ⟨true, rfl, ⟨⟨fun e => (by cases e), fun e => absurd e.2.2.1 (by omega)⟩, hb3r⟩⟩
        · by_cases hyb : y.base < 0
          · go_wp2_with fail
            go_meet
            exact ⟨true, rfl, ⟨⟨fun e => (by cases e), fun e => absurd e.2.2.2 (by omega)⟩, hb3r⟩⟩
          · go_wp2_with fail
            go_meet
            exact ⟨decide (0 ≤ x.base) || decide (y.base < 0), rfl, ⟨⟨fun _ => ⟨HXY.out.1, HXY.out.2, by omega, by omega⟩, fun _ => by simp [hxb, hyb]⟩, hb3r⟩⟩
  case rest =>
  obtain ⟨bq, rfl, hbq⟩ := hcut
  cases bq with
  | true =>
    have HNO : Hid (¬ OkA x y) := fun e => absurd (hbq.out.1.2 e) (by decide)
    have HBX : Hid (Below w1.heap.size w1 wc) := hbq.out.2
    clear hbq
    go_wp2_with (refine wpList_store_rowTo rfl 36 _ _ rfl rfl (w.heap.size + 2) #[.slice none 0 0, .int .i64 0, .int .i64 0, .int .i64 0, .int .i64 0, .int .i64 0, .bool false, .slice none 0 0, .slice none 0 0] rfl rfl 36 #[.slice none 0 0, .int .i64 0, .int .i64 0, .int .i64 0, .int .i64 0, .int .i64 0, .bool false, .slice none 0 0, .slice none 0 0] (HK.out _ HBX.out).2.2 infoSizeCrl rfl (by simp [Value.oneCell']) ?_)
    have q6 := setRow_heap wc (w.heap.size + 2) _ #[.slice none 0 0, .int .i64 0, .int .i64 0, .int .i64 0, .int .i64 0, .int .i64 0, .bool false, .slice none 0 0, .slice none 0 0] 36 (0, 0) (HK.out _ HBX.out).2.2
    have tt := setRow_touch wc (w.heap.size + 2) #[.slice none 0 0, .int .i64 0, .int .i64 0, .int .i64 0, .int .i64 0, .int .i64 0, .bool false, .slice none 0 0, .slice none 0 0]
    try simp only [Exit.inBlock, Exit.then]
    have B3 := HBW.out.trans (HBX.out.mono HBW.out.size)
    exact bodyPost_ret (results_crl2 (by rfl) _ (w.heap.size + 2) rfl _ _ rfl q6) rfl (fun z m n cd hr => by obtain ⟨rfl, rfl, rfl, rfl⟩ := apR_bad HNO.out hr; exact ansS_zero (B3.trans (tt.below (by omega) B3.size)))
  | false =>
    have HOK : Hid (OkA x y) := hbq.out.1.1 rfl
    have HBX : Hid (Below w1.heap.size w1 wc) := hbq.out.2
    clear hbq
    go_wp2_with (first | (refine wpList_load_row rfl 36 _ rfl (w.heap.size) rfl 36 #[.slice a1 n1 c1, .int .i64 x.num, .int .i64 x.base, .int .i64 x.tm, .int .i64 x.next, .int .i64 x.scope, .bool x.ind, .slice a2 n2 c2, .slice a3 n3 c3] (0, 0) _ (HK.out _ HBX.out).1 Tryd.underlying36 rfl infoSizeCrl ?_) | (refine wpList_load_row rfl 36 _ rfl (w.heap.size + 1) rfl 36 #[.slice b1 m1 d1, .int .i64 y.num, .int .i64 y.base, .int .i64 y.tm, .int .i64 y.next, .int .i64 y.scope, .bool y.ind, .slice b2 m2 d2, .slice b3 m3 d3] (0, 0) _ (HK.out _ HBX.out).2.1 Tryd.underlying36 rfl infoSizeCrl ?_))
    refine Calls.mono (HFL.out wc HBX.out) ?_
    rintro e w6 ⟨rfl, hb6⟩
    have HB6 : Hid (Below w1.heap.size w1 w6) := HBX.out.trans (hb6.mono HBX.out.size)
    clear hb6
    by_cases hf : fitV x y = 0
    · have HF0 : Hid (fitV x y = 0) := hf
      rw [hf]
      clear hf
      have y2 : w6.cell? ⟨w.heap.size + 1, 2, none⟩ = some (.int .i64 y.base) := (cell_of_row _ _ 2 _ _ (0, 0) (HK.out _ HB6.out).2.1).trans rfl
      have x1 : w6.cell? ⟨w.heap.size, 1, none⟩ = some (.int .i64 x.num) := (cell_of_row _ _ 1 _ _ (0, 0) (HK.out _ HB6.out).1).trans rfl
      by_cases hbase : x.num < y.base
      · have H4 : Hid (x.num < y.base) := hbase
        have t4 : decide (x.num < y.base) = true := by simpa using hbase
        go_wp2_with (refine wpList_store_rowTo rfl 36 _ _ rfl rfl (w.heap.size + 2) #[.slice none 0 0, .int .i64 0, .int .i64 0, .int .i64 0, .int .i64 0, .int .i64 0, .bool false, .slice none 0 0, .slice none 0 0] rfl rfl 36 #[.slice none 0 0, .int .i64 0, .int .i64 0, .int .i64 0, .int .i64 0, .int .i64 0, .bool false, .slice none 0 0, .slice none 0 0] (HK.out _ HB6.out).2.2 infoSizeCrl rfl (by simp [Value.oneCell']) ?_)
        have q6 := setRow_heap w6 (w.heap.size + 2) _ #[.slice none 0 0, .int .i64 0, .int .i64 0, .int .i64 0, .int .i64 0, .int .i64 0, .bool false, .slice none 0 0, .slice none 0 0] 36 (0, 0) (HK.out _ HB6.out).2.2
        have tt := setRow_touch w6 (w.heap.size + 2) #[.slice none 0 0, .int .i64 0, .int .i64 0, .int .i64 0, .int .i64 0, .int .i64 0, .bool false, .slice none 0 0, .slice none 0 0]
        try simp only [Exit.inBlock, Exit.then]
        have B3 := HBW.out.trans (HB6.out.mono HBW.out.size)
        exact bodyPost_ret (results_crl2 (by rfl) _ (w.heap.size + 2) rfl _ _ rfl q6) rfl (fun z m n cd hr => by obtain ⟨rfl, rfl, rfl, rfl⟩ := apR_base HOK.out HF0.out H4.out hr; exact ansS_zero (B3.trans (tt.below (by omega) B3.size)))
      have H4 : Hid (¬ x.num < y.base) := hbase
      have t4 : decide (x.num < y.base) = false := by simpa using hbase
      clear hbase
      go_wp2_with (refine wpList_load_row rfl 36 _ rfl (w.heap.size + 1) rfl 36 #[.slice b1 m1 d1, .int .i64 y.num, .int .i64 y.base, .int .i64 y.tm, .int .i64 y.next, .int .i64 y.scope, .bool y.ind, .slice b2 m2 d2, .slice b3 m3 d3] (0, 0) _ (HK.out _ HB6.out).2.1 Tryd.underlying36 rfl infoSizeCrl ?_)
      refine Calls.mono (HCP.out w6 HB6.out) ?_
      clear y2 x1 t4
      rintro e w7 ⟨p1, f1, p2, f2, p3, f3, rfl, hcr, hnm, hb7⟩
      have HB7 : Hid (Below w1.heap.size w1 w7) := HB6.out.trans (hb7.mono HB6.out.size)
      have HNM : Hid (w7.ownsRow w6.heap.size 107 2 (.slice p1 m1 f1) m1 (flPt y.parts)) := hnm
      have HS67 : Hid (w.heap.size + 3 ≤ w6.heap.size ∧ w6.heap.size ≤ w7.heap.size) := by have q1 := HB6.out.size; have q2 := HS1.out; have q3 := hb7.size; exact ⟨by omega, q3⟩
      clear hb7 hcr hnm
      obtain ⟨w8, hw8⟩ : ∃ w8, w8 = w7.alloc (.cells #[.slice p1 m1 f1, .int .i64 y.num, .int .i64 y.base, .int .i64 y.tm, .int .i64 y.next, .int .i64 y.scope, .bool y.ind, .slice p2 m2 f2, .slice p3 m3 f3] 36) := ⟨_, rfl⟩
      have hb8 : Below w7.heap.size w7 w8 := by rw [hw8]; exact (Below.refl _ _).alloc (Nat.le_refl _) _
      have hg8 : w8.heap[w7.heap.size]? = some (.cells #[.slice p1 m1 f1, .int .i64 y.num, .int .i64 y.base, .int .i64 y.tm, .int .i64 y.next, .int .i64 y.scope, .bool y.ind, .slice p2 m2 f2, .slice p3 m3 f3] 36 (0, 0)) := by rw [hw8]; exact heap_alloc_new w7 _
      have hs8 : w8.heap.size = w7.heap.size + 1 := by rw [hw8]; simp
      have z2 : w8.cell? ⟨w7.heap.size, 2, none⟩ = some (.int .i64 y.base) := (cell_of_row _ _ 2 _ _ (0, 0) hg8).trans rfl
      have fz2 := frozen_of_row w8 _ 2 _ _ hg8
      have HW8 : Hid (_ = _) := hw8
      clear hw8
      go_upto_region 9 with fail
      rw [← HW8.out]
      clear HW8
      obtain ⟨w9, hw9⟩ : ∃ w9, w9 = w8.setCell ⟨w7.heap.size, 2, none⟩ (.int .i64 (-1)) := ⟨_, rfl⟩
      have hg9 : w9.heap[w7.heap.size]? = some (.cells #[.slice p1 m1 f1, .int .i64 y.num, .int .i64 (-1), .int .i64 y.tm, .int .i64 y.next, .int .i64 y.scope, .bool y.ind, .slice p2 m2 f2, .slice p3 m3 f3] 36 (0, 0)) := by rw [hw9]; exact (heap_setCell_same w8 w7.heap.size 2 _ _ _ hg8).trans rfl
      have t9 : Touch w7.heap.size (w7.heap.size + 1) w8 w9 := by rw [hw9]; exact touch_setC _ _ _ _ (Nat.le_refl _) (Nat.lt_succ_self _)
      have hb9 : Below w7.heap.size w7 w9 := hb8.trans (t9.below (Nat.le_refl _) hb8.size)
      have hs9 : w7.heap.size < w9.heap.size := by have := t9.size; omega
      have HW9 : Hid (_ = _) := hw9
      clear hw9 t9 hb8 hg8 hs8
      go_upto_region 10 with fail
      rw [← HW9.out]
      clear HW9 z2 fz2
      have z8 : w9.cell? ⟨w7.heap.size, 8, none⟩ = some (.slice p3 m3 f3) := (cell_of_row _ _ 8 _ _ (0, 0) hg9).trans rfl
      have fz8 := frozen_of_row w9 _ 8 _ _ hg9
      have hal9 : Below w9.heap.size w9 (w9.alloc (.cells #[] 5)) := (Below.refl _ _).alloc (Nat.le_refl _) _
      have hg9' : (w9.alloc (.cells #[] 5)).heap[w7.heap.size]? = some (.cells #[.slice p1 m1 f1, .int .i64 y.num, .int .i64 (-1), .int .i64 y.tm, .int .i64 y.next, .int .i64 y.scope, .bool y.ind, .slice p2 m2 f2, .slice p3 m3 f3] 36 (0, 0)) := (hal9.block _ hs9).trans hg9
      have z8a : (w9.alloc (.cells #[] 5)).cell? ⟨w7.heap.size, 8, none⟩ = some (.slice p3 m3 f3) := (cell_of_row _ _ 8 _ _ (0, 0) hg9').trans rfl
      have fz8a := frozen_of_row (w9.alloc (.cells #[] 5)) _ 8 _ _ hg9'
      obtain ⟨gs, hgs⟩ : ∃ gs, gs = w9.heap.size := ⟨_, rfl⟩
      obtain ⟨w10, hw10⟩ : ∃ w10, w10 = (w9.alloc (.cells #[] 5)).setCell ⟨w7.heap.size, 8, none⟩ (.slice (some ⟨w9.heap.size, 0, none⟩) 0 0) := ⟨_, rfl⟩
      have hg10 : w10.heap[w7.heap.size]? = some (.cells #[.slice p1 m1 f1, .int .i64 y.num, .int .i64 (-1), .int .i64 y.tm, .int .i64 y.next, .int .i64 y.scope, .bool y.ind, .slice p2 m2 f2, .slice (some ⟨gs, 0, none⟩) 0 0] 36 (0, 0)) := by rw [hw10, hgs]; exact (heap_setCell_same _ w7.heap.size 8 _ _ _ hg9').trans rfl
      have t10 : Touch w7.heap.size (w7.heap.size + 1) (w9.alloc (.cells #[] 5)) w10 := by rw [hw10]; exact touch_setC _ _ _ _ (Nat.le_refl _) (Nat.lt_succ_self _)
      have hb9a : Below w7.heap.size w7 (w9.alloc (.cells #[] 5)) := hb9.trans (hal9.mono hb9.size)
      have hb10 : Below w7.heap.size w7 w10 := hb9a.trans (t10.below (Nat.le_refl _) hb9a.size)
      have hs10 : gs + 1 ≤ w10.heap.size := by have := t10.size; simp at this; omega
      have hsg : w10.heap[gs]? = some (.cells #[] 5 (0, 0)) := by rw [hgs]; exact (t10.block _ (by simp) (.inr (by omega))).trans (heap_alloc_new w9 _)
      have hgl : w7.heap.size < gs := by omega
      have HGSZ : Hid (w9.heap.size = gs) := hgs.symm
      have HW10 : Hid (_ = _) := hw10
      clear hw10 t10 hb9 hg9 hal9 hg9' hb9a hs9 hgs
      go_upto_region 11 with fail
      rw [← HW10.out, HGSZ.out]
      clear HW10 z8 fz8 z8a fz8a HGSZ
      have z7 : w10.cell? ⟨w7.heap.size, 7, none⟩ = some (.slice p2 m2 f2) := (cell_of_row _ _ 7 _ _ (0, 0) hg10).trans rfl
      have fz7 := frozen_of_row w10 _ 7 _ _ hg10
      have hal10 : Below w10.heap.size w10 (w10.alloc (.cells #[] 63)) := (Below.refl _ _).alloc (Nat.le_refl _) _
      have hg10' : (w10.alloc (.cells #[] 63)).heap[w7.heap.size]? = some (.cells #[.slice p1 m1 f1, .int .i64 y.num, .int .i64 (-1), .int .i64 y.tm, .int .i64 y.next, .int .i64 y.scope, .bool y.ind, .slice p2 m2 f2, .slice (some ⟨gs, 0, none⟩) 0 0] 36 (0, 0)) := (hal10.block _ (by omega)).trans hg10
      have z7a : (w10.alloc (.cells #[] 63)).cell? ⟨w7.heap.size, 7, none⟩ = some (.slice p2 m2 f2) := (cell_of_row _ _ 7 _ _ (0, 0) hg10').trans rfl
      have fz7a := frozen_of_row (w10.alloc (.cells #[] 63)) _ 7 _ _ hg10'
      obtain ⟨w11, hw11⟩ : ∃ w11, w11 = (w10.alloc (.cells #[] 63)).setCell ⟨w7.heap.size, 7, none⟩ (.slice (some ⟨w10.heap.size, 0, none⟩) 0 0) := ⟨_, rfl⟩
      have t11 : Touch w7.heap.size (w7.heap.size + 1) (w10.alloc (.cells #[] 63)) w11 := by rw [hw11]; exact touch_setC _ _ _ _ (Nat.le_refl _) (Nat.lt_succ_self _)
      have hb10a : Below w7.heap.size w7 (w10.alloc (.cells #[] 63)) := hb10.trans (hal10.mono hb10.size)
      have HB11 : Hid (Below w7.heap.size w7 w11) := hb10a.trans (t11.below (Nat.le_refl _) hb10a.size)
      have HG11 : Hid (w11.heap[w7.heap.size]? = some (.cells #[.slice p1 m1 f1, .int .i64 y.num, .int .i64 (-1), .int .i64 y.tm, .int .i64 y.next, .int .i64 y.scope, .bool y.ind, .slice (some ⟨w10.heap.size, 0, none⟩) 0 0, .slice (some ⟨gs, 0, none⟩) 0 0] 36 (0, 0))) := by show _ = _; rw [hw11]; exact (heap_setCell_same _ w7.heap.size 7 _ _ _ hg10').trans rfl
      have HSG : Hid (w11.heap[gs]? = some (.cells #[] 5 (0, 0)) ∧ w7.heap.size < gs) := ⟨(t11.block _ (by simp; omega) (.inr (by omega))).trans ((hal10.block _ (by omega)).trans hsg), hgl⟩
      have HGO : Hid (GsO w (w7.heap.size + 1) w11 (some ⟨w10.heap.size, 0, none⟩) 0 0 (apA x.ents y.ents 0) (fun _ => (none, 0, 0))) := by
        have q : (w10.alloc (.cells #[] 63)).ownsRow (w7.heap.size + 1) 63 4 (.slice (some ⟨w10.heap.size, 0, none⟩) 0 0) 0 [] := World.ownsRow_lit w10 #[] 0 (by omega) (by decide) rfl
        exact GsO.touch ⟨rfl, q, fun j hj => absurd hj (Nat.not_lt_zero _)⟩ t11 (Nat.le_refl _)
      have HW11 : Hid (_ = _) := hw11
      clear hw11 t11 hb10 hg10 hal10 hg10' hb10a hsg hs10 hgl
      go_upto_region 12 with fail
      rw [← HW11.out]
      clear HW11 z7 fz7 z7a fz7a
      have n7 : w11.cell? ⟨w.heap.size, 7, none⟩ = some (.slice a2 n2 c2) := (cell_of_row _ _ 7 _ _ (0, 0) (HK.out _ (HB7.out.trans (HB11.out.mono HB7.out.size))).1).trans rfl
      have hm2 : m2 ≤ 60 := by have := HOK.out.2.1.1.2.2.2.2.2.2.2.1; rw [HB.out.1.en.len] at this; exact this
      have hn2 : n2 ≤ 60 := by have := HOK.out.1.1.2.2.2.2.2.2.2.1; rw [HA.out.1.en.len] at this; exact this
      go_wp2_with fail
      clear n7
      go_loopw [8] (fun i wr => ∃ (k : Nat) (ao : Option Addr) (q cc : Nat), k ≤ n2 ∧ q ≤ k ∧ i = .int .i64 k ∧ Hid (wr.heap[w7.heap.size]? = some (.cells #[.slice p1 m1 f1, .int .i64 y.num, .int .i64 (-1), .int .i64 y.tm, .int .i64 y.next, .int .i64 y.scope, .bool y.ind, .slice ao q cc, .slice (some ⟨gs, 0, none⟩) 0 0] 36 (0, 0))) ∧ Hid (∃ sl, GsO w (w7.heap.size + 1) wr ao q cc (apA x.ents y.ents k) sl) ∧ Below w7.heap.size w7 wr) (fun i _ => n2 - (intOf i).toNat)
      case atStart => exact ⟨0, _, 0, 0, Nat.zero_le _, Nat.le_refl _, rfl, HG11.out, ⟨_, HGO.out⟩, HB11.out⟩
      case round =>
        obtain ⟨k, ao, q, cc, hk, hqk, rfl, HG, HO, hbr⟩ := hrel
        have hbr1 : Below w1.heap.size w1 wr := HB7.out.trans (hbr.mono HB7.out.size)
        have hbw : Below w.heap.size w wr := HBW.out.trans (hbr1.mono HBW.out.size)
        have hgl : w7.heap.size < wr.heap.size := (Array.getElem?_eq_some_iff.1 HG.out).1
        have x7 : wr.cell? ⟨w.heap.size, 7, none⟩ = some (.slice a2 n2 c2) := (cell_of_row _ _ 7 _ _ (0, 0) (HK.out _ hbr1).1).trans rfl
        by_cases hlt : k < n2
        · obtain ⟨b, off, an, nn, cn, rfl, hlb, hc, hp⟩ := HA.out.1.en.get k hlt
          obtain ⟨hnl, hn1⟩ := HCA.out k hlt b off an nn cn rfl hc.c0
          have hzk := HA.out.2.2.2.2.1 k hlt
          have hek := HOK.out.1.2.1 k (by rw [HA.out.1.en.len]; exact hlt)
          obtain ⟨z, hz⟩ : ∃ z, z = x.ents.getD k default := ⟨_, rfl⟩
          have HCH : Hid (apA x.ents y.ents (k + 1) = apA x.ents y.ents k ++ if (newE y.ents z).rs = 7 then [] else [newE y.ents z]) := by show _ = _; rw [hz]; rfl
          rw [← hz] at hc hp hzk hek
          obtain ⟨e0, e1, e2, e3⟩ := hc.of (w' := wr) (fun i => hbw.cell (p := ⟨b, i, none⟩) hlb)
          have HPT : Hid (Pts w an nn z.parts ∧ (an = none → cn = 0) ∧ nn ≤ 1048576) := ⟨hp, hnl, hn1⟩
          have HZK : Hid (GpOk z ∧ kOk z) := ⟨hzk, entP_name hek, entP_wf hek⟩
          have hkni : (k : Int) < (n2 : Int) := by omega
          obtain ⟨W1, hW1⟩ : ∃ W1, W1 = wr.alloc (.cells #[.slice an nn cn, .int .i64 z.ser, .int .i64 z.tm, .int .i64 z.rs] 63) := ⟨_, rfl⟩
          have hal : Below wr.heap.size wr W1 := by rw [hW1]; exact (Below.refl _ _).alloc (Nat.le_refl _) _
          have hz1 : W1.heap[wr.heap.size]? = some (.cells #[.slice an nn cn, .int .i64 z.ser, .int .i64 z.tm, .int .i64 z.rs] 63 (0, 0)) := by rw [hW1]; exact heap_alloc_new wr _
          have hbW1 : Below w.heap.size w W1 := hbw.trans (hal.mono hbw.size)
          have M := l10At_any b2 m2 d2 y.ents an nn cn z W1 (HB.out.1.en.kept hbW1) HB.out.2.2.2.1 HB.out.2.2.2.2.1 (HPT.out.1.kept hbW1) HZK.out.1
          unfold gov at M
          have HM : Hid (_) := M
          have HBS : Hid (Below w1.heap.size w1 wr ∧ Below w7.heap.size w7 wr ∧ Below wr.heap.size wr W1) := ⟨hbr1, hbr, hal⟩
          have HZ1 : Hid (_ = _) := hz1
          have HWW : Hid (_ = _) := hW1
          clear hc hp hz hnl hn1 hzk hek M hbr1 hbr hbw hal hz1 hbW1 hW1
          go_upto_region 16 with fail
          rw [← HWW.out]
          clear HWW e0 e1 e2 e3 x7
          have a7 : W1.cell? ⟨w.heap.size + 1, 7, none⟩ = some (.slice b2 m2 d2) := (cell_of_row _ _ 7 _ _ (0, 0) (HK.out _ (HBS.out.1.trans (HBS.out.2.2.mono HBS.out.1.size))).2.1).trans rfl
          have q0 : W1.cell? ⟨wr.heap.size, 0, none⟩ = some (.slice an nn cn) := (cell_of_row _ _ 0 _ _ (0, 0) HZ1.out).trans rfl
          have q1 : W1.cell? ⟨wr.heap.size, 1, none⟩ = some (.int .i64 z.ser) := (cell_of_row _ _ 1 _ _ (0, 0) HZ1.out).trans rfl
          have q2 : W1.cell? ⟨wr.heap.size, 2, none⟩ = some (.int .i64 z.tm) := (cell_of_row _ _ 2 _ _ (0, 0) HZ1.out).trans rfl
          have q3 : W1.cell? ⟨wr.heap.size, 3, none⟩ = some (.int .i64 z.rs) := (cell_of_row _ _ 3 _ _ (0, 0) HZ1.out).trans rfl
          go_wp2_with fail
          refine Calls.mono HM.out ?_
          rintro e w3 ⟨v, rfl, hat, hb3⟩
          have hl1 := (Array.getElem?_eq_some_iff.1 HZ1.out).1
          have hz3 := (hb3.block _ hl1).trans HZ1.out
          have hb3r : Below wr.heap.size wr w3 := HBS.out.2.2.trans (hb3.mono HBS.out.2.2.size)
          have HB3 : Hid (Below w1.heap.size w1 w3 ∧ Below w7.heap.size w7 w3 ∧ Below wr.heap.size wr w3) := ⟨HBS.out.1.trans (hb3r.mono HBS.out.1.size), HBS.out.2.1.trans (hb3r.mono HBS.out.2.1.size), hb3r⟩
          have HZ3 : Hid (w3.heap[wr.heap.size]? = some (.cells #[.slice an nn cn, .int .i64 z.ser, .int .i64 z.tm, .int .i64 z.rs] 63 (0, 0))) := hz3
          have HAT := at_last HB.out.1.en.len (fun j hj => ⟨entP_name (HOK.out.2.1.2.1 j (by rw [HB.out.1.en.len]; exact hj)), entP_wf (HOK.out.2.1.2.1 j (by rw [HB.out.1.en.len]; exact hj))⟩) HZK.out.2 (fun i k hi hk => HOK.out.2.1.2.2 i k (by rw [HB.out.1.en.len]; exact hi) hk) hat.out
          clear hat hb3 hl1 hz3 hb3r HZ1 HM HBS q0 q1 q2 q3 a7
          have HG3 : Hid (w3.heap[w7.heap.size]? = some (.cells #[.slice p1 m1 f1, .int .i64 y.num, .int .i64 (-1), .int .i64 y.tm, .int .i64 y.next, .int .i64 y.scope, .bool y.ind, .slice ao q cc, .slice (some ⟨gs, 0, none⟩) 0 0] 36 (0, 0))) := (HB3.out.2.2.block _ (Array.getElem?_eq_some_iff.1 HG.out).1).trans HG.out
          have HO3 : Hid (∃ sl, GsO w (w7.heap.size + 1) w3 ao q cc (apA x.ents y.ents k) sl) := ⟨_, HO.out.choose_spec.below HB3.out.2.2⟩
          have HOR : Hid (∃ sl, GsO w (w7.heap.size + 1) wr ao q cc (apA x.ents y.ents k) sl) := HO.out
          clear HG HO
          rcases HAT with ⟨rfl, hl⟩ | ⟨j, hj, rfl, hl⟩
          · have hnew : newE y.ents z = z := by unfold newE; rw [HB.out.1.en.len, hl]
            rw [hnew] at HCH
            clear hl hnew
            have hv : ¬ ((0 : Int) ≤ -1) := by decide
            by_cases h7 : z.rs = 7
            · have HCE : Hid (apA x.ents y.ents (k + 1) = apA x.ents y.ents k) := by
                show _ = _
                rw [HCH.out, if_pos h7, List.append_nil]
              have u3 : w3.cell? ⟨wr.heap.size, 3, none⟩ = some (.int .i64 z.rs) := (cell_of_row _ _ 3 _ _ (0, 0) HZ3.out).trans rfl
              have t7 : (z.rs != 7) = false := by simp [h7]
              have t8 : decide (z.rs = 7) = true := by simp [h7]
              have H7 : Hid (z.rs = 7) := h7
              clear h7 HCH
              have HO9 : Hid (∃ sl, GsO w (w7.heap.size + 1) w3 ao q cc (apA x.ents y.ents (k + 1)) sl) := by show ∃ sl, _; rw [HCE.out]; exact HO3.out
              go_wp2_with fail
              go_roundw
              case rel => exact ⟨k + 1, ao, q, cc, by omega, by omega, by go_num, HG3.out, HO9.out, HB3.out.2.1⟩
              case measure => simp [intOf]; omega
            · have HCE : Hid (apA x.ents y.ents (k + 1) = apA x.ents y.ents k ++ [z]) := by
                show _ = _
                rw [HCH.out, if_neg h7]
              have t7 : (z.rs != 7) = true := by simp [h7]
              have t8 : decide (z.rs = 7) = false := by simp [h7]
              clear h7 HCH
              have u0 : w3.cell? ⟨wr.heap.size, 0, none⟩ = some (.slice an nn cn) := (cell_of_row _ _ 0 _ _ (0, 0) HZ3.out).trans rfl
              have u1 : w3.cell? ⟨wr.heap.size, 1, none⟩ = some (.int .i64 z.ser) := (cell_of_row _ _ 1 _ _ (0, 0) HZ3.out).trans rfl
              have u2 : w3.cell? ⟨wr.heap.size, 2, none⟩ = some (.int .i64 z.tm) := (cell_of_row _ _ 2 _ _ (0, 0) HZ3.out).trans rfl
              have u3 : w3.cell? ⟨wr.heap.size, 3, none⟩ = some (.int .i64 z.rs) := (cell_of_row _ _ 3 _ _ (0, 0) HZ3.out).trans rfl
              have u7 : w3.cell? ⟨w7.heap.size, 7, none⟩ = some (.slice ao q cc) := (cell_of_row _ _ 7 _ _ (0, 0) HG3.out).trans rfl
              obtain ⟨sl, hgs⟩ := HO3.out
              have hal : Below w3.heap.size w3 (w3.alloc (.cells #[.slice an nn cn, .int .i64 z.ser, .int .i64 z.tm, .int .i64 z.rs] 63)) := (Below.refl _ _).alloc (Nat.le_refl _) _
              have HG6 : Hid (GsO w (w7.heap.size + 1) (w3.alloc (.cells #[.slice an nn cn, .int .i64 z.ser, .int .i64 z.tm, .int .i64 z.rs] 63)) ao q cc (apA x.ents y.ents k) sl) := hgs.below hal
              have HR6 : Hid ((w3.alloc (.cells #[.slice an nn cn, .int .i64 z.ser, .int .i64 z.tm, .int .i64 z.rs] 63)).ownsRow (w7.heap.size + 1) 63 4 (.slice ao q cc) q (flG (apA x.ents y.ents k) sl q)) := HG6.out.row
              have hb6 : Below w7.heap.size w7 (w3.alloc (.cells #[.slice an nn cn, .int .i64 z.ser, .int .i64 z.tm, .int .i64 z.rs] 63)) := (HB3.out.2.1).trans (hal.mono (HB3.out.2.1).size)
              have hbx6 : (w3.alloc (.cells #[.slice an nn cn, .int .i64 z.ser, .int .i64 z.tm, .int .i64 z.rs] 63)).heap[w7.heap.size]? = some (.cells #[.slice p1 m1 f1, .int .i64 y.num, .int .i64 (-1), .int .i64 y.tm, .int .i64 y.next, .int .i64 y.scope, .bool y.ind, .slice ao q cc, .slice (some ⟨gs, 0, none⟩) 0 0] 36 (0, 0)) := (hal.block _ (Array.getElem?_eq_some_iff.1 HG3.out).1).trans HG3.out
              have HAPP : Hid (∀ aA cA wA, wA.ownsRow (w7.heap.size + 1) 63 4 (.slice aA (q + 1) cA) (q + 1) (flG (apA x.ents y.ents k) sl q ++ [.slice an nn cn, .int .i64 z.ser, .int .i64 z.tm, .int .i64 z.rs]) → (w3.alloc (.cells #[.slice an nn cn, .int .i64 z.ser, .int .i64 z.tm, .int .i64 z.rs] 63)).grownBy wA (Value.slice ao q cc).ownBlock → Hid (∃ sl, GsO w (w7.heap.size + 1) wA aA (q + 1) cA (apA x.ents y.ents (k + 1)) sl) ∧ Hid (Below w7.heap.size w7 wA) ∧ Hid (wA.heap[w7.heap.size]? = some (.cells #[.slice p1 m1 f1, .int .i64 y.num, .int .i64 (-1), .int .i64 y.tm, .int .i64 y.next, .int .i64 y.scope, .bool y.ind, .slice ao q cc, .slice (some ⟨gs, 0, none⟩) 0 0] 36 (0, 0)))) := by
                intro aA cA wA hvA hgA
                refine ⟨⟨fun j => if j = q then (an, nn, cn) else sl j, ?_⟩, hb6.grown hgA hb6.size (fun kx hx => Nat.le_trans (Nat.le_succ _) (HR6.out.lt kx hx).1), (hgA.block _ (Array.getElem?_eq_some_iff.1 hbx6).1 (fun e => ?_)).trans hbx6⟩
                · rw [HCE.out]
                  exact HG6.out.appended (y := z) HPT.out.1 HPT.out.2.1 HPT.out.2.2 hvA
                · have := (HR6.out.lt _ e.symm).1
                  omega
              have hs47 := (HB3.out.2.1).size
              have hl47 := (Array.getElem?_eq_some_iff.1 HG3.out).1
              clear hgs hal hb6 hbx6 HG6
              go_wp2_with (at_builtin; refine wpList_append_own _ rfl (.tmp 79) (.tmp 81) 34 rfl (w7.heap.size + 1) 63 i0 _ 4 48 Tryd.underlying34 hi hz0 hz1 hz2 rfl (by decide) _ q _ rfl HR6.out ⟨w3.heap.size, 0, none⟩ 1 1 [.slice an nn cn, .int .i64 z.ser, .int .i64 z.tm, .int .i64 z.rs] rfl rfl (World.news_of_block (heap_alloc_new w3 (.cells #[.slice an nn cn, .int .i64 z.ser, .int .i64 z.tm, .int .i64 z.rs] 63))) (by intro u hu; simp only [List.mem_cons, List.not_mem_nil, or_false] at hu; rcases hu with rfl | rfl | rfl | rfl <;> rfl) (by unfold maxLen; omega) (by omega) (by simp; omega) ?_; intro vA wA hvA hgA hsA; obtain ⟨gA, cA, rfl⟩ := ownsRow_succG hvA; have HNA := HAPP.out _ cA wA hvA hgA; have HN : Hid (_) := HNA; have zc7 : wA.cell? ⟨w7.heap.size, 7, none⟩ = some (.slice ao q cc) := (cell_of_row _ _ 7 _ _ (0, 0) HNA.2.2.out).trans rfl; have fc7 := frozen_of_row wA _ 7 _ _ HNA.2.2.out; clear hvA hgA hsA HNA HAPP HR6)
              clear u0 u1 u2 u3 u7 zc7 fc7
              have tt : Touch w7.heap.size (w7.heap.size + 1) wA (wA.setCell ⟨w7.heap.size, 7, none⟩ (.slice (some ⟨gA, 0, none⟩) (q + 1) cA)) := touch_setC _ _ _ _ (Nat.le_refl _) (Nat.lt_succ_self _)
              have HRL : Hid ((wA.setCell ⟨w7.heap.size, 7, none⟩ (.slice (some ⟨gA, 0, none⟩) (q + 1) cA)).heap[w7.heap.size]? = some (.cells #[.slice p1 m1 f1, .int .i64 y.num, .int .i64 (-1), .int .i64 y.tm, .int .i64 y.next, .int .i64 y.scope, .bool y.ind, .slice (some ⟨gA, 0, none⟩) (q + 1) cA, .slice (some ⟨gs, 0, none⟩) 0 0] 36 (0, 0)) ∧ _ ∧ _) := ⟨(heap_setCell_same wA w7.heap.size 7 _ _ _ HN.out.2.2.out).trans rfl, GsO.touch HN.out.1.out.choose_spec tt (Nat.le_refl _), HN.out.2.1.out.trans (tt.below (Nat.le_refl _) HN.out.2.1.out.size)⟩
              clear tt
              go_roundw
              case rel => exact ⟨k + 1, some ⟨gA, 0, none⟩, q + 1, cA, by omega, by omega, by go_num, HRL.out.1, ⟨_, HRL.out.2.1⟩, HRL.out.2.2⟩
              case measure => simp [intOf]; omega
          · have hnew : newE y.ents z = y.ents.getD j default := by unfold newE; rw [HB.out.1.en.len, hl]
            rw [hnew] at HCH
            obtain ⟨bx, ox, ax, nx, cx, rfl, hlx, hcx, hpx⟩ := HB.out.1.en.get j hj
            obtain ⟨hnlx, hn1x⟩ := HCB.out j hj bx ox ax nx cx rfl hcx.c0
            obtain ⟨u, hu⟩ : ∃ u, u = y.ents.getD j default := ⟨_, rfl⟩
            rw [← hu] at HCH hcx hpx
            have hbw3 : Below w.heap.size w w3 := HBW.out.trans (HB3.out.1.mono HBW.out.size)
            obtain ⟨g0, g1, g2, g3⟩ := hcx.of (w' := w3) (fun i => hbw3.cell (p := ⟨bx, i, none⟩) hlx)
            have HPU : Hid (Pts w ax nx u.parts ∧ (ax = none → cx = 0) ∧ nx ≤ 1048576) := ⟨hpx, hnlx, hn1x⟩
            have y7b : w3.cell? ⟨w.heap.size + 1, 7, none⟩ = some (.slice (some ⟨bx, ox, none⟩) m2 d2) := (cell_of_row _ _ 7 _ _ (0, 0) (HK.out _ HB3.out.1).2.1).trans rfl
            have hjn : (j : Int) < (m2 : Int) := by omega
            have hj0 : (0 : Int) ≤ (j : Int) := by omega
            have hlx3 : bx < w3.heap.size := Nat.lt_of_lt_of_le hlx hbw3.size
            clear hl hnew hcx hpx hnlx hn1x hu hbw3 hlx
            obtain ⟨w4, hw4⟩ : ∃ w4, w4 = w3.setRow wr.heap.size #[.slice ax nx cx, .int .i64 u.ser, .int .i64 u.tm, .int .i64 u.rs] := ⟨_, rfl⟩
            have t4 := setRow_touch w3 wr.heap.size #[.slice ax nx cx, .int .i64 u.ser, .int .i64 u.tm, .int .i64 u.rs]
            rw [← hw4] at t4
            have hz4 : w4.heap[wr.heap.size]? = some (.cells #[.slice ax nx cx, .int .i64 u.ser, .int .i64 u.tm, .int .i64 u.rs] 63 (0, 0)) := by rw [hw4]; exact setRow_heap w3 wr.heap.size _ _ _ (0, 0) HZ3.out
            have hlg : w7.heap.size < wr.heap.size := hgl
            have HG4 : Hid (w4.heap[w7.heap.size]? = some (.cells #[.slice p1 m1 f1, .int .i64 y.num, .int .i64 (-1), .int .i64 y.tm, .int .i64 y.next, .int .i64 y.scope, .bool y.ind, .slice ao q cc, .slice (some ⟨gs, 0, none⟩) 0 0] 36 (0, 0))) := (t4.block _ (Array.getElem?_eq_some_iff.1 HG3.out).1 (.inl hlg)).trans HG3.out
            have hb4r : Below wr.heap.size wr w4 := HB3.out.2.2.trans (t4.below (Nat.le_refl _) HB3.out.2.2.size)
            have HB4 : Hid (Below w7.heap.size w7 w4) := HB3.out.2.1.trans (t4.below (Nat.le_of_lt hlg) HB3.out.2.1.size)
            have HO4 : Hid (∃ sl, GsO w (w7.heap.size + 1) w4 ao q cc (apA x.ents y.ents k) sl) := ⟨_, HOR.out.choose_spec.below hb4r⟩
            have HZ4 : Hid (_ = _) := hz4
            have HW4 : Hid (_ = _) := hw4
            have HZ3' : Hid (_) := HZ3.out
            clear hw4 t4 hz4 hlg hb4r HG3 HO3
            go_upto_region 19 with (refine wpList_store_rowTo rfl 63 _ _ rfl rfl (wr.heap.size) #[.slice ax nx cx, .int .i64 u.ser, .int .i64 u.tm, .int .i64 u.rs] rfl rfl 63 #[.slice an nn cn, .int .i64 z.ser, .int .i64 z.tm, .int .i64 z.rs] HZ3'.out infoSizeGone rfl (by simp [Value.oneCell']) ?_)
            rw [← HW4.out]
            clear HW4 g0 g1 g2 g3 y7b HZ3 HZ3' hjn hj0 hlx3
            by_cases h7 : u.rs = 7
            · have HCE : Hid (apA x.ents y.ents (k + 1) = apA x.ents y.ents k) := by
                show _ = _
                rw [HCH.out, if_pos h7, List.append_nil]
              have u3 : w4.cell? ⟨wr.heap.size, 3, none⟩ = some (.int .i64 u.rs) := (cell_of_row _ _ 3 _ _ (0, 0) HZ4.out).trans rfl
              have t7 : (u.rs != 7) = false := by simp [h7]
              have t8 : decide (u.rs = 7) = true := by simp [h7]
              have H7 : Hid (u.rs = 7) := h7
              clear h7 HCH
              have HO9 : Hid (∃ sl, GsO w (w7.heap.size + 1) w4 ao q cc (apA x.ents y.ents (k + 1)) sl) := by show ∃ sl, _; rw [HCE.out]; exact HO4.out
              go_wp2_with fail
              go_roundw
              case rel => exact ⟨k + 1, ao, q, cc, by omega, by omega, by go_num, HG4.out, HO9.out, HB4.out⟩
              case measure => simp [intOf]; omega
            · have HCE : Hid (apA x.ents y.ents (k + 1) = apA x.ents y.ents k ++ [u]) := by
                show _ = _
                rw [HCH.out, if_neg h7]
              have t7 : (u.rs != 7) = true := by simp [h7]
              have t8 : decide (u.rs = 7) = false := by simp [h7]
              clear h7 HCH
              have u0 : w4.cell? ⟨wr.heap.size, 0, none⟩ = some (.slice ax nx cx) := (cell_of_row _ _ 0 _ _ (0, 0) HZ4.out).trans rfl
              have u1 : w4.cell? ⟨wr.heap.size, 1, none⟩ = some (.int .i64 u.ser) := (cell_of_row _ _ 1 _ _ (0, 0) HZ4.out).trans rfl
              have u2 : w4.cell? ⟨wr.heap.size, 2, none⟩ = some (.int .i64 u.tm) := (cell_of_row _ _ 2 _ _ (0, 0) HZ4.out).trans rfl
              have u3 : w4.cell? ⟨wr.heap.size, 3, none⟩ = some (.int .i64 u.rs) := (cell_of_row _ _ 3 _ _ (0, 0) HZ4.out).trans rfl
              have u7 : w4.cell? ⟨w7.heap.size, 7, none⟩ = some (.slice ao q cc) := (cell_of_row _ _ 7 _ _ (0, 0) HG4.out).trans rfl
              obtain ⟨sl, hgs⟩ := HO4.out
              have hal : Below w4.heap.size w4 (w4.alloc (.cells #[.slice ax nx cx, .int .i64 u.ser, .int .i64 u.tm, .int .i64 u.rs] 63)) := (Below.refl _ _).alloc (Nat.le_refl _) _
              have HG6 : Hid (GsO w (w7.heap.size + 1) (w4.alloc (.cells #[.slice ax nx cx, .int .i64 u.ser, .int .i64 u.tm, .int .i64 u.rs] 63)) ao q cc (apA x.ents y.ents k) sl) := hgs.below hal
              have HR6 : Hid ((w4.alloc (.cells #[.slice ax nx cx, .int .i64 u.ser, .int .i64 u.tm, .int .i64 u.rs] 63)).ownsRow (w7.heap.size + 1) 63 4 (.slice ao q cc) q (flG (apA x.ents y.ents k) sl q)) := HG6.out.row
              have hb6 : Below w7.heap.size w7 (w4.alloc (.cells #[.slice ax nx cx, .int .i64 u.ser, .int .i64 u.tm, .int .i64 u.rs] 63)) := (HB4.out).trans (hal.mono (HB4.out).size)
              have hbx6 : (w4.alloc (.cells #[.slice ax nx cx, .int .i64 u.ser, .int .i64 u.tm, .int .i64 u.rs] 63)).heap[w7.heap.size]? = some (.cells #[.slice p1 m1 f1, .int .i64 y.num, .int .i64 (-1), .int .i64 y.tm, .int .i64 y.next, .int .i64 y.scope, .bool y.ind, .slice ao q cc, .slice (some ⟨gs, 0, none⟩) 0 0] 36 (0, 0)) := (hal.block _ (Array.getElem?_eq_some_iff.1 HG4.out).1).trans HG4.out
              have HAPP : Hid (∀ aA cA wA, wA.ownsRow (w7.heap.size + 1) 63 4 (.slice aA (q + 1) cA) (q + 1) (flG (apA x.ents y.ents k) sl q ++ [.slice ax nx cx, .int .i64 u.ser, .int .i64 u.tm, .int .i64 u.rs]) → (w4.alloc (.cells #[.slice ax nx cx, .int .i64 u.ser, .int .i64 u.tm, .int .i64 u.rs] 63)).grownBy wA (Value.slice ao q cc).ownBlock → Hid (∃ sl, GsO w (w7.heap.size + 1) wA aA (q + 1) cA (apA x.ents y.ents (k + 1)) sl) ∧ Hid (Below w7.heap.size w7 wA) ∧ Hid (wA.heap[w7.heap.size]? = some (.cells #[.slice p1 m1 f1, .int .i64 y.num, .int .i64 (-1), .int .i64 y.tm, .int .i64 y.next, .int .i64 y.scope, .bool y.ind, .slice ao q cc, .slice (some ⟨gs, 0, none⟩) 0 0] 36 (0, 0)))) := by
                intro aA cA wA hvA hgA
                refine ⟨⟨fun j => if j = q then (ax, nx, cx) else sl j, ?_⟩, hb6.grown hgA hb6.size (fun kx hx => Nat.le_trans (Nat.le_succ _) (HR6.out.lt kx hx).1), (hgA.block _ (Array.getElem?_eq_some_iff.1 hbx6).1 (fun e => ?_)).trans hbx6⟩
                · rw [HCE.out]
                  exact HG6.out.appended (y := u) HPU.out.1 HPU.out.2.1 HPU.out.2.2 hvA
                · have := (HR6.out.lt _ e.symm).1
                  omega
              have hs47 := (HB4.out).size
              have hl47 := (Array.getElem?_eq_some_iff.1 HG4.out).1
              clear hgs hal hb6 hbx6 HG6
              go_wp2_with (at_builtin; refine wpList_append_own _ rfl (.tmp 79) (.tmp 81) 34 rfl (w7.heap.size + 1) 63 i0 _ 4 48 Tryd.underlying34 hi hz0 hz1 hz2 rfl (by decide) _ q _ rfl HR6.out ⟨w4.heap.size, 0, none⟩ 1 1 [.slice ax nx cx, .int .i64 u.ser, .int .i64 u.tm, .int .i64 u.rs] rfl rfl (World.news_of_block (heap_alloc_new w4 (.cells #[.slice ax nx cx, .int .i64 u.ser, .int .i64 u.tm, .int .i64 u.rs] 63))) (by intro u hu; simp only [List.mem_cons, List.not_mem_nil, or_false] at hu; rcases hu with rfl | rfl | rfl | rfl <;> rfl) (by unfold maxLen; omega) (by omega) (by simp; omega) ?_; intro vA wA hvA hgA hsA; obtain ⟨gA, cA, rfl⟩ := ownsRow_succG hvA; have HNA := HAPP.out _ cA wA hvA hgA; have HN : Hid (_) := HNA; have zc7 : wA.cell? ⟨w7.heap.size, 7, none⟩ = some (.slice ao q cc) := (cell_of_row _ _ 7 _ _ (0, 0) HNA.2.2.out).trans rfl; have fc7 := frozen_of_row wA _ 7 _ _ HNA.2.2.out; clear hvA hgA hsA HNA HAPP HR6)
              clear u0 u1 u2 u3 u7 zc7 fc7
              have tt : Touch w7.heap.size (w7.heap.size + 1) wA (wA.setCell ⟨w7.heap.size, 7, none⟩ (.slice (some ⟨gA, 0, none⟩) (q + 1) cA)) := touch_setC _ _ _ _ (Nat.le_refl _) (Nat.lt_succ_self _)
              have HRL : Hid ((wA.setCell ⟨w7.heap.size, 7, none⟩ (.slice (some ⟨gA, 0, none⟩) (q + 1) cA)).heap[w7.heap.size]? = some (.cells #[.slice p1 m1 f1, .int .i64 y.num, .int .i64 (-1), .int .i64 y.tm, .int .i64 y.next, .int .i64 y.scope, .bool y.ind, .slice (some ⟨gA, 0, none⟩) (q + 1) cA, .slice (some ⟨gs, 0, none⟩) 0 0] 36 (0, 0)) ∧ _ ∧ _) := ⟨(heap_setCell_same wA w7.heap.size 7 _ _ _ HN.out.2.2.out).trans rfl, GsO.touch HN.out.1.out.choose_spec tt (Nat.le_refl _), HN.out.2.1.out.trans (tt.below (Nat.le_refl _) HN.out.2.1.out.size)⟩
              clear tt
              go_roundw
              case rel => exact ⟨k + 1, some ⟨gA, 0, none⟩, q + 1, cA, by omega, by omega, by go_num, HRL.out.1, ⟨_, HRL.out.2.1⟩, HRL.out.2.2⟩
              case measure => simp [intOf]; omega
        · have hkm : n2 = k := by omega
          subst hkm
          have hni : ¬ ((n2 : Int) < (n2 : Int)) := by omega
          have y7 : wr.cell? ⟨w.heap.size + 1, 7, none⟩ = some (.slice b2 m2 d2) := (cell_of_row _ _ 7 _ _ (0, 0) (HK.out _ hbr1).2.1).trans rfl
          obtain ⟨wo, hwo⟩ : ∃ wo, wo = wr := ⟨_, rfl⟩
          subst hwo
          have HOO : Hid (∃ sl, GsO w (w7.heap.size + 1) wo ao q cc (apA x.ents y.ents n2 ++ apB x.ents y.ents 0) sl) := by
            show ∃ sl, _
            simp only [apB, List.append_nil]
            exact HO.out
          clear HO
          go_wp2_with fail
          clear x7 y7
          go_loopw [11] (fun i wr => ∃ (k : Nat) (ao : Option Addr) (q cc : Nat), k ≤ m2 ∧ q ≤ n2 + k ∧ i = .int .i64 k ∧ Hid (wr.heap[w7.heap.size]? = some (.cells #[.slice p1 m1 f1, .int .i64 y.num, .int .i64 (-1), .int .i64 y.tm, .int .i64 y.next, .int .i64 y.scope, .bool y.ind, .slice ao q cc, .slice (some ⟨gs, 0, none⟩) 0 0] 36 (0, 0))) ∧ Hid (∃ sl, GsO w (w7.heap.size + 1) wr ao q cc (apA x.ents y.ents n2 ++ apB x.ents y.ents k) sl) ∧ Below w7.heap.size w7 wr) (fun i _ => m2 - (intOf i).toNat)
          case atStart => exact ⟨0, ao, q, cc, Nat.zero_le _, hqk, rfl, HG.out, HOO.out, hbr⟩
          case round =>
            obtain ⟨k, ao2, q2', cc2, hk2, hqk2, rfl, HG2, HO2, hbr2⟩ := hrel
            clear HOO HG hbr hbr1 hbw
            have hbr1 : Below w1.heap.size w1 wr := HB7.out.trans (hbr2.mono HB7.out.size)
            have hbw : Below w.heap.size w wr := HBW.out.trans (hbr1.mono HBW.out.size)
            have y7 : wr.cell? ⟨w.heap.size + 1, 7, none⟩ = some (.slice b2 m2 d2) := (cell_of_row _ _ 7 _ _ (0, 0) (HK.out _ hbr1).2.1).trans rfl
            by_cases hlt2 : k < m2
            · obtain ⟨b, off, an, nn, cn, rfl, hlb, hc, hp⟩ := HB.out.1.en.get k hlt2
              obtain ⟨hnl, hn1⟩ := HCB.out k hlt2 b off an nn cn rfl hc.c0
              have hzk := HB.out.2.2.2.2.1 k hlt2
              have hek := HOK.out.2.1.2.1 k (by rw [HB.out.1.en.len]; exact hlt2)
              obtain ⟨z, hz⟩ : ∃ z, z = y.ents.getD k default := ⟨_, rfl⟩
              have HCH : Hid (apB x.ents y.ents (k + 1) = apB x.ents y.ents k ++ if (lastK x.ents (kb z) n2).isSome ∨ z.rs = 7 then [] else [z]) := by show _ = _; rw [hz, ← HA.out.1.en.len]; rfl
              rw [← hz] at hc hp hzk hek
              obtain ⟨e0, e1, e2, e3⟩ := hc.of (w' := wr) (fun i => hbw.cell (p := ⟨b, i, none⟩) hlb)
              have HPT : Hid (Pts w an nn z.parts ∧ (an = none → cn = 0) ∧ nn ≤ 1048576) := ⟨hp, hnl, hn1⟩
              have HZK : Hid (GpOk z ∧ kOk z) := ⟨hzk, entP_name hek, entP_wf hek⟩
              have hkni : (k : Int) < (m2 : Int) := by omega
              obtain ⟨W1, hW1⟩ : ∃ W1, W1 = wr.alloc (.cells #[.slice an nn cn, .int .i64 z.ser, .int .i64 z.tm, .int .i64 z.rs] 63) := ⟨_, rfl⟩
              have hal : Below wr.heap.size wr W1 := by rw [hW1]; exact (Below.refl _ _).alloc (Nat.le_refl _) _
              have hz1 : W1.heap[wr.heap.size]? = some (.cells #[.slice an nn cn, .int .i64 z.ser, .int .i64 z.tm, .int .i64 z.rs] 63 (0, 0)) := by rw [hW1]; exact heap_alloc_new wr _
              have hbW1 : Below w.heap.size w W1 := hbw.trans (hal.mono hbw.size)
              have M := l10At_any a2 n2 c2 x.ents an nn cn z W1 (HA.out.1.en.kept hbW1) HA.out.2.2.2.1 HA.out.2.2.2.2.1 (HPT.out.1.kept hbW1) HZK.out.1
              unfold gov at M
              have HM : Hid (_) := M
              have HBS : Hid (Below w1.heap.size w1 wr ∧ Below w7.heap.size w7 wr ∧ Below wr.heap.size wr W1) := ⟨hbr1, hbr2, hal⟩
              have HZ1 : Hid (_ = _) := hz1
              have HWW : Hid (_ = _) := hW1
              clear hc hp hz hnl hn1 hzk hek M hbr1 hbr2 hbw hal hz1 hbW1 hW1
              go_upto_region 25 with fail
              rw [← HWW.out]
              clear HWW e0 e1 e2 e3 y7
              have a7 : W1.cell? ⟨w.heap.size, 7, none⟩ = some (.slice a2 n2 c2) := (cell_of_row _ _ 7 _ _ (0, 0) (HK.out _ (HBS.out.1.trans (HBS.out.2.2.mono HBS.out.1.size))).1).trans rfl
              have q0 : W1.cell? ⟨wr.heap.size, 0, none⟩ = some (.slice an nn cn) := (cell_of_row _ _ 0 _ _ (0, 0) HZ1.out).trans rfl
              have q1 : W1.cell? ⟨wr.heap.size, 1, none⟩ = some (.int .i64 z.ser) := (cell_of_row _ _ 1 _ _ (0, 0) HZ1.out).trans rfl
              have q2 : W1.cell? ⟨wr.heap.size, 2, none⟩ = some (.int .i64 z.tm) := (cell_of_row _ _ 2 _ _ (0, 0) HZ1.out).trans rfl
              have q3 : W1.cell? ⟨wr.heap.size, 3, none⟩ = some (.int .i64 z.rs) := (cell_of_row _ _ 3 _ _ (0, 0) HZ1.out).trans rfl
              go_wp2_with fail
              refine Calls.mono HM.out ?_
              rintro e w3 ⟨v, rfl, hat, hb3⟩
              have hl1 := (Array.getElem?_eq_some_iff.1 HZ1.out).1
              have hz3 := (hb3.block _ hl1).trans HZ1.out
              have hb3r : Below wr.heap.size wr w3 := HBS.out.2.2.trans (hb3.mono HBS.out.2.2.size)
              have HB3 : Hid (Below w1.heap.size w1 w3 ∧ Below w7.heap.size w7 w3 ∧ Below wr.heap.size wr w3) := ⟨HBS.out.1.trans (hb3r.mono HBS.out.1.size), HBS.out.2.1.trans (hb3r.mono HBS.out.2.1.size), hb3r⟩
              have HZ3 : Hid (w3.heap[wr.heap.size]? = some (.cells #[.slice an nn cn, .int .i64 z.ser, .int .i64 z.tm, .int .i64 z.rs] 63 (0, 0))) := hz3
              have HAT := at_last HA.out.1.en.len (fun j hj => ⟨entP_name (HOK.out.1.2.1 j (by rw [HA.out.1.en.len]; exact hj)), entP_wf (HOK.out.1.2.1 j (by rw [HA.out.1.en.len]; exact hj))⟩) HZK.out.2 (fun i k hi hk => HOK.out.1.2.2 i k (by rw [HA.out.1.en.len]; exact hi) hk) hat.out
              clear hat hb3 hl1 hz3 hb3r HZ1 HM HBS q0 q1 q2 q3 a7
              have HG3 : Hid (w3.heap[w7.heap.size]? = some (.cells #[.slice p1 m1 f1, .int .i64 y.num, .int .i64 (-1), .int .i64 y.tm, .int .i64 y.next, .int .i64 y.scope, .bool y.ind, .slice ao2 q2' cc2, .slice (some ⟨gs, 0, none⟩) 0 0] 36 (0, 0))) := (HB3.out.2.2.block _ (Array.getElem?_eq_some_iff.1 HG2.out).1).trans HG2.out
              have HO3 : Hid (∃ sl, GsO w (w7.heap.size + 1) w3 ao2 q2' cc2 (apA x.ents y.ents n2 ++ apB x.ents y.ents k) sl) := ⟨_, HO2.out.choose_spec.below HB3.out.2.2⟩
              clear HG2 HO2
              rcases HAT with ⟨rfl, hl⟩ | ⟨j, hj, rfl, hl⟩
              · rw [hl] at HCH
                clear hl
                have hv : ((-1 : Int) < 0) := by decide
                have u3 : w3.cell? ⟨wr.heap.size, 3, none⟩ = some (.int .i64 z.rs) := (cell_of_row _ _ 3 _ _ (0, 0) HZ3.out).trans rfl
                by_cases h7 : z.rs = 7
                · have HCE : Hid (apA x.ents y.ents n2 ++ apB x.ents y.ents (k + 1) = apA x.ents y.ents n2 ++ apB x.ents y.ents k) := by
                    show _ = _
                    rw [HCH.out, if_pos (.inr h7), List.append_nil]
                  have t7 : (z.rs != 7) = false := by simp [h7]
                  have t8 : decide (z.rs = 7) = true := by simp [h7]
                  have H7 : Hid (z.rs = 7) := h7
                  clear h7 HCH
                  have HO9 : Hid (∃ sl, GsO w (w7.heap.size + 1) w3 ao2 q2' cc2 (apA x.ents y.ents n2 ++ apB x.ents y.ents (k + 1)) sl) := by show ∃ sl, _; rw [HCE.out]; exact HO3.out
                  go_wp2_with fail
                  go_roundw
                  case rel => exact ⟨k + 1, ao2, q2', cc2, by omega, by omega, by go_num, HG3.out, HO9.out, HB3.out.2.1⟩
                  case measure => simp [intOf]; omega
                · have HCE : Hid (apA x.ents y.ents n2 ++ apB x.ents y.ents (k + 1) = apA x.ents y.ents n2 ++ apB x.ents y.ents k ++ [z]) := by
                    show _ = _
                    rw [HCH.out, if_neg (by simp [h7]), List.append_assoc]
                  have t7 : (z.rs != 7) = true := by simp [h7]
                  have t8 : decide (z.rs = 7) = false := by simp [h7]
                  clear h7 HCH u3
                  have u0 : w3.cell? ⟨wr.heap.size, 0, none⟩ = some (.slice an nn cn) := (cell_of_row _ _ 0 _ _ (0, 0) HZ3.out).trans rfl
                  have u1 : w3.cell? ⟨wr.heap.size, 1, none⟩ = some (.int .i64 z.ser) := (cell_of_row _ _ 1 _ _ (0, 0) HZ3.out).trans rfl
                  have u2 : w3.cell? ⟨wr.heap.size, 2, none⟩ = some (.int .i64 z.tm) := (cell_of_row _ _ 2 _ _ (0, 0) HZ3.out).trans rfl
                  have u3 : w3.cell? ⟨wr.heap.size, 3, none⟩ = some (.int .i64 z.rs) := (cell_of_row _ _ 3 _ _ (0, 0) HZ3.out).trans rfl
                  have u7 : w3.cell? ⟨w7.heap.size, 7, none⟩ = some (.slice ao2 q2' cc2) := (cell_of_row _ _ 7 _ _ (0, 0) HG3.out).trans rfl
                  obtain ⟨sl, hgs⟩ := HO3.out
                  have hal : Below w3.heap.size w3 (w3.alloc (.cells #[.slice an nn cn, .int .i64 z.ser, .int .i64 z.tm, .int .i64 z.rs] 63)) := (Below.refl _ _).alloc (Nat.le_refl _) _
                  have HG6 : Hid (GsO w (w7.heap.size + 1) (w3.alloc (.cells #[.slice an nn cn, .int .i64 z.ser, .int .i64 z.tm, .int .i64 z.rs] 63)) ao2 q2' cc2 (apA x.ents y.ents n2 ++ apB x.ents y.ents k) sl) := hgs.below hal
                  have HR6 : Hid ((w3.alloc (.cells #[.slice an nn cn, .int .i64 z.ser, .int .i64 z.tm, .int .i64 z.rs] 63)).ownsRow (w7.heap.size + 1) 63 4 (.slice ao2 q2' cc2) q2' (flG (apA x.ents y.ents n2 ++ apB x.ents y.ents k) sl q2')) := HG6.out.row
                  have hb6 : Below w7.heap.size w7 (w3.alloc (.cells #[.slice an nn cn, .int .i64 z.ser, .int .i64 z.tm, .int .i64 z.rs] 63)) := (HB3.out.2.1).trans (hal.mono (HB3.out.2.1).size)
                  have hbx6 : (w3.alloc (.cells #[.slice an nn cn, .int .i64 z.ser, .int .i64 z.tm, .int .i64 z.rs] 63)).heap[w7.heap.size]? = some (.cells #[.slice p1 m1 f1, .int .i64 y.num, .int .i64 (-1), .int .i64 y.tm, .int .i64 y.next, .int .i64 y.scope, .bool y.ind, .slice ao2 q2' cc2, .slice (some ⟨gs, 0, none⟩) 0 0] 36 (0, 0)) := (hal.block _ (Array.getElem?_eq_some_iff.1 HG3.out).1).trans HG3.out
                  have HAPP : Hid (∀ aA cA wA, wA.ownsRow (w7.heap.size + 1) 63 4 (.slice aA (q2' + 1) cA) (q2' + 1) (flG (apA x.ents y.ents n2 ++ apB x.ents y.ents k) sl q2' ++ [.slice an nn cn, .int .i64 z.ser, .int .i64 z.tm, .int .i64 z.rs]) → (w3.alloc (.cells #[.slice an nn cn, .int .i64 z.ser, .int .i64 z.tm, .int .i64 z.rs] 63)).grownBy wA (Value.slice ao2 q2' cc2).ownBlock → Hid (∃ sl, GsO w (w7.heap.size + 1) wA aA (q2' + 1) cA (apA x.ents y.ents n2 ++ apB x.ents y.ents (k + 1)) sl) ∧ Hid (Below w7.heap.size w7 wA) ∧ Hid (wA.heap[w7.heap.size]? = some (.cells #[.slice p1 m1 f1, .int .i64 y.num, .int .i64 (-1), .int .i64 y.tm, .int .i64 y.next, .int .i64 y.scope, .bool y.ind, .slice ao2 q2' cc2, .slice (some ⟨gs, 0, none⟩) 0 0] 36 (0, 0)))) := by
                    intro aA cA wA hvA hgA
                    refine ⟨⟨fun j => if j = q2' then (an, nn, cn) else sl j, ?_⟩, hb6.grown hgA hb6.size (fun kx hx => Nat.le_trans (Nat.le_succ _) (HR6.out.lt kx hx).1), (hgA.block _ (Array.getElem?_eq_some_iff.1 hbx6).1 (fun e => ?_)).trans hbx6⟩
                    · rw [HCE.out]
                      exact HG6.out.appended (y := z) HPT.out.1 HPT.out.2.1 HPT.out.2.2 hvA
                    · have := (HR6.out.lt _ e.symm).1
                      omega
                  have hs47 := (HB3.out.2.1).size
                  have hl47 := (Array.getElem?_eq_some_iff.1 HG3.out).1
                  clear hgs hal hb6 hbx6 HG6
                  go_wp2_with (at_builtin; refine wpList_append_own _ rfl (.tmp 107) (.tmp 109) 34 rfl (w7.heap.size + 1) 63 i0 _ 4 48 Tryd.underlying34 hi hz0 hz1 hz2 rfl (by decide) _ q2' _ rfl HR6.out ⟨w3.heap.size, 0, none⟩ 1 1 [.slice an nn cn, .int .i64 z.ser, .int .i64 z.tm, .int .i64 z.rs] rfl rfl (World.news_of_block (heap_alloc_new w3 (.cells #[.slice an nn cn, .int .i64 z.ser, .int .i64 z.tm, .int .i64 z.rs] 63))) (by intro u hu; simp only [List.mem_cons, List.not_mem_nil, or_false] at hu; rcases hu with rfl | rfl | rfl | rfl <;> rfl) (by unfold maxLen; omega) (by omega) (by simp; omega) ?_; intro vA wA hvA hgA hsA; obtain ⟨gA, cA, rfl⟩ := ownsRow_succG hvA; have HNA := HAPP.out _ cA wA hvA hgA; have HN : Hid (_) := HNA; have zc7 : wA.cell? ⟨w7.heap.size, 7, none⟩ = some (.slice ao2 q2' cc2) := (cell_of_row _ _ 7 _ _ (0, 0) HNA.2.2.out).trans rfl; have fc7 := frozen_of_row wA _ 7 _ _ HNA.2.2.out; clear hvA hgA hsA HNA HAPP HR6)
                  clear u0 u1 u2 u3 u7 zc7 fc7
                  have tt : Touch w7.heap.size (w7.heap.size + 1) wA (wA.setCell ⟨w7.heap.size, 7, none⟩ (.slice (some ⟨gA, 0, none⟩) (q2' + 1) cA)) := touch_setC _ _ _ _ (Nat.le_refl _) (Nat.lt_succ_self _)
                  have HRL : Hid ((wA.setCell ⟨w7.heap.size, 7, none⟩ (.slice (some ⟨gA, 0, none⟩) (q2' + 1) cA)).heap[w7.heap.size]? = some (.cells #[.slice p1 m1 f1, .int .i64 y.num, .int .i64 (-1), .int .i64 y.tm, .int .i64 y.next, .int .i64 y.scope, .bool y.ind, .slice (some ⟨gA, 0, none⟩) (q2' + 1) cA, .slice (some ⟨gs, 0, none⟩) 0 0] 36 (0, 0)) ∧ _ ∧ _) := ⟨(heap_setCell_same wA w7.heap.size 7 _ _ _ HN.out.2.2.out).trans rfl, GsO.touch HN.out.1.out.choose_spec tt (Nat.le_refl _), HN.out.2.1.out.trans (tt.below (Nat.le_refl _) HN.out.2.1.out.size)⟩
                  clear tt
                  go_roundw
                  case rel => exact ⟨k + 1, some ⟨gA, 0, none⟩, q2' + 1, cA, by omega, by omega, by go_num, HRL.out.1, ⟨_, HRL.out.2.1⟩, HRL.out.2.2⟩
                  case measure => simp [intOf]; omega
              · have HCE : Hid (apA x.ents y.ents n2 ++ apB x.ents y.ents (k + 1) = apA x.ents y.ents n2 ++ apB x.ents y.ents k) := by
                  show _ = _
                  rw [HCH.out, hl, if_pos (.inl rfl), List.append_nil]
                have hv : ¬ ((j : Int) < 0) := by omega
                have hvd : decide ((j : Int) < 0) = false := by simp
                clear hl HCH
                have HO9 : Hid (∃ sl, GsO w (w7.heap.size + 1) w3 ao2 q2' cc2 (apA x.ents y.ents n2 ++ apB x.ents y.ents (k + 1)) sl) := by show ∃ sl, _; rw [HCE.out]; exact HO3.out
                go_wp2_with fail
                go_roundw
                case rel => exact ⟨k + 1, ao2, q2', cc2, by omega, by omega, by go_num, HG3.out, HO9.out, HB3.out.2.1⟩
                case measure => simp [intOf]; omega
            · have hkn : m2 = k := by omega
              subst hkn
              have hni2 : ¬ ((m2 : Int) < (m2 : Int)) := by omega
              have hEq : apl x.ents y.ents = apA x.ents y.ents n2 ++ apB x.ents y.ents m2 := by
                unfold apl
                rw [HA.out.1.en.len, HB.out.1.en.len]
              obtain ⟨sl, hgs⟩ := HO2.out
              rw [← hEq] at hgs
              have hql := hgs.len
              subst hql
              have HGS : Hid (_) := hgs
              have u7 : wr.cell? ⟨w7.heap.size, 7, none⟩ = some (.slice ao2 (apl x.ents y.ents).length cc2) := (cell_of_row _ _ 7 _ _ (0, 0) HG2.out).trans rfl
              have HBR : Hid (Below w1.heap.size w1 wr ∧ Below w7.heap.size w7 wr ∧ Below w.heap.size w wr) := ⟨hbr1, hbr2, hbw⟩
              have hl47 := (Array.getElem?_eq_some_iff.1 HG2.out).1
              clear hgs hEq hbr1 hbr2 hbw HO2
              by_cases h60 : 60 < (apl x.ents y.ents).length
              · have hni6 : (60 : Int) < ((apl x.ents y.ents).length : Int) := by omega
                have H60 : Hid (_) := h60
                clear h60
                go_wp2_with (refine wpList_store_rowTo rfl 36 _ _ rfl rfl (w.heap.size + 2) #[.slice none 0 0, .int .i64 0, .int .i64 0, .int .i64 0, .int .i64 0, .int .i64 0, .bool false, .slice none 0 0, .slice none 0 0] rfl rfl 36 #[.slice none 0 0, .int .i64 0, .int .i64 0, .int .i64 0, .int .i64 0, .int .i64 0, .bool false, .slice none 0 0, .slice none 0 0] (HK.out _ HBR.out.1).2.2 infoSizeCrl rfl (by simp [Value.oneCell']) ?_)
                have q6 := setRow_heap wr (w.heap.size + 2) _ #[.slice none 0 0, .int .i64 0, .int .i64 0, .int .i64 0, .int .i64 0, .int .i64 0, .bool false, .slice none 0 0, .slice none 0 0] 36 (0, 0) (HK.out _ HBR.out.1).2.2
                have tt := setRow_touch wr (w.heap.size + 2) #[.slice none 0 0, .int .i64 0, .int .i64 0, .int .i64 0, .int .i64 0, .int .i64 0, .bool false, .slice none 0 0, .slice none 0 0]
                try simp only [Exit.inBlock, Exit.then]
                exact bodyPost_ret (results_crl2 (by rfl) _ (w.heap.size + 2) rfl _ _ rfl q6) rfl (fun z m n cd hr => by obtain ⟨rfl, rfl, rfl, rfl⟩ := apR_full HOK.out HF0.out (by have := H4.out; omega) H60.out hr; exact ansS_zero (HBR.out.2.2.trans (tt.below (by omega) HBR.out.2.2.size)))
              · have hni6 : ¬ (60 : Int) < ((apl x.ents y.ents).length : Int) := by omega
                have H60 : Hid (_) := h60
                have hle : (apl x.ents y.ents).length ≤ 60 := by omega
                clear h60
                go_wp2_with fail
                refine (l10Gones_any ao2 (apl x.ents y.ents).length cc2 (apl x.ents y.ents) wr (HGS.out.gns HBR.out.2.2 (by omega)) (by omega) HGS.out.caps).mono ?_
                rintro e w20 ⟨aF, cF, sF, rfl, hE, hEl, hb20⟩
                have hg20 := (hb20.block _ hl47).trans HG2.out
                have v7 : w20.cell? ⟨w7.heap.size, 7, none⟩ = some (.slice ao2 (apl x.ents y.ents).length cc2) := (cell_of_row _ _ 7 _ _ (0, 0) hg20).trans rfl
                have fv7 := frozen_of_row w20 _ 7 _ _ hg20
                obtain ⟨w21, hw21⟩ : ∃ w21, w21 = w20.setCell ⟨w7.heap.size, 7, none⟩ (.slice aF (apl x.ents y.ents).length cF) := ⟨_, rfl⟩
                have hg21 : w21.heap[w7.heap.size]? = some (.cells #[.slice p1 m1 f1, .int .i64 y.num, .int .i64 (-1), .int .i64 y.tm, .int .i64 y.next, .int .i64 y.scope, .bool y.ind, .slice aF (apl x.ents y.ents).length cF, .slice (some ⟨gs, 0, none⟩) 0 0] 36 (0, 0)) := by rw [hw21]; exact (heap_setCell_same w20 w7.heap.size 7 _ _ _ hg20).trans rfl
                have t21 : Touch w7.heap.size (w7.heap.size + 1) w20 w21 := by rw [hw21]; exact touch_setC _ _ _ _ (Nat.le_refl _) (Nat.lt_succ_self _)
                have hb7 := HBR.out.2.1.trans (hb20.mono HBR.out.2.1.size)
                have HB21 : Hid (Below w7.heap.size w7 w21) := hb7.trans (t21.below (Nat.le_refl _) hb7.size)
                have HE21 : Hid (EachQ wr.heap.size w21 aF (apl x.ents y.ents).length cF (apl x.ents y.ents) sF) := hE.touchC t21 hl47
                have HEL : Hid (_) := hEl
                have HG21 : Hid (_) := hg21
                have HB1 : Hid (Below w1.heap.size w1 w21) := HB7.out.trans (HB21.out.mono HB7.out.size)
                have HW21 : Hid (_ = _) := hw21
                clear hw21 hg20 hg21 t21 hb7 hE hEl hb20 HG2
                go_upto_region 30 with fail
                rw [← HW21.out]
                clear HW21 v7 fv7 u7
                go_wp2_with (first | (refine wpList_load_row rfl 36 _ rfl (w7.heap.size) rfl 36 #[.slice p1 m1 f1, .int .i64 y.num, .int .i64 (-1), .int .i64 y.tm, .int .i64 y.next, .int .i64 y.scope, .bool y.ind, .slice aF (apl x.ents y.ents).length cF, .slice (some ⟨gs, 0, none⟩) 0 0] (0, 0) _ HG21.out Tryd.underlying36 rfl infoSizeCrl ?_) | (refine wpList_store_rowTo rfl 36 _ _ rfl rfl (w.heap.size + 2) #[.slice p1 m1 f1, .int .i64 y.num, .int .i64 (-1), .int .i64 y.tm, .int .i64 y.next, .int .i64 y.scope, .bool y.ind, .slice aF (apl x.ents y.ents).length cF, .slice (some ⟨gs, 0, none⟩) 0 0] rfl rfl 36 #[.slice none 0 0, .int .i64 0, .int .i64 0, .int .i64 0, .int .i64 0, .int .i64 0, .bool false, .slice none 0 0, .slice none 0 0] (HK.out _ HB1.out).2.2 infoSizeCrl rfl (by simp [Value.oneCell']) ?_))
                have q6 := setRow_heap w21 (w.heap.size + 2) _ #[.slice p1 m1 f1, .int .i64 y.num, .int .i64 (-1), .int .i64 y.tm, .int .i64 y.next, .int .i64 y.scope, .bool y.ind, .slice aF (apl x.ents y.ents).length cF, .slice (some ⟨gs, 0, none⟩) 0 0] 36 (0, 0) (HK.out _ HB1.out).2.2
                have tt := setRow_touch w21 (w.heap.size + 2) #[.slice p1 m1 f1, .int .i64 y.num, .int .i64 (-1), .int .i64 y.tm, .int .i64 y.next, .int .i64 y.scope, .bool y.ind, .slice aF (apl x.ents y.ents).length cF, .slice (some ⟨gs, 0, none⟩) 0 0]
                try simp only [Exit.inBlock, Exit.then]
                have hss := HS67.out
                have B3 := HBW.out.trans (HB1.out.mono HBW.out.size)
                have hlen : wr.heap.size ≥ w.heap.size + 3 := by omega
                have hnm := owns_monoC (B' := w.heap.size) (owns_touchC (ownsRow_below HNM.out HB21.out) tt (by omega)) (by omega)
                have hen := ((HE21.out.touchC tt (by omega)).monoC (B' := w.heap.size) (by omega)).own
                exact bodyPost_ret (results_crl2 (by rfl) _ (w.heap.size + 2) rfl _ _ rfl q6) rfl (fun z m n cd hr => by
                  obtain ⟨rfl, rfl, rfl, rfl⟩ := apR_made HOK.out HF0.out (by have := H4.out; omega) H60.out hr
                  exact ⟨p1, f1, aF, cF, some ⟨gs, 0, none⟩, 0, rfl, ⟨sF, fun _ => hnm, hen, HB.out.1.nm.len, rfl, rfl, HEL.out⟩, B3.trans (tt.below (by omega) B3.size)⟩)
    · have HF : Hid (fitV x y ≠ 0) := hf
      obtain ⟨fv, hfv⟩ : ∃ fv, fv = fitV x y := ⟨_, rfl⟩
      rw [← hfv] at hf ⊢
      have HFV : Hid (_ = _) := hfv
      clear hfv
      go_wp2_with (refine wpList_store_rowTo rfl 36 _ _ rfl rfl (w.heap.size + 2) #[.slice none 0 0, .int .i64 0, .int .i64 0, .int .i64 0, .int .i64 0, .int .i64 0, .bool false, .slice none 0 0, .slice none 0 0] rfl rfl 36 #[.slice none 0 0, .int .i64 0, .int .i64 0, .int .i64 0, .int .i64 0, .int .i64 0, .bool false, .slice none 0 0, .slice none 0 0] (HK.out _ HB6.out).2.2 infoSizeCrl rfl (by simp [Value.oneCell']) ?_)
      have q6 := setRow_heap w6 (w.heap.size + 2) _ #[.slice none 0 0, .int .i64 0, .int .i64 0, .int .i64 0, .int .i64 0, .int .i64 0, .bool false, .slice none 0 0, .slice none 0 0] 36 (0, 0) (HK.out _ HB6.out).2.2
      have tt := setRow_touch w6 (w.heap.size + 2) #[.slice none 0 0, .int .i64 0, .int .i64 0, .int .i64 0, .int .i64 0, .int .i64 0, .bool false, .slice none 0 0, .slice none 0 0]
      try simp only [Exit.inBlock, Exit.then]
      have B3 := HBW.out.trans (HB6.out.mono HBW.out.size)
      exact bodyPost_ret (results_crl2 (by rfl) _ (w.heap.size + 2) rfl _ _ rfl q6) rfl (fun z m n cd hr => by obtain ⟨rfl, rfl, rfl, rfl⟩ := apR_fit HOK.out HF.out hr; rw [← HFV.out]; exact ansS_zero (B3.trans (tt.below (by omega) B3.size)))

end Go.Proofs.YtbfjkmlmnhphoaaDoor
