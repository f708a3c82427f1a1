import Derived.Test.YtbfjkmlmnhphoaaDoorCC11
import Derived.Test.YtbfjkmlmnhphoaaDoorGCC7MJ0
import Derived.BigQuiet
set_option linter.unusedVariables false
namespace Go.Proofs.YtbfjkmlmnhphoaaDoor
open Go.RowKit Go.Sort

/-- What l10At answers against the last of its key. -/
theorem at_last {xs : List GP} {z : GP} {v : Int} {n : Nat} (hl : xs.length = n) (hp : ∀ j, j < n → kOk (xs.getD j default)) (hz : kOk z) (hd : ∀ i k, i < n → k < i → ¬ likeP (xs.getD k default) (xs.getD i default)) (h : AtP xs z v) : (v = -1 ∧ lastK xs (kb z) n = none) ∨ ∃ j : Nat, j < n ∧ v = j ∧ lastK xs (kb z) n = some j := by
  rcases h with ⟨rfl, hno⟩ | ⟨k, hk, rfl, hlk, hf⟩
  · refine .inl ⟨rfl, ?_⟩
    cases e : lastK xs (kb z) n with
    | none => rfl
    | some j =>
      obtain ⟨h1, h2⟩ := lastK_lt e
      exact absurd ((kOk_like (hp j h1) hz).1 h2) (hno j (by omega))
  · refine .inr ⟨k, by omega, rfl, ?_⟩
    have hkn : k < n := by omega
    have hkk := (kOk_like (hp k hkn) hz).2 hlk
    cases e : lastK xs (kb z) n with
    | none => exact absurd hkk (lastK_none e k hkn)
    | some j =>
      obtain ⟨h1, h2⟩ := lastK_lt e
      have hjk : kb (xs.getD j default) = kb (xs.getD k default) := h2.trans hkk.symm
      rcases Nat.lt_trichotomy j k with q | q | q
      · exact absurd ((kOk_like (hp j h1) (hp k hkn)).1 hjk) (hd k j hkn q)
      · rw [q]
      · exact absurd ((kOk_like (hp k hkn) (hp j h1)).1 hjk.symm) (hd j k h1 q)
/-- What the specification answers. -/
def SdQ (x y : CP) (m1 : Nat) (w : World) (e : Ending) (w' : World) : Prop :=
  Below w.heap.size w w' ∧ ((¬ OkP x y ∧ e = .returned (.tuple #[crv none 0 0 none 0 0 none 0 0 zeroC, .int .i64 1])) ∨ (OkP x y ∧ fitV x y ≠ 0 ∧ e = .returned (.tuple #[crv none 0 0 none 0 0 none 0 0 zeroC, .int .i64 (fitV x y)])) ∨ (OkP x y ∧ fitV x y = 0 ∧ 60 < (chgs x.ents y.ents y.tm).length ∧ e = .returned (.tuple #[crv none 0 0 none 0 0 none 0 0 zeroC, .int .i64 5])) ∨ (OkP x y ∧ fitV x y = 0 ∧ ¬ 60 < (chgs x.ents y.ents y.tm).length ∧ ∃ p1 f1 p2 f2 p3 f3, e = .returned (.tuple #[crv p1 m1 f1 p2 (chgs x.ents y.ents y.tm).length f2 p3 0 f3 (noSig (dlV x y)), .int .i64 0]) ∧ AnS w.heap.size w' p1 m1 f1 p2 (chgs x.ents y.ents y.tm).length f2 (noSig (dlV x y))))

set_option maxRecDepth 10000 in
set_option maxHeartbeats 8000000 in
theorem specMakeDelta_any (a1 : Option Addr) (n1 c1 : Nat) (a2 : Option Addr) (n2 c2 : Nat) (a3 : Option Addr) (n3 c3 : Nat) (x : CP) (b1 : Option Addr) (m1 d1 : Nat) (b2 : Option Addr) (m2 d2 : Nat) (b3 : Option Addr) (m3 d3 : Nat) (y : CP) (w : World) (h : Crs w a1 n1 a2 n2 a3 n3 x) (h' : Crs w b1 m1 b2 m2 b3 m3 y) (hz : CpOk n1 n2 n3 x) (hz' : CpOk m1 m2 m3 y) (hn1 : b1 = none → d1 = 0) (hn3 : b3 = none → d3 = 0)
    (hc : ∀ k, k < n2 → ∀ b off an nn cn, a2 = some ⟨b, off, none⟩ → w.cell? ⟨b, off + k * 4, none⟩ = some (.slice an nn cn) → (an = none → cn = 0) ∧ nn ≤ 1048576)
    (hc' : ∀ k, k < m2 → ∀ b off an nn cn, b2 = some ⟨b, off, none⟩ → w.cell? ⟨b, off + k * 4, none⟩ = some (.slice an nn cn) → (an = none → cn = 0) ∧ nn ≤ 1048576) :
    Calls Tryd.prog 12 #[crv a1 n1 c1 a2 n2 c2 a3 n3 c3 x, crv b1 m1 d1 b2 m2 d2 b3 m3 d3 y] w fun e w' => SdQ x y m1 w e w' := by
  obtain ⟨i0, hi, hz0, hz1, hz2⟩ := info_parts Tryd.infoGone
  obtain ⟨w1, hw1⟩ : ∃ w1, w1 = ((w.alloc (.cells #[.slice a1 n1 c1, .int .i64 x.num, .int .i64 x.base, .int .i64 x.tm, .int .i64 x.next, .int .i64 x.scope, .bool x.ind, .slice a2 n2 c2, .slice a3 n3 c3] 36)).alloc (.cells #[.slice b1 m1 d1, .int .i64 y.num, .int .i64 y.base, .int .i64 y.tm, .int .i64 y.next, .int .i64 y.scope, .bool y.ind, .slice b2 m2 d2, .slice b3 m3 d3] 36)).alloc (.cells #[.slice none 0 0, .int .i64 0, .int .i64 0, .int .i64 0, .int .i64 0, .int .i64 0, .bool false, .slice none 0 0, .slice none 0 0] 36) := ⟨_, rfl⟩
  have hbb : Below w.heap.size w w1 := by rw [hw1]; exact (((Below.refl _ _).alloc (Nat.le_refl _) _).alloc (by simp) _).alloc (by simp; omega) _
  have hB1 := three_blocks' w (.cells #[.slice a1 n1 c1, .int .i64 x.num, .int .i64 x.base, .int .i64 x.tm, .int .i64 x.next, .int .i64 x.scope, .bool x.ind, .slice a2 n2 c2, .slice a3 n3 c3] 36) (.cells #[.slice b1 m1 d1, .int .i64 y.num, .int .i64 y.base, .int .i64 y.tm, .int .i64 y.next, .int .i64 y.scope, .bool y.ind, .slice b2 m2 d2, .slice b3 m3 d3] 36) (.cells #[.slice none 0 0, .int .i64 0, .int .i64 0, .int .i64 0, .int .i64 0, .int .i64 0, .bool false, .slice none 0 0, .slice none 0 0] 36)
  rw [← hw1] at hB1
  have hs1 : w1.heap.size = w.heap.size + 3 := by rw [hw1]; simp
  have HK : Hid (∀ W, Below w1.heap.size w1 W → W.heap[w.heap.size]? = some (.cells #[.slice a1 n1 c1, .int .i64 x.num, .int .i64 x.base, .int .i64 x.tm, .int .i64 x.next, .int .i64 x.scope, .bool x.ind, .slice a2 n2 c2, .slice a3 n3 c3] 36 (0, 0)) ∧ W.heap[w.heap.size + 1]? = some (.cells #[.slice b1 m1 d1, .int .i64 y.num, .int .i64 y.base, .int .i64 y.tm, .int .i64 y.next, .int .i64 y.scope, .bool y.ind, .slice b2 m2 d2, .slice b3 m3 d3] 36 (0, 0)) ∧ W.heap[w.heap.size + 2]? = some (.cells #[.slice none 0 0, .int .i64 0, .int .i64 0, .int .i64 0, .int .i64 0, .int .i64 0, .bool false, .slice none 0 0, .slice none 0 0] 36 (0, 0))) := fun W hb => ⟨(hb.block _ (by omega)).trans hB1.1, (hb.block _ (by omega)).trans hB1.2.1, (hb.block _ (by omega)).trans hB1.2.2⟩
  have HA : Hid (Crs w a1 n1 a2 n2 a3 n3 x ∧ CpOk n1 n2 n3 x) := ⟨h, hz⟩
  have HB : Hid (Crs w b1 m1 b2 m2 b3 m3 y ∧ CpOk m1 m2 m3 y) := ⟨h', hz'⟩
  have HCA : Hid (∀ k, k < n2 → ∀ b off an nn cn, a2 = some ⟨b, off, none⟩ → w.cell? ⟨b, off + k * 4, none⟩ = some (.slice an nn cn) → (an = none → cn = 0) ∧ nn ≤ 1048576) := hc
  have HCB : Hid (∀ k, k < m2 → ∀ b off an nn cn, b2 = some ⟨b, off, none⟩ → w.cell? ⟨b, off + k * 4, none⟩ = some (.slice an nn cn) → (an = none → cn = 0) ∧ nn ≤ 1048576) := hc'
  have HBW : Hid (Below w.heap.size w w1) := hbb
  have HS1 : Hid (_ = _) := hs1
  have HW : Hid (_ = _) := hw1
  have COX : ∀ W, Below w1.heap.size w1 W → _ := fun W hb => specCrlOk_any a1 n1 c1 a2 n2 c2 a3 n3 c3 x W (HA.out.1.kept (HBW.out.trans (hb.mono HBW.out.size))) HA.out.2
  have COY : ∀ W, Below w1.heap.size w1 W → _ := fun W hb => specCrlOk_any b1 m1 d1 b2 m2 d2 b3 m3 d3 y W (HB.out.1.kept (HBW.out.trans (hb.mono HBW.out.size))) HB.out.2
  have FLW : ∀ W, Below w1.heap.size w1 W → _ := fun W hb => l10Fit_any a1 n1 c1 a2 n2 c2 a3 n3 c3 x b1 m1 d1 b2 m2 d2 b3 m3 d3 y W (HA.out.1.kept (HBW.out.trans (hb.mono HBW.out.size))).nm (HB.out.1.kept (HBW.out.trans (hb.mono HBW.out.size))).nm HA.out.2.2.1 HB.out.2.2.1
  have HCC : Hid (∀ W, Below w.heap.size w W → ∀ k, k < m2 → ∀ b off an nn cn, b2 = some ⟨b, off, none⟩ → W.cell? ⟨b, off + k * 4, none⟩ = some (.slice an nn cn) → (an = none → cn = 0) ∧ nn ≤ 1048576) := fun W hb2 k hk b off an nn cn e hq => by
    refine HCB.out k hk b off an nn cn e ?_
    obtain ⟨b', off', _, _, _, e', hlt, _⟩ := HB.out.1.en.get k hk
    rw [e] at e'
    simp only [Option.some.injEq, Addr.mk.injEq] at e'
    obtain ⟨rfl, _, _⟩ := e'
    rw [← hb2.cell (p := ⟨b, off + k * 4, none⟩) hlt]
    exact hq
  have CPY : ∀ W, Below w1.heap.size w1 W → _ := fun W hb => l10Copy_any b1 m1 d1 b2 m2 d2 b3 m3 d3 y W (HB.out.1.kept (HBW.out.trans (hb.mono HBW.out.size))) HB.out.2 hn1 hn3 (HCC.out W (HBW.out.trans (hb.mono HBW.out.size)))
  unfold crv at COX COY FLW CPY
  have HOX : Hid (_) := COX
  have HOY : Hid (_) := COY
  have HFL : Hid (_) := FLW
  have HCP : Hid (_) := CPY
  clear hw1 hB1 hbb hs1 h h' hz hz' hn1 hn3 hc hc' COX COY FLW CPY
  unfold crv
  go_enter Tryd.func12, Tryd.ntmps12
  go_upto_region 1 with fail
  rw [← HW.out]
  clear HW
  go_cut [30] (fun c wx => ∃ bq : Bool, c = .bool bq ∧ Hid ((bq = false ↔ OkP x y) ∧ Below w1.heap.size w1 wx))
  case first =>
    go_wp2_with (refine wpList_load_row rfl 36 _ rfl (w.heap.size) rfl 36 #[.slice a1 n1 c1, .int .i64 x.num, .int .i64 x.base, .int .i64 x.tm, .int .i64 x.next, .int .i64 x.scope, .bool x.ind, .slice a2 n2 c2, .slice a3 n3 c3] (0, 0) _ (HK.out _ (Below.refl _ _)).1 Tryd.underlying36 rfl infoSizeCrl ?_)
    refine Calls.mono (HOX.out w1 (Below.refl _ _)) ?_
    rintro e w2 ⟨e1, rfl, hp1, hb2⟩
    cases e1 with
    | false =>
      go_wp2_with fail
      go_meet
      exact ⟨true, rfl, ⟨⟨fun e => (by cases e), fun e => absurd (hp1.out.2 e.1) (by decide)⟩, hb2⟩⟩
    | true =>
      have p0 : w2.cell? ⟨w.heap.size + 1, 0, none⟩ = some (.slice b1 m1 d1) := (cell_of_row _ _ 0 _ _ (0, 0) (HK.out _ hb2).2.1).trans rfl
      have p1 : w2.cell? ⟨w.heap.size + 1, 1, none⟩ = some (.int .i64 y.num) := (cell_of_row _ _ 1 _ _ (0, 0) (HK.out _ hb2).2.1).trans rfl
      have p2 : w2.cell? ⟨w.heap.size + 1, 2, none⟩ = some (.int .i64 y.base) := (cell_of_row _ _ 2 _ _ (0, 0) (HK.out _ hb2).2.1).trans rfl
      have p3 : w2.cell? ⟨w.heap.size + 1, 3, none⟩ = some (.int .i64 y.tm) := (cell_of_row _ _ 3 _ _ (0, 0) (HK.out _ hb2).2.1).trans rfl
      have p4 : w2.cell? ⟨w.heap.size + 1, 4, none⟩ = some (.int .i64 y.next) := (cell_of_row _ _ 4 _ _ (0, 0) (HK.out _ hb2).2.1).trans rfl
      have p5 : w2.cell? ⟨w.heap.size + 1, 5, none⟩ = some (.int .i64 y.scope) := (cell_of_row _ _ 5 _ _ (0, 0) (HK.out _ hb2).2.1).trans rfl
      have p6 : w2.cell? ⟨w.heap.size + 1, 6, none⟩ = some (.bool y.ind) := (cell_of_row _ _ 6 _ _ (0, 0) (HK.out _ hb2).2.1).trans rfl
      have p7 : w2.cell? ⟨w.heap.size + 1, 7, none⟩ = some (.slice b2 m2 d2) := (cell_of_row _ _ 7 _ _ (0, 0) (HK.out _ hb2).2.1).trans rfl
      have p8 : w2.cell? ⟨w.heap.size + 1, 8, none⟩ = some (.slice b3 m3 d3) := (cell_of_row _ _ 8 _ _ (0, 0) (HK.out _ hb2).2.1).trans rfl
      go_wp2_with fail
      clear p0 p1 p2 p3 p4 p5 p6 p7 p8
      refine Calls.mono (HOY.out w2 hb2) ?_
      rintro e w3 ⟨e2, rfl, hp2, hb3⟩
      have hb3r := hb2.trans (hb3.mono hb2.size)
      cases e2 with
      | false =>
        go_wp2_with fail
        go_meet
        exact ⟨true, rfl, ⟨⟨fun e => (by cases e), fun e => absurd (hp2.out.2 e.2.1) (by decide)⟩, hb3r⟩⟩
      | true =>
        have hX : crlP x := hp1.out.1 (by first | exact trivial | rfl)
        have hY : crlP y := hp2.out.1 (by first | exact trivial | rfl)
        have hx0 := hX.1.2.2.1.1
        have hy0 := hY.1.2.2.1.1
        have HXY : Hid (crlP x ∧ crlP y) := ⟨hX, hY⟩
        clear hp1 hp2 hX hY
        have x2 : w3.cell? ⟨w.heap.size, 2, none⟩ = some (.int .i64 x.base) := (cell_of_row _ _ 2 _ _ (0, 0) (HK.out _ hb3r).1).trans rfl
        have y2 : w3.cell? ⟨w.heap.size + 1, 2, none⟩ = some (.int .i64 y.base) := (cell_of_row _ _ 2 _ _ (0, 0) (HK.out _ hb3r).2.1).trans rfl
        by_cases hxb : (0 : Int) ≤ x.base
        · go_wp2_with fail
          go_meet
          exact ⟨true, rfl, ⟨⟨fun e => (by cases e), fun e => absurd e.2.2.1 (by omega)⟩, hb3r⟩⟩
        · by_cases hyb : (0 : Int) ≤ y.base
          · go_wp2_with fail
            go_meet
            exact ⟨true, rfl, ⟨⟨fun e => (by cases e), fun e => absurd e.2.2.2 (by omega)⟩, hb3r⟩⟩
          · go_wp2_with fail
            go_meet
            exact ⟨decide (0 ≤ x.base) || decide (0 ≤ y.base), rfl, ⟨⟨fun _ => ⟨HXY.out.1, HXY.out.2, by omega, by omega⟩, fun _ => by simp [hxb, hyb]⟩, hb3r⟩⟩
  case rest =>
  obtain ⟨bq, rfl, hbq⟩ := hcut
  cases bq with
  | true =>
    have HNO : Hid (¬ OkP x y) := fun e => absurd (hbq.out.1.2 e) (by decide)
    have HBX : Hid (Below w1.heap.size w1 wc) := hbq.out.2
    clear hbq
    go_wp2_with (refine wpList_store_rowTo rfl 36 _ _ rfl rfl (w.heap.size + 2) #[.slice none 0 0, .int .i64 0, .int .i64 0, .int .i64 0, .int .i64 0, .int .i64 0, .bool false, .slice none 0 0, .slice none 0 0] rfl rfl 36 #[.slice none 0 0, .int .i64 0, .int .i64 0, .int .i64 0, .int .i64 0, .int .i64 0, .bool false, .slice none 0 0, .slice none 0 0] (HK.out _ HBX.out).2.2 infoSizeCrl rfl (by simp [Value.oneCell']) ?_)
    have q6 := setRow_heap wc (w.heap.size + 2) _ #[.slice none 0 0, .int .i64 0, .int .i64 0, .int .i64 0, .int .i64 0, .int .i64 0, .bool false, .slice none 0 0, .slice none 0 0] 36 (0, 0) (HK.out _ HBX.out).2.2
    have tt := setRow_touch wc (w.heap.size + 2) #[.slice none 0 0, .int .i64 0, .int .i64 0, .int .i64 0, .int .i64 0, .int .i64 0, .bool false, .slice none 0 0, .slice none 0 0]
    try simp only [Exit.inBlock, Exit.then]
    have B3 := HBW.out.trans (HBX.out.mono HBW.out.size)
    exact bodyPost_ret (results_crl2 (by rfl) _ (w.heap.size + 2) rfl _ _ rfl q6) rfl ⟨B3.trans (tt.below (by omega) B3.size), .inl ⟨HNO.out, rfl⟩⟩
  | false =>
    have HOK : Hid (OkP x y) := hbq.out.1.1 rfl
    have HBX : Hid (Below w1.heap.size w1 wc) := hbq.out.2
    clear hbq
    go_wp2_with (first | (refine wpList_load_row rfl 36 _ rfl (w.heap.size) rfl 36 #[.slice a1 n1 c1, .int .i64 x.num, .int .i64 x.base, .int .i64 x.tm, .int .i64 x.next, .int .i64 x.scope, .bool x.ind, .slice a2 n2 c2, .slice a3 n3 c3] (0, 0) _ (HK.out _ HBX.out).1 Tryd.underlying36 rfl infoSizeCrl ?_) | (refine wpList_load_row rfl 36 _ rfl (w.heap.size + 1) rfl 36 #[.slice b1 m1 d1, .int .i64 y.num, .int .i64 y.base, .int .i64 y.tm, .int .i64 y.next, .int .i64 y.scope, .bool y.ind, .slice b2 m2 d2, .slice b3 m3 d3] (0, 0) _ (HK.out _ HBX.out).2.1 Tryd.underlying36 rfl infoSizeCrl ?_))
    refine Calls.mono (HFL.out wc HBX.out) ?_
    rintro e w6 ⟨rfl, hb6⟩
    have HB6 : Hid (Below w1.heap.size w1 w6) := HBX.out.trans (hb6.mono HBX.out.size)
    clear hb6
    by_cases hf : fitV x y = 0
    · have HF0 : Hid (fitV x y = 0) := hf
      rw [hf]
      clear hf
      go_wp2_with (refine wpList_load_row rfl 36 _ rfl (w.heap.size + 1) rfl 36 #[.slice b1 m1 d1, .int .i64 y.num, .int .i64 y.base, .int .i64 y.tm, .int .i64 y.next, .int .i64 y.scope, .bool y.ind, .slice b2 m2 d2, .slice b3 m3 d3] (0, 0) _ (HK.out _ HB6.out).2.1 Tryd.underlying36 rfl infoSizeCrl ?_)
      refine Calls.mono (HCP.out w6 HB6.out) ?_
      rintro e w7 ⟨p1, f1, p2, f2, p3, f3, rfl, hcr, hnm, hb7⟩
      have HB7 : Hid (Below w1.heap.size w1 w7) := HB6.out.trans (hb7.mono HB6.out.size)
      have HNM : Hid (w7.ownsRow w6.heap.size 107 2 (.slice p1 m1 f1) m1 (flPt y.parts)) := hnm
      have HS67 : Hid (w.heap.size + 3 ≤ w6.heap.size ∧ w6.heap.size ≤ w7.heap.size) := by have q1 := HB6.out.size; have q2 := HS1.out; have q3 := hb7.size; exact ⟨by omega, q3⟩
      clear hb7 hcr hnm
      obtain ⟨w8, hw8⟩ : ∃ w8, w8 = w7.alloc (.cells #[.slice p1 m1 f1, .int .i64 y.num, .int .i64 y.base, .int .i64 y.tm, .int .i64 y.next, .int .i64 y.scope, .bool y.ind, .slice p2 m2 f2, .slice p3 m3 f3] 36) := ⟨_, rfl⟩
      have hb8 : Below w7.heap.size w7 w8 := by rw [hw8]; exact (Below.refl _ _).alloc (Nat.le_refl _) _
      have hg8 : w8.heap[w7.heap.size]? = some (.cells #[.slice p1 m1 f1, .int .i64 y.num, .int .i64 y.base, .int .i64 y.tm, .int .i64 y.next, .int .i64 y.scope, .bool y.ind, .slice p2 m2 f2, .slice p3 m3 f3] 36 (0, 0)) := by rw [hw8]; exact heap_alloc_new w7 _
      have hs8 : w8.heap.size = w7.heap.size + 1 := by rw [hw8]; simp
      have n1' : w8.cell? ⟨w.heap.size, 1, none⟩ = some (.int .i64 x.num) := (cell_of_row _ _ 1 _ _ (0, 0) (HK.out _ (HB7.out.trans (hb8.mono HB7.out.size))).1).trans rfl
      have z2 : w8.cell? ⟨w7.heap.size, 2, none⟩ = some (.int .i64 y.base) := (cell_of_row _ _ 2 _ _ (0, 0) hg8).trans rfl
      have fz2 := frozen_of_row w8 _ 2 _ _ hg8
      have HW8 : Hid (_ = _) := hw8
      clear hw8
      go_upto_region 7 with fail
      rw [← HW8.out]
      clear HW8
      obtain ⟨w9, hw9⟩ : ∃ w9, w9 = w8.setCell ⟨w7.heap.size, 2, none⟩ (.int .i64 x.num) := ⟨_, rfl⟩
      have hg9 : w9.heap[w7.heap.size]? = some (.cells #[.slice p1 m1 f1, .int .i64 y.num, .int .i64 x.num, .int .i64 y.tm, .int .i64 y.next, .int .i64 y.scope, .bool y.ind, .slice p2 m2 f2, .slice p3 m3 f3] 36 (0, 0)) := by rw [hw9]; exact (heap_setCell_same w8 w7.heap.size 2 _ _ _ hg8).trans rfl
      have t9 : Touch w7.heap.size (w7.heap.size + 1) w8 w9 := by rw [hw9]; exact touch_setC _ _ _ _ (Nat.le_refl _) (Nat.lt_succ_self _)
      have hb9 : Below w7.heap.size w7 w9 := hb8.trans (t9.below (Nat.le_refl _) hb8.size)
      have hs9 : w7.heap.size < w9.heap.size := by have := t9.size; omega
      have HW9 : Hid (_ = _) := hw9
      clear hw9 t9 hb8 hg8 hs8
      go_upto_region 8 with fail
      rw [← HW9.out]
      clear HW9 n1' z2 fz2
      have z8 : w9.cell? ⟨w7.heap.size, 8, none⟩ = some (.slice p3 m3 f3) := (cell_of_row _ _ 8 _ _ (0, 0) hg9).trans rfl
      have fz8 := frozen_of_row w9 _ 8 _ _ hg9
      have hal9 : Below w9.heap.size w9 (w9.alloc (.cells #[] 5)) := (Below.refl _ _).alloc (Nat.le_refl _) _
      have hg9' : (w9.alloc (.cells #[] 5)).heap[w7.heap.size]? = some (.cells #[.slice p1 m1 f1, .int .i64 y.num, .int .i64 x.num, .int .i64 y.tm, .int .i64 y.next, .int .i64 y.scope, .bool y.ind, .slice p2 m2 f2, .slice p3 m3 f3] 36 (0, 0)) := (hal9.block _ hs9).trans hg9
      have z8a : (w9.alloc (.cells #[] 5)).cell? ⟨w7.heap.size, 8, none⟩ = some (.slice p3 m3 f3) := (cell_of_row _ _ 8 _ _ (0, 0) hg9').trans rfl
      have fz8a := frozen_of_row (w9.alloc (.cells #[] 5)) _ 8 _ _ hg9'
      obtain ⟨gs, hgs⟩ : ∃ gs, gs = w9.heap.size := ⟨_, rfl⟩
      obtain ⟨w10, hw10⟩ : ∃ w10, w10 = (w9.alloc (.cells #[] 5)).setCell ⟨w7.heap.size, 8, none⟩ (.slice (some ⟨w9.heap.size, 0, none⟩) 0 0) := ⟨_, rfl⟩
      have hg10 : w10.heap[w7.heap.size]? = some (.cells #[.slice p1 m1 f1, .int .i64 y.num, .int .i64 x.num, .int .i64 y.tm, .int .i64 y.next, .int .i64 y.scope, .bool y.ind, .slice p2 m2 f2, .slice (some ⟨gs, 0, none⟩) 0 0] 36 (0, 0)) := by rw [hw10, hgs]; exact (heap_setCell_same _ w7.heap.size 8 _ _ _ hg9').trans rfl
      have t10 : Touch w7.heap.size (w7.heap.size + 1) (w9.alloc (.cells #[] 5)) w10 := by rw [hw10]; exact touch_setC _ _ _ _ (Nat.le_refl _) (Nat.lt_succ_self _)
      have hb9a : Below w7.heap.size w7 (w9.alloc (.cells #[] 5)) := hb9.trans (hal9.mono hb9.size)
      have hb10 : Below w7.heap.size w7 w10 := hb9a.trans (t10.below (Nat.le_refl _) hb9a.size)
      have hs10 : gs + 1 ≤ w10.heap.size := by have := t10.size; simp at this; omega
      have hsg : w10.heap[gs]? = some (.cells #[] 5 (0, 0)) := by rw [hgs]; exact (t10.block _ (by simp) (.inr (by omega))).trans (heap_alloc_new w9 _)
      have hgl : w7.heap.size < gs := by omega
      have HGSZ : Hid (w9.heap.size = gs) := hgs.symm
      have HW10 : Hid (_ = _) := hw10
      clear hw10 t10 hb9 hg9 hal9 hg9' hb9a hs9 hgs
      go_upto_region 9 with fail
      rw [← HW10.out, HGSZ.out]
      clear HW10 z8 fz8 z8a fz8a HGSZ
      have z7 : w10.cell? ⟨w7.heap.size, 7, none⟩ = some (.slice p2 m2 f2) := (cell_of_row _ _ 7 _ _ (0, 0) hg10).trans rfl
      have fz7 := frozen_of_row w10 _ 7 _ _ hg10
      have hal10 : Below w10.heap.size w10 (w10.alloc (.cells #[] 63)) := (Below.refl _ _).alloc (Nat.le_refl _) _
      have hg10' : (w10.alloc (.cells #[] 63)).heap[w7.heap.size]? = some (.cells #[.slice p1 m1 f1, .int .i64 y.num, .int .i64 x.num, .int .i64 y.tm, .int .i64 y.next, .int .i64 y.scope, .bool y.ind, .slice p2 m2 f2, .slice (some ⟨gs, 0, none⟩) 0 0] 36 (0, 0)) := (hal10.block _ (by omega)).trans hg10
      have z7a : (w10.alloc (.cells #[] 63)).cell? ⟨w7.heap.size, 7, none⟩ = some (.slice p2 m2 f2) := (cell_of_row _ _ 7 _ _ (0, 0) hg10').trans rfl
      have fz7a := frozen_of_row (w10.alloc (.cells #[] 63)) _ 7 _ _ hg10'
      obtain ⟨w11, hw11⟩ : ∃ w11, w11 = (w10.alloc (.cells #[] 63)).setCell ⟨w7.heap.size, 7, none⟩ (.slice (some ⟨w10.heap.size, 0, none⟩) 0 0) := ⟨_, rfl⟩
      have t11 : Touch w7.heap.size (w7.heap.size + 1) (w10.alloc (.cells #[] 63)) w11 := by rw [hw11]; exact touch_setC _ _ _ _ (Nat.le_refl _) (Nat.lt_succ_self _)
      have hb10a : Below w7.heap.size w7 (w10.alloc (.cells #[] 63)) := hb10.trans (hal10.mono hb10.size)
      have HB11 : Hid (Below w7.heap.size w7 w11) := hb10a.trans (t11.below (Nat.le_refl _) hb10a.size)
      have HG11 : Hid (w11.heap[w7.heap.size]? = some (.cells #[.slice p1 m1 f1, .int .i64 y.num, .int .i64 x.num, .int .i64 y.tm, .int .i64 y.next, .int .i64 y.scope, .bool y.ind, .slice (some ⟨w10.heap.size, 0, none⟩) 0 0, .slice (some ⟨gs, 0, none⟩) 0 0] 36 (0, 0))) := by show _ = _; rw [hw11]; exact (heap_setCell_same _ w7.heap.size 7 _ _ _ hg10').trans rfl
      have HSG : Hid (w11.heap[gs]? = some (.cells #[] 5 (0, 0)) ∧ w7.heap.size < gs) := ⟨(t11.block _ (by simp; omega) (.inr (by omega))).trans ((hal10.block _ (by omega)).trans hsg), hgl⟩
      have HGO : Hid (GsO w (w7.heap.size + 1) w11 (some ⟨w10.heap.size, 0, none⟩) 0 0 (chA x.ents y.ents 0) (fun _ => (none, 0, 0))) := by
        have q : (w10.alloc (.cells #[] 63)).ownsRow (w7.heap.size + 1) 63 4 (.slice (some ⟨w10.heap.size, 0, none⟩) 0 0) 0 [] := World.ownsRow_lit w10 #[] 0 (by omega) (by decide) rfl
        exact GsO.touch ⟨rfl, q, fun j hj => absurd hj (Nat.not_lt_zero _)⟩ t11 (Nat.le_refl _)
      have HW11 : Hid (_ = _) := hw11
      clear hw11 t11 hb10 hg10 hal10 hg10' hb10a hsg hs10 hgl
      go_upto_region 10 with fail
      rw [← HW11.out]
      clear HW11 z7 fz7 z7a fz7a
      have n7 : w11.cell? ⟨w.heap.size + 1, 7, none⟩ = some (.slice b2 m2 d2) := (cell_of_row _ _ 7 _ _ (0, 0) (HK.out _ (HB7.out.trans (HB11.out.mono HB7.out.size))).2.1).trans rfl
      have hm2 : m2 ≤ 60 := by have := HOK.out.2.1.1.2.2.2.2.2.2.2.1; rw [HB.out.1.en.len] at this; exact this
      have hn2 : n2 ≤ 60 := by have := HOK.out.1.1.2.2.2.2.2.2.2.1; rw [HA.out.1.en.len] at this; exact this
      go_wp2_with fail
      clear n7
      go_loopw [8] (fun i wr => ∃ (k : Nat) (ao : Option Addr) (q cc : Nat), k ≤ m2 ∧ q ≤ k ∧ i = .int .i64 k ∧ Hid (wr.heap[w7.heap.size]? = some (.cells #[.slice p1 m1 f1, .int .i64 y.num, .int .i64 x.num, .int .i64 y.tm, .int .i64 y.next, .int .i64 y.scope, .bool y.ind, .slice ao q cc, .slice (some ⟨gs, 0, none⟩) 0 0] 36 (0, 0))) ∧ Hid (∃ sl, GsO w (w7.heap.size + 1) wr ao q cc (chA x.ents y.ents k) sl) ∧ Below w7.heap.size w7 wr) (fun i _ => m2 - (intOf i).toNat)
      case atStart => exact ⟨0, _, 0, 0, Nat.zero_le _, Nat.le_refl _, rfl, HG11.out, ⟨_, HGO.out⟩, HB11.out⟩
      case round =>
        obtain ⟨k, ao, q, cc, hk, hqk, rfl, HG, HO, hbr⟩ := hrel
        have hbr1 : Below w1.heap.size w1 wr := HB7.out.trans (hbr.mono HB7.out.size)
        have hbw : Below w.heap.size w wr := HBW.out.trans (hbr1.mono HBW.out.size)
        have y7 : wr.cell? ⟨w.heap.size + 1, 7, none⟩ = some (.slice b2 m2 d2) := (cell_of_row _ _ 7 _ _ (0, 0) (HK.out _ hbr1).2.1).trans rfl
        by_cases hlt : k < m2
        · obtain ⟨b, off, an, nn, cn, rfl, hlb, hc, hp⟩ := HB.out.1.en.get k hlt
          obtain ⟨hnl, hn1⟩ := HCB.out k hlt b off an nn cn rfl hc.c0
          have hzk := HB.out.2.2.2.2.1 k hlt
          have hek := HOK.out.2.1.2.1 k (by rw [HB.out.1.en.len]; exact hlt)
          obtain ⟨z, hz⟩ : ∃ z, z = y.ents.getD k default := ⟨_, rfl⟩
          have HCH : Hid (chA x.ents y.ents (k + 1) = chA x.ents y.ents k ++ if sameE x.ents z then [] else [z]) := by show _ = _; rw [hz]; rfl
          rw [← hz] at hc hp hzk hek
          obtain ⟨e0, e1, e2, e3⟩ := hc.of (w' := wr) (fun i => hbw.cell (p := ⟨b, i, none⟩) hlb)
          have HPT : Hid (Pts w an nn z.parts ∧ (an = none → cn = 0) ∧ nn ≤ 1048576) := ⟨hp, hnl, hn1⟩
          have HZK : Hid (GpOk z ∧ kOk z) := ⟨hzk, entP_name hek, entP_wf hek⟩
          have hkni : (k : Int) < (m2 : Int) := by omega
          obtain ⟨W1, hW1⟩ : ∃ W1, W1 = wr.alloc (.cells #[.slice an nn cn, .int .i64 z.ser, .int .i64 z.tm, .int .i64 z.rs] 63) := ⟨_, rfl⟩
          have hal : Below wr.heap.size wr W1 := by rw [hW1]; exact (Below.refl _ _).alloc (Nat.le_refl _) _
          have hz1 : W1.heap[wr.heap.size]? = some (.cells #[.slice an nn cn, .int .i64 z.ser, .int .i64 z.tm, .int .i64 z.rs] 63 (0, 0)) := by rw [hW1]; exact heap_alloc_new wr _
          have hbW1 : Below w.heap.size w W1 := hbw.trans (hal.mono hbw.size)
          have M := l10At_any a2 n2 c2 x.ents an nn cn z W1 (HA.out.1.en.kept hbW1) HA.out.2.2.2.1 HA.out.2.2.2.2.1 (HPT.out.1.kept hbW1) HZK.out.1
          unfold gov at M
          have HM : Hid (_) := M
          have HBS : Hid (Below w1.heap.size w1 wr ∧ Below w7.heap.size w7 wr ∧ Below wr.heap.size wr W1) := ⟨hbr1, hbr, hal⟩
          have HZ1 : Hid (_ = _) := hz1
          have HWW : Hid (_ = _) := hW1
          clear hc hp hz hnl hn1 hzk hek M hbr1 hbr hbw hal hz1 hbW1 hW1
          go_upto_region 14 with fail
          rw [← HWW.out]
          clear HWW e0 e1 e2 e3 y7
          have a7 : W1.cell? ⟨w.heap.size, 7, none⟩ = some (.slice a2 n2 c2) := (cell_of_row _ _ 7 _ _ (0, 0) (HK.out _ (HBS.out.1.trans (HBS.out.2.2.mono HBS.out.1.size))).1).trans rfl
          have q0 : W1.cell? ⟨wr.heap.size, 0, none⟩ = some (.slice an nn cn) := (cell_of_row _ _ 0 _ _ (0, 0) HZ1.out).trans rfl
          have q1 : W1.cell? ⟨wr.heap.size, 1, none⟩ = some (.int .i64 z.ser) := (cell_of_row _ _ 1 _ _ (0, 0) HZ1.out).trans rfl
          have q2 : W1.cell? ⟨wr.heap.size, 2, none⟩ = some (.int .i64 z.tm) := (cell_of_row _ _ 2 _ _ (0, 0) HZ1.out).trans rfl
          have q3 : W1.cell? ⟨wr.heap.size, 3, none⟩ = some (.int .i64 z.rs) := (cell_of_row _ _ 3 _ _ (0, 0) HZ1.out).trans rfl
          go_wp2_with fail
          refine Calls.mono HM.out ?_
          rintro e w3 ⟨v, rfl, hat, hb3⟩
          have hl1 := (Array.getElem?_eq_some_iff.1 HZ1.out).1
          have hz3 := (hb3.block _ hl1).trans HZ1.out
          have hb3r : Below wr.heap.size wr w3 := HBS.out.2.2.trans (hb3.mono HBS.out.2.2.size)
          have HB3 : Hid (Below w1.heap.size w1 w3 ∧ Below w7.heap.size w7 w3) := ⟨HBS.out.1.trans (hb3r.mono HBS.out.1.size), HBS.out.2.1.trans (hb3r.mono HBS.out.2.1.size)⟩
          have HG3 : Hid (w3.heap[w7.heap.size]? = some (.cells #[.slice p1 m1 f1, .int .i64 y.num, .int .i64 x.num, .int .i64 y.tm, .int .i64 y.next, .int .i64 y.scope, .bool y.ind, .slice ao q cc, .slice (some ⟨gs, 0, none⟩) 0 0] 36 (0, 0))) := (hb3r.block _ (Array.getElem?_eq_some_iff.1 HG.out).1).trans HG.out
          have HO3 : Hid (∃ sl, GsO w (w7.heap.size + 1) w3 ao q cc (chA x.ents y.ents k) sl) := ⟨_, HO.out.choose_spec.below hb3r⟩
          have HZ3 : Hid (_ = _) := hz3
          have HAT := at_last HA.out.1.en.len (fun j hj => ⟨entP_name (HOK.out.1.2.1 j (by rw [HA.out.1.en.len]; exact hj)), entP_wf (HOK.out.1.2.1 j (by rw [HA.out.1.en.len]; exact hj))⟩) HZK.out.2 (fun i k hi hk => HOK.out.1.2.2 i k (by rw [HA.out.1.en.len]; exact hi) hk) hat.out
          clear hat hb3 hl1 hz3 hb3r HG HO HZ1 HM HBS q0 q1 q2 q3 a7
          go_upto_region 15 with fail
          have a7 : w3.cell? ⟨w.heap.size, 7, none⟩ = some (.slice a2 n2 c2) := (cell_of_row _ _ 7 _ _ (0, 0) (HK.out _ HB3.out.1).1).trans rfl
          have q2 : w3.cell? ⟨wr.heap.size, 2, none⟩ = some (.int .i64 z.tm) := (cell_of_row _ _ 2 _ _ (0, 0) HZ3.out).trans rfl
          have q3 : w3.cell? ⟨wr.heap.size, 3, none⟩ = some (.int .i64 z.rs) := (cell_of_row _ _ 3 _ _ (0, 0) HZ3.out).trans rfl
          go_cut [87] (fun c wx => ∃ bq : Bool, c = .bool bq ∧ Hid (bq = (!sameE x.ents z) ∧ Below w3.heap.size w3 wx))
          case first =>
            rcases HAT with ⟨rfl, hl⟩ | ⟨j, hj, rfl, hl⟩
            · have HS : Hid (sameE x.ents z = false) := by show _ = _; unfold sameE; rw [HA.out.1.en.len, hl]
              clear hl
              have hv : ((-1 : Int) < 0) := by decide
              go_quiet (fail)
              go_wp2
              go_meet
              exact ⟨true, rfl, ⟨by rw [HS.out]; rfl, ⟨rfl, rfl, rfl, Nat.le_refl _, fun _ _ => rfl⟩⟩⟩
            · have HS : Hid (sameE x.ents z = (decide ((x.ents.getD j default).tm = z.tm) && decide ((x.ents.getD j default).rs = z.rs))) := by show _ = _; unfold sameE; rw [HA.out.1.en.len, hl]
              obtain ⟨bx, ox, ax, nx, cx, rfl, hlx, hcx, hpx⟩ := HA.out.1.en.get j hj
              have hbw3 : Below w.heap.size w w3 := HBW.out.trans (HB3.out.1.mono HBW.out.size)
              obtain ⟨t, ht⟩ : ∃ t, t = (x.ents.getD j default).tm := ⟨_, rfl⟩
              obtain ⟨r, hr⟩ : ∃ r, r = (x.ents.getD j default).rs := ⟨_, rfl⟩
              rw [← ht, ← hr] at HS
              have g2 : w3.cell? ⟨bx, ox + j * 4 + 2, none⟩ = some (.int .i64 t) := by rw [ht]; exact (hbw3.cell (p := ⟨bx, ox + j * 4 + 2, none⟩) hlx).trans hcx.c2
              have g3 : w3.cell? ⟨bx, ox + j * 4 + 3, none⟩ = some (.int .i64 r) := by rw [hr]; exact (hbw3.cell (p := ⟨bx, ox + j * 4 + 3, none⟩) hlx).trans hcx.c3
              have hjn : (j : Int) < (n2 : Int) := by omega
              have hj0 : ¬ ((j : Int) < 0) := by omega
              clear hl hbw3 hcx hpx ht hr hlx
              by_cases h1 : t = z.tm
              · subst h1
                by_cases h2 : r = z.rs
                · subst h2
                  go_quiet (fail)
                  go_wp2
                  go_meet
                  exact ⟨false, rfl, ⟨by rw [HS.out]; simp, ⟨rfl, rfl, rfl, Nat.le_refl _, fun _ _ => rfl⟩⟩⟩
                · have H2 : Hid (r ≠ z.rs) := h2
                  have z2 : (r != z.rs) = true := by simp [h2]
                  clear h2
                  go_quiet (fail)
                  go_wp2
                  go_meet
                  exact ⟨true, rfl, ⟨by rw [HS.out]; simp [H2.out], ⟨rfl, rfl, rfl, Nat.le_refl _, fun _ _ => rfl⟩⟩⟩
              · have H1 : Hid (t ≠ z.tm) := h1
                have z1 : (t != z.tm) = true := by simp [h1]
                clear h1
                go_quiet (fail)
                go_wp2
                go_meet
                exact ⟨true, rfl, ⟨by rw [HS.out]; simp [H1.out], ⟨rfl, rfl, rfl, Nat.le_refl _, fun _ _ => rfl⟩⟩⟩
          case rest =>
          obtain ⟨bq, rfl, hbq⟩ := hcut
          obtain ⟨hbq1, hbx⟩ := hbq.out
          have HB4 : Hid (Below w1.heap.size w1 wc ∧ Below w7.heap.size w7 wc) := ⟨HB3.out.1.trans (hbx.mono HB3.out.1.size), HB3.out.2.trans (hbx.mono HB3.out.2.size)⟩
          have HG4 : Hid (wc.heap[w7.heap.size]? = some (.cells #[.slice p1 m1 f1, .int .i64 y.num, .int .i64 x.num, .int .i64 y.tm, .int .i64 y.next, .int .i64 y.scope, .bool y.ind, .slice ao q cc, .slice (some ⟨gs, 0, none⟩) 0 0] 36 (0, 0))) := (hbx.block _ (Array.getElem?_eq_some_iff.1 HG3.out).1).trans HG3.out
          have HO4 : Hid (∃ sl, GsO w (w7.heap.size + 1) wc ao q cc (chA x.ents y.ents k) sl) := ⟨_, HO3.out.choose_spec.below hbx⟩
          have HZ4 : Hid (wc.heap[wr.heap.size]? = some (.cells #[.slice an nn cn, .int .i64 z.ser, .int .i64 z.tm, .int .i64 z.rs] 63 (0, 0))) := (hbx.block _ (Array.getElem?_eq_some_iff.1 HZ3.out).1).trans HZ3.out
          clear hbq hbx HB3 HG3 HO3 HZ3 HAT a7 q2 q3
          cases bq with
          | true =>
            have HCE : Hid (chA x.ents y.ents (k + 1) = chA x.ents y.ents k ++ [z]) := by
              show _ = _
              rw [HCH.out]
              rw [show sameE x.ents z = false by simpa using hbq1]
              rfl
            clear hbq1 HCH
            have u0 : wc.cell? ⟨wr.heap.size, 0, none⟩ = some (.slice an nn cn) := (cell_of_row _ _ 0 _ _ (0, 0) HZ4.out).trans rfl
            have u1 : wc.cell? ⟨wr.heap.size, 1, none⟩ = some (.int .i64 z.ser) := (cell_of_row _ _ 1 _ _ (0, 0) HZ4.out).trans rfl
            have u2 : wc.cell? ⟨wr.heap.size, 2, none⟩ = some (.int .i64 z.tm) := (cell_of_row _ _ 2 _ _ (0, 0) HZ4.out).trans rfl
            have u3 : wc.cell? ⟨wr.heap.size, 3, none⟩ = some (.int .i64 z.rs) := (cell_of_row _ _ 3 _ _ (0, 0) HZ4.out).trans rfl
            have u7 : wc.cell? ⟨w7.heap.size, 7, none⟩ = some (.slice ao q cc) := (cell_of_row _ _ 7 _ _ (0, 0) HG4.out).trans rfl
            obtain ⟨sl, hgs⟩ := HO4.out
            have hal : Below wc.heap.size wc (wc.alloc (.cells #[.slice an nn cn, .int .i64 z.ser, .int .i64 z.tm, .int .i64 z.rs] 63)) := (Below.refl _ _).alloc (Nat.le_refl _) _
            have HG6 : Hid (GsO w (w7.heap.size + 1) (wc.alloc (.cells #[.slice an nn cn, .int .i64 z.ser, .int .i64 z.tm, .int .i64 z.rs] 63)) ao q cc (chA x.ents y.ents k) sl) := hgs.below hal
            have HR6 : Hid ((wc.alloc (.cells #[.slice an nn cn, .int .i64 z.ser, .int .i64 z.tm, .int .i64 z.rs] 63)).ownsRow (w7.heap.size + 1) 63 4 (.slice ao q cc) q (flG (chA x.ents y.ents k) sl q)) := HG6.out.row
            have hb6 : Below w7.heap.size w7 (wc.alloc (.cells #[.slice an nn cn, .int .i64 z.ser, .int .i64 z.tm, .int .i64 z.rs] 63)) := HB4.out.2.trans (hal.mono HB4.out.2.size)
            have hbx6 : (wc.alloc (.cells #[.slice an nn cn, .int .i64 z.ser, .int .i64 z.tm, .int .i64 z.rs] 63)).heap[w7.heap.size]? = some (.cells #[.slice p1 m1 f1, .int .i64 y.num, .int .i64 x.num, .int .i64 y.tm, .int .i64 y.next, .int .i64 y.scope, .bool y.ind, .slice ao q cc, .slice (some ⟨gs, 0, none⟩) 0 0] 36 (0, 0)) := (hal.block _ (Array.getElem?_eq_some_iff.1 HG4.out).1).trans HG4.out
            have HAPP : Hid (∀ aA cA wA, wA.ownsRow (w7.heap.size + 1) 63 4 (.slice aA (q + 1) cA) (q + 1) (flG (chA x.ents y.ents k) sl q ++ [.slice an nn cn, .int .i64 z.ser, .int .i64 z.tm, .int .i64 z.rs]) → (wc.alloc (.cells #[.slice an nn cn, .int .i64 z.ser, .int .i64 z.tm, .int .i64 z.rs] 63)).grownBy wA (Value.slice ao q cc).ownBlock → Hid (∃ sl, GsO w (w7.heap.size + 1) wA aA (q + 1) cA (chA x.ents y.ents (k + 1)) sl) ∧ Hid (Below w7.heap.size w7 wA) ∧ Hid (wA.heap[w7.heap.size]? = some (.cells #[.slice p1 m1 f1, .int .i64 y.num, .int .i64 x.num, .int .i64 y.tm, .int .i64 y.next, .int .i64 y.scope, .bool y.ind, .slice ao q cc, .slice (some ⟨gs, 0, none⟩) 0 0] 36 (0, 0)))) := by
              intro aA cA wA hvA hgA
              refine ⟨⟨fun j => if j = q then (an, nn, cn) else sl j, ?_⟩, hb6.grown hgA hb6.size (fun kx hx => Nat.le_trans (Nat.le_succ _) (HR6.out.lt kx hx).1), (hgA.block _ (Array.getElem?_eq_some_iff.1 hbx6).1 (fun e => ?_)).trans hbx6⟩
              · rw [HCE.out]
                exact HG6.out.appended HPT.out.1 HPT.out.2.1 HPT.out.2.2 hvA
              · have := (HR6.out.lt _ e.symm).1
                omega
            have hs47 := HB4.out.2.size
            have hl47 := (Array.getElem?_eq_some_iff.1 HG4.out).1
            clear hgs hal hb6 hbx6 HB4 HO4 HG4 HZ4 HCE HG6
            go_wp2_with (at_builtin; refine wpList_append_own _ rfl (.tmp 89) (.tmp 91) 34 rfl (w7.heap.size + 1) 63 i0 _ 4 48 Tryd.underlying34 hi hz0 hz1 hz2 rfl (by decide) _ q _ rfl HR6.out ⟨wc.heap.size, 0, none⟩ 1 1 [.slice an nn cn, .int .i64 z.ser, .int .i64 z.tm, .int .i64 z.rs] rfl rfl (World.news_of_block (heap_alloc_new wc (.cells #[.slice an nn cn, .int .i64 z.ser, .int .i64 z.tm, .int .i64 z.rs] 63))) (by intro u hu; simp only [List.mem_cons, List.not_mem_nil, or_false] at hu; rcases hu with rfl | rfl | rfl | rfl <;> rfl) (by unfold maxLen; omega) (by omega) (by simp; omega) ?_; intro vA wA hvA hgA hsA; obtain ⟨gA, cA, rfl⟩ := ownsRow_succG hvA; have HNA := HAPP.out _ cA wA hvA hgA; have HN : Hid (_) := HNA; have zc7 : wA.cell? ⟨w7.heap.size, 7, none⟩ = some (.slice ao q cc) := (cell_of_row _ _ 7 _ _ (0, 0) HNA.2.2.out).trans rfl; have fc7 := frozen_of_row wA _ 7 _ _ HNA.2.2.out; clear hvA hgA hsA HNA HAPP HR6)
            clear u0 u1 u2 u3 u7 zc7 fc7
            have tt : Touch w7.heap.size (w7.heap.size + 1) wA (wA.setCell ⟨w7.heap.size, 7, none⟩ (.slice (some ⟨gA, 0, none⟩) (q + 1) cA)) := touch_setC _ _ _ _ (Nat.le_refl _) (Nat.lt_succ_self _)
            have HRL : Hid ((wA.setCell ⟨w7.heap.size, 7, none⟩ (.slice (some ⟨gA, 0, none⟩) (q + 1) cA)).heap[w7.heap.size]? = some (.cells #[.slice p1 m1 f1, .int .i64 y.num, .int .i64 x.num, .int .i64 y.tm, .int .i64 y.next, .int .i64 y.scope, .bool y.ind, .slice (some ⟨gA, 0, none⟩) (q + 1) cA, .slice (some ⟨gs, 0, none⟩) 0 0] 36 (0, 0)) ∧ _ ∧ _) := ⟨(heap_setCell_same wA w7.heap.size 7 _ _ _ HN.out.2.2.out).trans rfl, GsO.touch HN.out.1.out.choose_spec tt (Nat.le_refl _), HN.out.2.1.out.trans (tt.below (Nat.le_refl _) HN.out.2.1.out.size)⟩
            clear tt
            go_roundw
            case rel => exact ⟨k + 1, some ⟨gA, 0, none⟩, q + 1, cA, by omega, by omega, by go_num, HRL.out.1, ⟨_, HRL.out.2.1⟩, HRL.out.2.2⟩
            case measure => simp [intOf]; omega
          | false =>
            have HCE : Hid (chA x.ents y.ents (k + 1) = chA x.ents y.ents k) := by
              show _ = _
              rw [HCH.out]
              rw [show sameE x.ents z = true by simpa using hbq1]
              simp
            clear hbq1 HCH
            go_wp2_with fail
            go_roundw
            case rel => exact ⟨k + 1, ao, q, cc, by omega, by omega, by go_num, HG4.out, (by show ∃ sl, _; rw [HCE.out]; exact HO4.out), HB4.out.2⟩
            case measure => simp [intOf]; omega
        · have hkm : m2 = k := by omega
          subst hkm
          have hni : ¬ ((m2 : Int) < (m2 : Int)) := by omega
          have x7 : wr.cell? ⟨w.heap.size, 7, none⟩ = some (.slice a2 n2 c2) := (cell_of_row _ _ 7 _ _ (0, 0) (HK.out _ hbr1).1).trans rfl
          obtain ⟨wo, hwo⟩ : ∃ wo, wo = wr := ⟨_, rfl⟩
          subst hwo
          have HOO : Hid (∃ sl, GsO w (w7.heap.size + 1) wo ao q cc (chA x.ents y.ents m2 ++ chB x.ents y.ents y.tm 0) sl) := by
            show ∃ sl, _
            simp only [chB, List.append_nil]
            exact HO.out
          clear HO
          go_wp2_with fail
          clear x7 y7
          go_loopw [11] (fun i wr => ∃ (k : Nat) (ao : Option Addr) (q cc : Nat), k ≤ n2 ∧ q ≤ m2 + k ∧ i = .int .i64 k ∧ Hid (wr.heap[w7.heap.size]? = some (.cells #[.slice p1 m1 f1, .int .i64 y.num, .int .i64 x.num, .int .i64 y.tm, .int .i64 y.next, .int .i64 y.scope, .bool y.ind, .slice ao q cc, .slice (some ⟨gs, 0, none⟩) 0 0] 36 (0, 0))) ∧ Hid (∃ sl, GsO w (w7.heap.size + 1) wr ao q cc (chA x.ents y.ents m2 ++ chB x.ents y.ents y.tm k) sl) ∧ Below w7.heap.size w7 wr) (fun i _ => n2 - (intOf i).toNat)
          case atStart => exact ⟨0, ao, q, cc, Nat.zero_le _, hqk, rfl, HG.out, HOO.out, hbr⟩
          case round =>
            obtain ⟨k, ao2, q2', cc2, hk2, hqk2, rfl, HG2, HO2, hbr2⟩ := hrel
            clear HOO HG hbr hbr1 hbw
            have hbr1 : Below w1.heap.size w1 wr := HB7.out.trans (hbr2.mono HB7.out.size)
            have hbw : Below w.heap.size w wr := HBW.out.trans (hbr1.mono HBW.out.size)
            have x7 : wr.cell? ⟨w.heap.size, 7, none⟩ = some (.slice a2 n2 c2) := (cell_of_row _ _ 7 _ _ (0, 0) (HK.out _ hbr1).1).trans rfl
            by_cases hlt2 : k < n2
            · obtain ⟨b, off, an, nn, cn, rfl, hlb, hc, hp⟩ := HA.out.1.en.get k hlt2
              obtain ⟨hnl, hn1⟩ := HCA.out k hlt2 b off an nn cn rfl hc.c0
              have hzk := HA.out.2.2.2.2.1 k hlt2
              have hek := HOK.out.1.2.1 k (by rw [HA.out.1.en.len]; exact hlt2)
              obtain ⟨z, hz⟩ : ∃ z, z = x.ents.getD k default := ⟨_, rfl⟩
              have HCH : Hid (chB x.ents y.ents y.tm (k + 1) = chB x.ents y.ents y.tm k ++ if (lastK y.ents (kb z) m2).isSome then [] else [outE y.tm z]) := by show _ = _; rw [hz, ← HB.out.1.en.len]; rfl
              rw [← hz] at hc hp hzk hek
              obtain ⟨e0, e1, e2, e3⟩ := hc.of (w' := wr) (fun i => hbw.cell (p := ⟨b, i, none⟩) hlb)
              have HPT : Hid (Pts w an nn z.parts ∧ (an = none → cn = 0) ∧ nn ≤ 1048576) := ⟨hp, hnl, hn1⟩
              have HZK : Hid (GpOk z ∧ kOk z) := ⟨hzk, entP_name hek, entP_wf hek⟩
              have hkni2 : (k : Int) < (n2 : Int) := by omega
              obtain ⟨W1, hW1⟩ : ∃ W1, W1 = wr.alloc (.cells #[.slice an nn cn, .int .i64 z.ser, .int .i64 z.tm, .int .i64 z.rs] 63) := ⟨_, rfl⟩
              have hal : Below wr.heap.size wr W1 := by rw [hW1]; exact (Below.refl _ _).alloc (Nat.le_refl _) _
              have hz1 : W1.heap[wr.heap.size]? = some (.cells #[.slice an nn cn, .int .i64 z.ser, .int .i64 z.tm, .int .i64 z.rs] 63 (0, 0)) := by rw [hW1]; exact heap_alloc_new wr _
              have hbW1 : Below w.heap.size w W1 := hbw.trans (hal.mono hbw.size)
              have M := l10At_any b2 m2 d2 y.ents an nn cn z W1 (HB.out.1.en.kept hbW1) HB.out.2.2.2.1 HB.out.2.2.2.2.1 (HPT.out.1.kept hbW1) HZK.out.1
              unfold gov at M
              have HM : Hid (_) := M
              have HBS : Hid (Below w1.heap.size w1 wr ∧ Below w7.heap.size w7 wr ∧ Below wr.heap.size wr W1) := ⟨hbr1, hbr2, hal⟩
              have HZ1 : Hid (_ = _) := hz1
              have HWW : Hid (_ = _) := hW1
              clear hc hp hz hnl hn1 hzk hek M hbr1 hbr2 hbw hal hz1 hbW1 hW1
              go_upto_region 21 with fail
              rw [← HWW.out]
              clear HWW e0 e1 e2 e3 x7
              have a7 : W1.cell? ⟨w.heap.size + 1, 7, none⟩ = some (.slice b2 m2 d2) := (cell_of_row _ _ 7 _ _ (0, 0) (HK.out _ (HBS.out.1.trans (HBS.out.2.2.mono HBS.out.1.size))).2.1).trans rfl
              have q0 : W1.cell? ⟨wr.heap.size, 0, none⟩ = some (.slice an nn cn) := (cell_of_row _ _ 0 _ _ (0, 0) HZ1.out).trans rfl
              have q1 : W1.cell? ⟨wr.heap.size, 1, none⟩ = some (.int .i64 z.ser) := (cell_of_row _ _ 1 _ _ (0, 0) HZ1.out).trans rfl
              have q2 : W1.cell? ⟨wr.heap.size, 2, none⟩ = some (.int .i64 z.tm) := (cell_of_row _ _ 2 _ _ (0, 0) HZ1.out).trans rfl
              have q3 : W1.cell? ⟨wr.heap.size, 3, none⟩ = some (.int .i64 z.rs) := (cell_of_row _ _ 3 _ _ (0, 0) HZ1.out).trans rfl
              go_wp2_with fail
              refine Calls.mono HM.out ?_
              rintro e w3 ⟨v, rfl, hat, hb3⟩
              have hl1 := (Array.getElem?_eq_some_iff.1 HZ1.out).1
              have hz3 := (hb3.block _ hl1).trans HZ1.out
              have hb3r : Below wr.heap.size wr w3 := HBS.out.2.2.trans (hb3.mono HBS.out.2.2.size)
              have HAT := at_last HB.out.1.en.len (fun j hj => ⟨entP_name (HOK.out.2.1.2.1 j (by rw [HB.out.1.en.len]; exact hj)), entP_wf (HOK.out.2.1.2.1 j (by rw [HB.out.1.en.len]; exact hj))⟩) HZK.out.2 (fun i k hi hk => HOK.out.2.1.2.2 i k (by rw [HB.out.1.en.len]; exact hi) hk) hat.out
              have HZ3 : Hid (w3.heap[wr.heap.size]? = some (.cells #[.slice an nn cn, .int .i64 z.ser, .int .i64 z.tm, .int .i64 z.rs] 63 (0, 0)) ∧ Below wr.heap.size wr w3) := ⟨hz3, hb3r⟩
              clear hat hb3 hl1 hz3 hb3r HZ1 HM q0 q1 q2 q3 a7
              rcases HAT with ⟨rfl, hl⟩ | ⟨j, hj, rfl, hl⟩
              · have HCE : Hid (chB x.ents y.ents y.tm (k + 1) = chB x.ents y.ents y.tm k ++ [outE y.tm z]) := by
                  show _ = _
                  rw [HCH.out, hl]
                  rfl
                clear hl HCH
                have hv : ((-1 : Int) < 0) := by decide
                have y3 : w3.cell? ⟨w.heap.size + 1, 3, none⟩ = some (.int .i64 y.tm) := (cell_of_row _ _ 3 _ _ (0, 0) (HK.out _ (HBS.out.1.trans (HZ3.out.2.mono HBS.out.1.size))).2.1).trans rfl
                have q2 : w3.cell? ⟨wr.heap.size, 2, none⟩ = some (.int .i64 z.tm) := (cell_of_row _ _ 2 _ _ (0, 0) HZ3.out.1).trans rfl
                have f2' := frozen_of_row w3 _ 2 _ _ HZ3.out.1
                obtain ⟨w4, hw4⟩ : ∃ w4, w4 = w3.setCell ⟨wr.heap.size, 2, none⟩ (.int .i64 y.tm) := ⟨_, rfl⟩
                have hz4 : w4.heap[wr.heap.size]? = some (.cells #[.slice an nn cn, .int .i64 z.ser, .int .i64 y.tm, .int .i64 z.rs] 63 (0, 0)) := by rw [hw4]; exact (heap_setCell_same w3 wr.heap.size 2 _ _ _ HZ3.out.1).trans rfl
                have t4 : Touch wr.heap.size (wr.heap.size + 1) w3 w4 := by rw [hw4]; exact touch_setC _ _ _ _ (Nat.le_refl _) (Nat.lt_succ_self _)
                have hb4r := HZ3.out.2.trans (t4.below (Nat.le_refl _) HZ3.out.2.size)
                have HW4 : Hid (_ = _) := hw4
                clear hw4 t4
                go_upto_region 23 with fail
                rw [← HW4.out]
                clear HW4 y3 q2 f2' hv HZ3
                have q3 : w4.cell? ⟨wr.heap.size, 3, none⟩ = some (.int .i64 z.rs) := (cell_of_row _ _ 3 _ _ (0, 0) hz4).trans rfl
                have f3' := frozen_of_row w4 _ 3 _ _ hz4
                obtain ⟨w5, hw5⟩ : ∃ w5, w5 = w4.setCell ⟨wr.heap.size, 3, none⟩ (.int .i64 7) := ⟨_, rfl⟩
                have hz5 : w5.heap[wr.heap.size]? = some (.cells #[.slice an nn cn, .int .i64 z.ser, .int .i64 y.tm, .int .i64 7] 63 (0, 0)) := by rw [hw5]; exact (heap_setCell_same w4 wr.heap.size 3 _ _ _ hz4).trans rfl
                have t5 : Touch wr.heap.size (wr.heap.size + 1) w4 w5 := by rw [hw5]; exact touch_setC _ _ _ _ (Nat.le_refl _) (Nat.lt_succ_self _)
                have HB5 : Hid (Below wr.heap.size wr w5) := hb4r.trans (t5.below (Nat.le_refl _) hb4r.size)
                have HZ5 : Hid (_ = _) := hz5
                have HW5 : Hid (_ = _) := hw5
                clear hw5 t5 hb4r hz4 hz5
                go_upto_region 24 with fail
                rw [← HW5.out]
                clear HW5 q3 f3'
                have u0 : w5.cell? ⟨wr.heap.size, 0, none⟩ = some (.slice an nn cn) := (cell_of_row _ _ 0 _ _ (0, 0) HZ5.out).trans rfl
                have u1 : w5.cell? ⟨wr.heap.size, 1, none⟩ = some (.int .i64 z.ser) := (cell_of_row _ _ 1 _ _ (0, 0) HZ5.out).trans rfl
                have u2 : w5.cell? ⟨wr.heap.size, 2, none⟩ = some (.int .i64 y.tm) := (cell_of_row _ _ 2 _ _ (0, 0) HZ5.out).trans rfl
                have u3 : w5.cell? ⟨wr.heap.size, 3, none⟩ = some (.int .i64 7) := (cell_of_row _ _ 3 _ _ (0, 0) HZ5.out).trans rfl
                have HG5 : Hid (w5.heap[w7.heap.size]? = some (.cells #[.slice p1 m1 f1, .int .i64 y.num, .int .i64 x.num, .int .i64 y.tm, .int .i64 y.next, .int .i64 y.scope, .bool y.ind, .slice ao2 q2' cc2, .slice (some ⟨gs, 0, none⟩) 0 0] 36 (0, 0))) := (HB5.out.block _ (Array.getElem?_eq_some_iff.1 HG2.out).1).trans HG2.out
                have u7 : w5.cell? ⟨w7.heap.size, 7, none⟩ = some (.slice ao2 q2' cc2) := (cell_of_row _ _ 7 _ _ (0, 0) HG5.out).trans rfl
                have HB57 : Hid (Below w7.heap.size w7 w5) := HBS.out.2.1.trans (HB5.out.mono HBS.out.2.1.size)
                obtain ⟨sl, hgs⟩ := HO2.out
                have hgs5 := hgs.below HB5.out
                have hal : Below w5.heap.size w5 (w5.alloc (.cells #[.slice an nn cn, .int .i64 z.ser, .int .i64 y.tm, .int .i64 7] 63)) := (Below.refl _ _).alloc (Nat.le_refl _) _
                have HG6 : Hid (GsO w (w7.heap.size + 1) (w5.alloc (.cells #[.slice an nn cn, .int .i64 z.ser, .int .i64 y.tm, .int .i64 7] 63)) ao2 q2' cc2 (chA x.ents y.ents m2 ++ chB x.ents y.ents y.tm k) sl) := hgs5.below hal
                have HR6 : Hid ((w5.alloc (.cells #[.slice an nn cn, .int .i64 z.ser, .int .i64 y.tm, .int .i64 7] 63)).ownsRow (w7.heap.size + 1) 63 4 (.slice ao2 q2' cc2) q2' (flG (chA x.ents y.ents m2 ++ chB x.ents y.ents y.tm k) sl q2')) := HG6.out.row
                have hb6 : Below w7.heap.size w7 (w5.alloc (.cells #[.slice an nn cn, .int .i64 z.ser, .int .i64 y.tm, .int .i64 7] 63)) := HB57.out.trans (hal.mono HB57.out.size)
                have hbx6 : (w5.alloc (.cells #[.slice an nn cn, .int .i64 z.ser, .int .i64 y.tm, .int .i64 7] 63)).heap[w7.heap.size]? = some (.cells #[.slice p1 m1 f1, .int .i64 y.num, .int .i64 x.num, .int .i64 y.tm, .int .i64 y.next, .int .i64 y.scope, .bool y.ind, .slice ao2 q2' cc2, .slice (some ⟨gs, 0, none⟩) 0 0] 36 (0, 0)) := (hal.block _ (Array.getElem?_eq_some_iff.1 HG5.out).1).trans HG5.out
                have HAPP : Hid (∀ aA cA wA, wA.ownsRow (w7.heap.size + 1) 63 4 (.slice aA (q2' + 1) cA) (q2' + 1) (flG (chA x.ents y.ents m2 ++ chB x.ents y.ents y.tm k) sl q2' ++ [.slice an nn cn, .int .i64 z.ser, .int .i64 y.tm, .int .i64 7]) → (w5.alloc (.cells #[.slice an nn cn, .int .i64 z.ser, .int .i64 y.tm, .int .i64 7] 63)).grownBy wA (Value.slice ao2 q2' cc2).ownBlock → Hid (∃ sl, GsO w (w7.heap.size + 1) wA aA (q2' + 1) cA (chA x.ents y.ents m2 ++ chB x.ents y.ents y.tm (k + 1)) sl) ∧ Hid (Below w7.heap.size w7 wA) ∧ Hid (wA.heap[w7.heap.size]? = some (.cells #[.slice p1 m1 f1, .int .i64 y.num, .int .i64 x.num, .int .i64 y.tm, .int .i64 y.next, .int .i64 y.scope, .bool y.ind, .slice ao2 q2' cc2, .slice (some ⟨gs, 0, none⟩) 0 0] 36 (0, 0)))) := by
                  intro aA cA wA hvA hgA
                  refine ⟨⟨fun j => if j = q2' then (an, nn, cn) else sl j, ?_⟩, hb6.grown hgA hb6.size (fun kx hx => Nat.le_trans (Nat.le_succ _) (HR6.out.lt kx hx).1), (hgA.block _ (Array.getElem?_eq_some_iff.1 hbx6).1 (fun e => ?_)).trans hbx6⟩
                  · rw [HCE.out, ← List.append_assoc]
                    exact HG6.out.appended (y := outE y.tm z) HPT.out.1 HPT.out.2.1 HPT.out.2.2 hvA
                  · have := (HR6.out.lt _ e.symm).1
                    omega
                have hs47 := HB57.out.size
                have hl47 := (Array.getElem?_eq_some_iff.1 HG5.out).1
                clear hgs hgs5 hal hb6 hbx6 HB57 HB5 HO2 HG2 HG5 HZ5 HCE HG6 HBS
                go_wp2_with (at_builtin; refine wpList_append_own _ rfl (.tmp 116) (.tmp 118) 34 rfl (w7.heap.size + 1) 63 i0 _ 4 48 Tryd.underlying34 hi hz0 hz1 hz2 rfl (by decide) _ q2' _ rfl HR6.out ⟨w5.heap.size, 0, none⟩ 1 1 [.slice an nn cn, .int .i64 z.ser, .int .i64 y.tm, .int .i64 7] rfl rfl (World.news_of_block (heap_alloc_new w5 (.cells #[.slice an nn cn, .int .i64 z.ser, .int .i64 y.tm, .int .i64 7] 63))) (by intro u hu; simp only [List.mem_cons, List.not_mem_nil, or_false] at hu; rcases hu with rfl | rfl | rfl | rfl <;> rfl) (by unfold maxLen; omega) (by omega) (by simp; omega) ?_; intro vA wA hvA hgA hsA; obtain ⟨gA, cA, rfl⟩ := ownsRow_succG hvA; have HNA := HAPP.out _ cA wA hvA hgA; have HN : Hid (_) := HNA; have zc7 : wA.cell? ⟨w7.heap.size, 7, none⟩ = some (.slice ao2 q2' cc2) := (cell_of_row _ _ 7 _ _ (0, 0) HNA.2.2.out).trans rfl; have fc7 := frozen_of_row wA _ 7 _ _ HNA.2.2.out; clear hvA hgA hsA HNA HAPP HR6)
                clear u0 u1 u2 u3 u7 zc7 fc7
                have tt : Touch w7.heap.size (w7.heap.size + 1) wA (wA.setCell ⟨w7.heap.size, 7, none⟩ (.slice (some ⟨gA, 0, none⟩) (q2' + 1) cA)) := touch_setC _ _ _ _ (Nat.le_refl _) (Nat.lt_succ_self _)
                have HRL : Hid ((wA.setCell ⟨w7.heap.size, 7, none⟩ (.slice (some ⟨gA, 0, none⟩) (q2' + 1) cA)).heap[w7.heap.size]? = some (.cells #[.slice p1 m1 f1, .int .i64 y.num, .int .i64 x.num, .int .i64 y.tm, .int .i64 y.next, .int .i64 y.scope, .bool y.ind, .slice (some ⟨gA, 0, none⟩) (q2' + 1) cA, .slice (some ⟨gs, 0, none⟩) 0 0] 36 (0, 0)) ∧ _ ∧ _) := ⟨(heap_setCell_same wA w7.heap.size 7 _ _ _ HN.out.2.2.out).trans rfl, GsO.touch HN.out.1.out.choose_spec tt (Nat.le_refl _), HN.out.2.1.out.trans (tt.below (Nat.le_refl _) HN.out.2.1.out.size)⟩
                clear tt
                go_roundw
                case rel => exact ⟨k + 1, some ⟨gA, 0, none⟩, q2' + 1, cA, by omega, by omega, by go_num, HRL.out.1, ⟨_, HRL.out.2.1⟩, HRL.out.2.2⟩
                case measure => simp [intOf]; omega
              · have HCE : Hid (chB x.ents y.ents y.tm (k + 1) = chB x.ents y.ents y.tm k) := by
                  show _ = _
                  rw [HCH.out, hl]
                  simp
                have hv : ¬ ((j : Int) < 0) := by omega
                have HF2 : Hid (w3.heap[w7.heap.size]? = some (.cells #[.slice p1 m1 f1, .int .i64 y.num, .int .i64 x.num, .int .i64 y.tm, .int .i64 y.next, .int .i64 y.scope, .bool y.ind, .slice ao2 q2' cc2, .slice (some ⟨gs, 0, none⟩) 0 0] 36 (0, 0)) ∧ (∃ sl, GsO w (w7.heap.size + 1) w3 ao2 q2' cc2 (chA x.ents y.ents m2 ++ chB x.ents y.ents y.tm k) sl) ∧ Below w7.heap.size w7 w3) := ⟨(HZ3.out.2.block _ (Array.getElem?_eq_some_iff.1 HG2.out).1).trans HG2.out, ⟨_, HO2.out.choose_spec.below HZ3.out.2⟩, HBS.out.2.1.trans (HZ3.out.2.mono HBS.out.2.1.size)⟩
                clear hl HCH HZ3 HG2 HO2 HBS
                go_wp2_with fail
                go_roundw
                case rel => exact ⟨k + 1, ao2, q2', cc2, by omega, by omega, by go_num, HF2.out.1, (by show ∃ sl, _; rw [HCE.out]; exact HF2.out.2.1), HF2.out.2.2⟩
                case measure => simp [intOf]; omega
            · have hkn : n2 = k := by omega
              subst hkn
              have hni2 : ¬ ((n2 : Int) < (n2 : Int)) := by omega
              have hEq : chgs x.ents y.ents y.tm = chA x.ents y.ents m2 ++ chB x.ents y.ents y.tm n2 := by
                unfold chgs
                rw [HB.out.1.en.len, HA.out.1.en.len]
              obtain ⟨sl, hgs⟩ := HO2.out
              rw [← hEq] at hgs
              have hql := hgs.len
              subst hql
              have HGS : Hid (_) := hgs
              have u7 : wr.cell? ⟨w7.heap.size, 7, none⟩ = some (.slice ao2 (chgs x.ents y.ents y.tm).length cc2) := (cell_of_row _ _ 7 _ _ (0, 0) HG2.out).trans rfl
              have HBR : Hid (Below w1.heap.size w1 wr ∧ Below w7.heap.size w7 wr ∧ Below w.heap.size w wr) := ⟨hbr1, hbr2, hbw⟩
              have hl47 := (Array.getElem?_eq_some_iff.1 HG2.out).1
              clear hgs hEq hbr1 hbr2 hbw HO2
              by_cases h60 : 60 < (chgs x.ents y.ents y.tm).length
              · have hni6 : (60 : Int) < ((chgs x.ents y.ents y.tm).length : Int) := by omega
                have H60 : Hid (_) := h60
                clear h60
                go_wp2_with (refine wpList_store_rowTo rfl 36 _ _ rfl rfl (w.heap.size + 2) #[.slice none 0 0, .int .i64 0, .int .i64 0, .int .i64 0, .int .i64 0, .int .i64 0, .bool false, .slice none 0 0, .slice none 0 0] rfl rfl 36 #[.slice none 0 0, .int .i64 0, .int .i64 0, .int .i64 0, .int .i64 0, .int .i64 0, .bool false, .slice none 0 0, .slice none 0 0] (HK.out _ HBR.out.1).2.2 infoSizeCrl rfl (by simp [Value.oneCell']) ?_)
                have q6 := setRow_heap wr (w.heap.size + 2) _ #[.slice none 0 0, .int .i64 0, .int .i64 0, .int .i64 0, .int .i64 0, .int .i64 0, .bool false, .slice none 0 0, .slice none 0 0] 36 (0, 0) (HK.out _ HBR.out.1).2.2
                have tt := setRow_touch wr (w.heap.size + 2) #[.slice none 0 0, .int .i64 0, .int .i64 0, .int .i64 0, .int .i64 0, .int .i64 0, .bool false, .slice none 0 0, .slice none 0 0]
                try simp only [Exit.inBlock, Exit.then]
                exact bodyPost_ret (results_crl2 (by rfl) _ (w.heap.size + 2) rfl _ _ rfl q6) rfl ⟨HBR.out.2.2.trans (tt.below (by omega) HBR.out.2.2.size), .inr (.inr (.inl ⟨HOK.out, HF0.out, H60.out, rfl⟩))⟩
              · have hni6 : ¬ (60 : Int) < ((chgs x.ents y.ents y.tm).length : Int) := by omega
                have H60 : Hid (_) := h60
                have hle : (chgs x.ents y.ents y.tm).length ≤ 60 := by omega
                clear h60
                go_wp2_with fail
                refine (l10Gones_any ao2 (chgs x.ents y.ents y.tm).length cc2 (chgs x.ents y.ents y.tm) wr (HGS.out.gns HBR.out.2.2 (by omega)) (by omega) HGS.out.caps).mono ?_
                rintro e w20 ⟨aF, cF, sF, rfl, hE, hEl, hb20⟩
                have hg20 := (hb20.block _ hl47).trans HG2.out
                have v7 : w20.cell? ⟨w7.heap.size, 7, none⟩ = some (.slice ao2 (chgs x.ents y.ents y.tm).length cc2) := (cell_of_row _ _ 7 _ _ (0, 0) hg20).trans rfl
                have fv7 := frozen_of_row w20 _ 7 _ _ hg20
                obtain ⟨w21, hw21⟩ : ∃ w21, w21 = w20.setCell ⟨w7.heap.size, 7, none⟩ (.slice aF (chgs x.ents y.ents y.tm).length cF) := ⟨_, rfl⟩
                have hg21 : w21.heap[w7.heap.size]? = some (.cells #[.slice p1 m1 f1, .int .i64 y.num, .int .i64 x.num, .int .i64 y.tm, .int .i64 y.next, .int .i64 y.scope, .bool y.ind, .slice aF (chgs x.ents y.ents y.tm).length cF, .slice (some ⟨gs, 0, none⟩) 0 0] 36 (0, 0)) := by rw [hw21]; exact (heap_setCell_same w20 w7.heap.size 7 _ _ _ hg20).trans rfl
                have t21 : Touch w7.heap.size (w7.heap.size + 1) w20 w21 := by rw [hw21]; exact touch_setC _ _ _ _ (Nat.le_refl _) (Nat.lt_succ_self _)
                have hb7 := HBR.out.2.1.trans (hb20.mono HBR.out.2.1.size)
                have HB21 : Hid (Below w7.heap.size w7 w21) := hb7.trans (t21.below (Nat.le_refl _) hb7.size)
                have HE21 : Hid (EachQ wr.heap.size w21 aF (chgs x.ents y.ents y.tm).length cF (chgs x.ents y.ents y.tm) sF) := hE.touchC t21 hl47
                have HEL : Hid (_) := hEl
                have HG21 : Hid (_) := hg21
                have HB1 : Hid (Below w1.heap.size w1 w21) := HB7.out.trans (HB21.out.mono HB7.out.size)
                have HW21 : Hid (_ = _) := hw21
                clear hw21 hg20 hg21 t21 hb7 hE hEl hb20 HG2
                go_upto_region 28 with fail
                rw [← HW21.out]
                clear HW21 v7 fv7 u7
                go_wp2_with (first | (refine wpList_load_row rfl 36 _ rfl (w7.heap.size) rfl 36 #[.slice p1 m1 f1, .int .i64 y.num, .int .i64 x.num, .int .i64 y.tm, .int .i64 y.next, .int .i64 y.scope, .bool y.ind, .slice aF (chgs x.ents y.ents y.tm).length cF, .slice (some ⟨gs, 0, none⟩) 0 0] (0, 0) _ HG21.out Tryd.underlying36 rfl infoSizeCrl ?_) | (refine wpList_store_rowTo rfl 36 _ _ rfl rfl (w.heap.size + 2) #[.slice p1 m1 f1, .int .i64 y.num, .int .i64 x.num, .int .i64 y.tm, .int .i64 y.next, .int .i64 y.scope, .bool y.ind, .slice aF (chgs x.ents y.ents y.tm).length cF, .slice (some ⟨gs, 0, none⟩) 0 0] rfl rfl 36 #[.slice none 0 0, .int .i64 0, .int .i64 0, .int .i64 0, .int .i64 0, .int .i64 0, .bool false, .slice none 0 0, .slice none 0 0] (HK.out _ HB1.out).2.2 infoSizeCrl rfl (by simp [Value.oneCell']) ?_))
                have q6 := setRow_heap w21 (w.heap.size + 2) _ #[.slice p1 m1 f1, .int .i64 y.num, .int .i64 x.num, .int .i64 y.tm, .int .i64 y.next, .int .i64 y.scope, .bool y.ind, .slice aF (chgs x.ents y.ents y.tm).length cF, .slice (some ⟨gs, 0, none⟩) 0 0] 36 (0, 0) (HK.out _ HB1.out).2.2
                have tt := setRow_touch w21 (w.heap.size + 2) #[.slice p1 m1 f1, .int .i64 y.num, .int .i64 x.num, .int .i64 y.tm, .int .i64 y.next, .int .i64 y.scope, .bool y.ind, .slice aF (chgs x.ents y.ents y.tm).length cF, .slice (some ⟨gs, 0, none⟩) 0 0]
                try simp only [Exit.inBlock, Exit.then]
                have hss := HS67.out
                have B3 := HBW.out.trans (HB1.out.mono HBW.out.size)
                have hlen : wr.heap.size ≥ w.heap.size + 3 := by omega
                have hnm := owns_monoC (B' := w.heap.size) (owns_touchC (ownsRow_below HNM.out HB21.out) tt (by omega)) (by omega)
                have hen := ((HE21.out.touchC tt (by omega)).monoC (B' := w.heap.size) (by omega)).own
                exact bodyPost_ret (results_crl2 (by rfl) _ (w.heap.size + 2) rfl _ _ rfl q6) rfl ⟨B3.trans (tt.below (by omega) B3.size), .inr (.inr (.inr ⟨HOK.out, HF0.out, H60.out, p1, f1, aF, cF, some ⟨gs, 0, none⟩, 0, rfl, ⟨sF, fun _ => hnm, hen, HB.out.1.nm.len, rfl, rfl, HEL.out⟩⟩))⟩
    · have HF : Hid (fitV x y ≠ 0) := hf
      obtain ⟨fv, hfv⟩ : ∃ fv, fv = fitV x y := ⟨_, rfl⟩
      rw [← hfv] at hf ⊢
      have HFV : Hid (_ = _) := hfv
      clear hfv
      go_wp2_with (refine wpList_store_rowTo rfl 36 _ _ rfl rfl (w.heap.size + 2) #[.slice none 0 0, .int .i64 0, .int .i64 0, .int .i64 0, .int .i64 0, .int .i64 0, .bool false, .slice none 0 0, .slice none 0 0] rfl rfl 36 #[.slice none 0 0, .int .i64 0, .int .i64 0, .int .i64 0, .int .i64 0, .int .i64 0, .bool false, .slice none 0 0, .slice none 0 0] (HK.out _ HB6.out).2.2 infoSizeCrl rfl (by simp [Value.oneCell']) ?_)
      have q6 := setRow_heap w6 (w.heap.size + 2) _ #[.slice none 0 0, .int .i64 0, .int .i64 0, .int .i64 0, .int .i64 0, .int .i64 0, .bool false, .slice none 0 0, .slice none 0 0] 36 (0, 0) (HK.out _ HB6.out).2.2
      have tt := setRow_touch w6 (w.heap.size + 2) #[.slice none 0 0, .int .i64 0, .int .i64 0, .int .i64 0, .int .i64 0, .int .i64 0, .bool false, .slice none 0 0, .slice none 0 0]
      try simp only [Exit.inBlock, Exit.then]
      have B3 := HBW.out.trans (HB6.out.mono HBW.out.size)
      refine bodyPost_ret (results_crl2 (by rfl) _ (w.heap.size + 2) rfl _ _ rfl q6) rfl ⟨B3.trans (tt.below (by omega) B3.size), .inr (.inl ⟨HOK.out, HF.out, ?_⟩)⟩
      rw [← HFV.out]
      rfl

end Go.Proofs.YtbfjkmlmnhphoaaDoor
