import Derived.Test.YtglmaoigjnoklaaF3
import Derived.Deep.CutRange
namespace Go.Proofs.Ytglmaoigjnoklaa
open Go.RowKit

theorem field0 (f m : Int) (k : Bool) (w : World) : (Instr.field 45 (.agg #[.int .i64 f, .int .i64 m, .bool k]) 0).run Try.prog w = .ok (.int .i64 f) w := by kernel_rfl
theorem field1 (f m : Int) (k : Bool) (w : World) : (Instr.field 45 (.agg #[.int .i64 f, .int .i64 m, .bool k]) 1).run Try.prog w = .ok (.int .i64 m) w := by kernel_rfl

set_option maxHeartbeats 2000000 in
theorem orKept_any (s : Sp) (ext : Bool) (w : World) (hs : s.ok 2000000000000000000) :
    Calls Try.prog 43 #[spv s, .bool ext] w fun e w' => e = .returned (spv (s.orKept ext)) ∧ Below w.heap.size w w' := by
  obtain ⟨a, b, c, d⟩ := hs
  cases ext with
  | false =>
    have e0 : s.orKept false = s := rfl
    rw [e0]
    clear e0
    have X := hA1 w (.cells #[.int .i64 s.f, .int .i64 s.m, .bool s.k] 45) (.cells #[.int .i64 s.f, .int .i64 s.m, .bool s.k] 45)
    simp only [spv]
    have HX : Hid (_) := X.2
    clear X
    go_enter Try.func43, Try.ntmps43
    go_wp2
    try simp only [Exit.inBlock, Exit.then]
    exact bodyPost_ret (results_sp rfl _ (w.heap.size + 1) rfl _ s ⟨HX.out⟩) rfl ⟨rfl, bA2 _ _ _⟩
  | true =>
    have EQ : Hid (s.orKept true = ⟨min s.f 31, s.m, true⟩) := by show _ = _; rfl
    have hf0 := field0
    simp only [spv]
    go_enter Try.func43, Try.ntmps43
    go_wp2_with fail
    obtain ⟨W0, hW0⟩ : ∃ W0, W0 = ((w.alloc (.cells #[.int .i64 s.f, .int .i64 s.m, .bool s.k] 45)).alloc (.cells #[.int .i64 0, .int .i64 0, .bool false] 45)) := ⟨_, rfl⟩
    have hB0 : Below w.heap.size w W0 := by rw [hW0]; exact bA2 _ _ _
    have b0 := hA1 w (.cells #[.int .i64 s.f, .int .i64 s.m, .bool s.k] 45) (.cells #[.int .i64 0, .int .i64 0, .bool false] 45)
    rw [← hW0] at b0 ⊢
    clear hW0
    have X0 : Box3 W0 w.heap.size s := ⟨b0.1⟩
    have X1 : Box3 W0 (w.heap.size + 1) ⟨0, 0, false⟩ := ⟨b0.2⟩
    clear b0
    refine (numberSpan_any 20001 _ (by decide) (by decide)).mono ?_
    rintro e w1 ⟨rfl, hb1⟩
    replace X0 := X0.kept hb1
    replace X1 := X1.kept hb1
    have hB1 := hB0.trans (hb1.mono hB0.size)
    have e1 : (numSp 20001).f = 15 := widB
    simp only [spv, e1]
    clear hb1 hB0 e1
    go_wp2_with fail
    refine (numberSpan_any 256 _ (by decide) (by decide)).mono ?_
    rintro e w2 ⟨rfl, hb2⟩
    replace X0 := X0.kept hb2
    replace X1 := X1.kept hb2
    have hB2 := hB1.trans (hb2.mono hB1.size)
    have e1 : (numSp 256).f = 8 := wid256
    simp only [spv, e1]
    clear hb2 hB1 e1
    obtain ⟨c0, c1, c2, f0, f1, f2⟩ := And.intro X0.c0 (And.intro X0.c1 (And.intro X0.c2 (And.intro (X0.fr 0) (And.intro (X0.fr 1) (X0.fr 2)))))
    obtain ⟨d0, d1, d2, h0, h1, h2⟩ := And.intro X1.c0 (And.intro X1.c1 (And.intro X1.c2 (And.intro (X1.fr 0) (And.intro (X1.fr 1) (X1.fr 2)))))
    have F : Hid (_ ∧ _ ∧ _) := ⟨X0, X1, hB2⟩
    clear X0 X1 hB2
    go_wp2
    all_goals (
      try simp only [Exit.inBlock, Exit.then]
      first
        | (have e : s.orKept true = ⟨s.f, s.m, true⟩ := (by rw [EQ.out, Int.min_eq_left (by omega)]); rw [← spv, e]; exact bodyPost_ret (results_sp rfl _ (w.heap.size + 1) rfl _ ⟨s.f, s.m, true⟩ ((F.out.2.1.same ((heap_setCell_other _ _ _ _ (by simp)).trans (heap_setCell_other _ _ _ _ (by simp)))).set3 ⟨s.f, s.m, true⟩)) rfl ⟨rfl, below_set3 ((F.out.2.2.setCell (Nat.le_refl _) _).setCell (Nat.le_refl _) _) (w.heap.size + 1) (by omega) ⟨s.f, s.m, true⟩⟩)
        | (have e : s.orKept true = ⟨31, s.m, true⟩ := (by rw [EQ.out, Int.min_eq_right (by omega)]); rw [← spv, e]; exact bodyPost_ret (results_sp rfl _ (w.heap.size + 1) rfl _ ⟨31, s.m, true⟩ ((F.out.2.1.same ((heap_setCell_other _ _ _ _ (by simp)).trans (heap_setCell_other _ _ _ _ (by simp)))).set3 ⟨31, s.m, true⟩)) rfl ⟨rfl, below_set3 ((F.out.2.2.setCell (Nat.le_refl _) _).setCell (Nat.le_refl _) _) (w.heap.size + 1) (by omega) ⟨31, s.m, true⟩⟩))

set_option maxHeartbeats 2000000 in
theorem enumSpan_any (x : ST) (a : Option Addr) (n c : Nat) (w : World) (h0 : 0 ≤ x.hi) (h1 : x.hi ≤ 1000) :
    Calls Try.prog 39 #[stv x a n c] w fun e w' => e = .returned (spv (enumSp x.hi x.ext)) ∧ Below w.heap.size w w' := by
  have w0 := wid_nonneg (x.hi + 1)
  have w10 := wid_le (x.hi + 1) 10 (by omega)
  obtain ⟨W0, hW0⟩ : ∃ W0, W0 = ((w.alloc (.cells #[.int .i64 x.kind, .int .i64 x.lo, .int .i64 x.hi, .bool x.ext, .bool x.opt, .slice a n c] 37)).alloc (.cells #[.int .i64 0, .int .i64 0, .bool false] 45)) := ⟨_, rfl⟩
  have hB0 : Below w.heap.size w W0 := by rw [hW0]; exact bA2 _ _ _
  have hS0 : W0.heap.size = w.heap.size + 1 + 1 := by rw [hW0]; simp
  have b0 := hA1 w (.cells #[.int .i64 x.kind, .int .i64 x.lo, .int .i64 x.hi, .bool x.ext, .bool x.opt, .slice a n c] 37) (.cells #[.int .i64 0, .int .i64 0, .bool false] 45)
  have BS : BoxS 37 w.heap.size W0 x a n c := ⟨by rw [hW0]; exact b0.1⟩
  have X1 : Box3 W0 (w.heap.size + 1) ⟨0, 0, false⟩ := ⟨by rw [hW0]; exact b0.2⟩
  clear b0
  unfold stv
  go_enter Try.func39, Try.ntmps39
  go_wp2_with fail
  rw [← hW0]
  clear hW0
  refine (numberSpan_any (x.hi + 1) _ (by omega) (by omega)).mono ?_
  rintro e w1 ⟨rfl, hb1⟩
  replace BS := BS.kept hb1
  replace X1 := X1.kept hb1
  have hB1 := hB0.trans (hb1.mono hB0.size)
  have hz1 := hb1.size
  obtain ⟨c0, c1, c2, c3, c4, c5⟩ := BS.cells
  obtain ⟨r, hr⟩ : ∃ r, r = numSp (x.hi + 1) := ⟨_, rfl⟩
  have rf : r.f = wid (x.hi + 1) := by rw [hr]; rfl
  have rm : r.m = wid (x.hi + 1) := by rw [hr]; rfl
  have HR : Hid (r = numSp (x.hi + 1) ∧ r.f = wid (x.hi + 1) ∧ r.m = wid (x.hi + 1)) := ⟨hr, rf, rm⟩
  rw [← hr]
  clear hr rf rm
  obtain ⟨W1, hW1⟩ : ∃ W1, W1 = (w1.alloc (.cells #[.int .i64 r.f, .int .i64 r.m, .bool r.k] 45)) := ⟨_, rfl⟩
  have hb2 : Below w1.heap.size w1 W1 := by rw [hW1]; exact (Below.refl _ _).alloc (Nat.le_refl _) _
  have X3 : Box3 W1 w1.heap.size r := by rw [hW1]; exact box3_new w1 r
  replace X1 := X1.kept hb2
  have hB2 := hB1.trans (hb2.mono hB1.size)
  replace BS := BS.kept hb2
  have hgl : w.heap.size + 1 < w1.heap.size := by omega
  have HG : Hid (w.heap.size + 1 < w1.heap.size) := hgl
  simp only [spv]
  have HW1 : Hid (W1 = (w1.alloc (.cells #[.int .i64 r.f, .int .i64 r.m, .bool r.k] 45))) := hW1
  clear hW1 hB1 hb1 hb2 hB0
  go_upto_region 2 with fail
  rw [← HW1.out]
  clear HW1 c0 c1 c2 c3 c4 c5
  obtain ⟨d0, d1, d2, d3, d4, d5⟩ := BS.cells
  obtain ⟨ex, hex⟩ : ∃ ex, ex = x.ext := ⟨_, rfl⟩
  have HE : Hid (ex = x.ext) := hex
  rw [← hex] at d3
  clear hex
  obtain ⟨y0, y1, y2⟩ := X3.hold
  obtain ⟨z0, z1, z2⟩ := X1.hold
  have f0 := X1.fr 0
  have f1 := X1.fr 1
  have f2 := X1.fr 2
  cases ex with
  | false =>
    have F : Hid (_ ∧ _) := ⟨X1.set3 r, below_set3 hB2 (w.heap.size + 1) (by omega) r⟩
    have EQ : Hid (enumSp x.hi x.ext = r) := by show _ = _; rw [← HE.out, HR.out.1]; rfl
    clear X1 X3 hB2 BS
    go_wp2
    try simp only [Exit.inBlock, Exit.then]
    exact bodyPost_ret (results_sp rfl _ (w.heap.size + 1) rfl _ r F.out.1) rfl ⟨by first | (rw [EQ.out]; done) | (rw [EQ.out]; rfl), F.out.2⟩
  | true =>
    have F : Hid (_ ∧ _ ∧ _) := ⟨X1, X3, hB2⟩
    have EQ : Hid (enumSp x.hi x.ext = (⟨r.f, 20, r.k⟩ : Sp).cat (flagSp true)) := by
      show _ = _
      rw [← HE.out, HR.out.2.1, HR.out.1]
      show (⟨wid (x.hi + 1), max (wid (x.hi + 1)) (wid 1000001), false⟩ : Sp).cat (flagSp true) = _
      rw [widE, Int.max_eq_right (by omega)]
      rfl
    have hf1 := field1
    have O1 : Hid ((⟨r.f, 20, r.k⟩ : Sp).ok 2000000000000000000) := by
      have := HR.out.2.1
      exact ⟨by show 0 ≤ r.f; omega, by show r.f ≤ _; omega, by show (0 : Int) ≤ 20; decide, by show (20 : Int) ≤ _; decide⟩
    have O2 : Hid ((flagSp true).ok 2000000000000000000) := (flagSp_ok true).mono (by decide)
    have hm20 : r.m < 20 := by have := HR.out.2.2; omega
    clear X1 X3 hB2 BS
    go_wp2_with fail
    go_region_with (first | (go_at_call 37; refine (numberSpan_any 1000001 _ (by decide) (by decide)).mono ?_; rintro e w2 ⟨rfl, hb_w2⟩; obtain ⟨p, hp⟩ : ∃ q : Sp, q = numSp 1000001 := ⟨_, rfl⟩; have Hp : Hid (p = numSp 1000001) := hp; rw [← hp]; clear hp; have F1 : Hid (_ ∧ _ ∧ _) := ⟨F.out.1.kept (W1.drew_below hb_w2), F.out.2.1.kept (W1.drew_below hb_w2), F.out.2.2.trans ((W1.drew_below hb_w2).mono F.out.2.2.size)⟩; have y1b := F1.out.2.1.c1; have fr1 := F1.out.2.1.fr 1; have e20 : p.m = 20 := (by rw [Hp.out]; exact widE); clear hb_w2; simp only [spv]))
    all_goals (
      obtain ⟨W2, hW2⟩ : ∃ W2, W2 = w2.setCell ⟨w1.heap.size, 1, none⟩ (.int .i64 20) := ⟨_, rfl⟩
      have F2 : Hid (Box3 W2 (w.heap.size + 1) ⟨0, 0, false⟩ ∧ Box3 W2 w1.heap.size ⟨r.f, 20, r.k⟩ ∧ Below w.heap.size w W2) := by
        rw [hW2]
        exact ⟨F1.out.1.same (heap_setCell_other _ _ _ _ (by simp; omega)), F1.out.2.1.set1 20, F1.out.2.2.setCell (by simp; omega) _⟩
      go_wp2_with fail
      rw [← hW2]
      clear hW2 d0 d1 d2 d3 d4 d5 y0 y1 y2 z0 z1 z2 f0 f1 f2
      have u0 := F2.out.2.1.c0
      have u1 := F2.out.2.1.c1
      have u2 := F2.out.2.1.c2
      go_region_with (first | (go_at_call 46; refine (flagSpan_any true _).mono ?_; rintro e w3 ⟨rfl, hb_w3⟩; obtain ⟨u, hu⟩ : ∃ q : Sp, q = flagSp true := ⟨_, rfl⟩; have Hu : Hid (u = flagSp true) := hu; rw [← hu]; clear hu; have F3 : Hid (_ ∧ _ ∧ _) := ⟨F2.out.1.kept (W2.drew_below hb_w3), F2.out.2.1.kept (W2.drew_below hb_w3), F2.out.2.2.trans ((W2.drew_below hb_w3).mono F2.out.2.2.size)⟩; have v0 := F3.out.2.1.c0; have v1 := F3.out.2.1.c1; have v2 := F3.out.2.1.c2; clear hb_w3; simp only [spv]) | (go_at_call 45; refine (with_any ⟨r.f, 20, r.k⟩ u _ O1.out (by rw [Hu.out]; exact O2.out)).mono ?_; rintro e w4 ⟨rfl, hb_w4⟩; obtain ⟨q, hq⟩ : ∃ q : Sp, q = (⟨r.f, 20, r.k⟩ : Sp).cat u := ⟨_, rfl⟩; have Hq : Hid (q = (⟨r.f, 20, r.k⟩ : Sp).cat u) := hq; rw [← hq]; clear hq; have X := F3.out.1.kept hb_w4; have B := F3.out.2.2.trans (hb_w4.mono F3.out.2.2.size); have f0 := X.fr 0; have f1 := X.fr 1; have f2 := X.fr 2; have z0 := X.c0; have z1 := X.c1; have z2 := X.c2; have F4 : Hid (_ ∧ _) := ⟨X.set3 q, below_set3 B (w.heap.size + 1) (by omega) q⟩; clear X B; clear hb_w4; simp only [spv]))
      all_goals (
        go_wp2
        try simp only [Exit.inBlock, Exit.then]
        exact bodyPost_ret (results_sp rfl _ (w.heap.size + 1) rfl _ q F4.out.1) rfl ⟨by rw [EQ.out, Hq.out, Hu.out]; try rfl, F4.out.2⟩))

end Go.Proofs.Ytglmaoigjnoklaa
