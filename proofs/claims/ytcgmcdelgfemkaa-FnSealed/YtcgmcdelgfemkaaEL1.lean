import Derived.Test.YtcgmcdelgfemkaaWRd2
import Derived.Test.YtcgmcdelgfemkaaWL1
import Derived.Test.YtcgmcdelgfemkaaEM1
namespace Go.Proofs.Ytcgmcdelgfemkaa
open Go.RowKit

theorem results_four {fn : Func} {t0 t1 t2 t3 : Tmp} (h : fn.results = #[.tmp t0, .tmp t1, .tmp t2, .tmp t3]) (tmps : Array Value) (v0 v1 v2 v3 : Value) (h0 : tmps.getD t0 undef = v0) (h1 : tmps.getD t1 undef = v1) (h2 : tmps.getD t2 undef = v2) (h3 : tmps.getD t3 undef = v3) (w : World) : (results fn tmps).run Try.prog w = .ok (.tuple #[v0, v1, v2, v3]) w := by
  have e0 : tmps[t0]?.getD undef = v0 := by rw [← h0]; simp
  have e1 : tmps[t1]?.getD undef = v1 := by rw [← h1]; simp
  have e2 : tmps[t2]?.getD undef = v2 := by rw [← h2]; simp
  have e3 : tmps[t3]?.getD undef = v3 := by rw [← h3]; simp
  simp [results, h, go_sem, e0, e1, e2, e3]

theorem RdPost.of_below {w w1 w2 : World} {g : Nat} {a : Option Addr} {n cap : Nat} {bs : List Int} (h : RdPost w g a n cap bs w1) (hb : Below w1.heap.size w1 w2) : RdPost w g a n cap bs w2 :=
  ⟨h.1.kept hb, h.2.trans (Touch.of_below hb)⟩
/-- A row of our own keeps while the reader goes on. -/
theorem Own.rd {B g : Nat} {w w' : World} {a a2 : Option Addr} {n cap n2 cap2 : Nat} {bs bs2 : List Int} (h : Own B w a n cap bs) (hp : RdPost w g a2 n2 cap2 bs2 w') (hg : g < B) : Own B w' a n cap bs := h.touched hp.2 (by omega)

set_option maxRecDepth 10000 in
set_option maxHeartbeats 2000000 in
theorem drawContent_any (g : Nat) (a : Option Addr) (n cap : Nat) (bs : List Int) (w : World) (h : Rd w g a n cap bs) :
    Calls Try.prog 20 #[.pointer (some ⟨g, 0, none⟩)] w fun e w' => ∃ (a' : Option Addr) (k c' : Nat) (xs : List Int), e = .returned (.slice a' k c') ∧ k ≤ 4001 ∧ Own w.heap.size w' a' k c' xs ∧ RdPost w g a n cap bs w' := by
  obtain ⟨i0, hi, hz0, hz1, hz2⟩ := info_parts Try.info5
  have H : Hid (Rd w g a n cap bs) := h
  clear h
  go_enter Try.func20, Try.ntmps20
  go_wp2_with fail
  refine (once_any g a n cap bs 20 _ H.out (by decide) (by decide)).mono ?_
  rintro e w1 ⟨v1, rfl, p1⟩
  have q1 := p1.2.size
  cases v1 with
  | true =>
    go_wp2_with fail
    refine (below_any g a n cap bs 2 _ p1.1 (by decide)).mono ?_
    rintro e w2 ⟨v2, rfl, hv0, hv1, p2⟩
    obtain ⟨u, rfl⟩ := Int.eq_ofNat_of_zero_le hv0
    have hu : u ≤ 1 := by omega
    have q2 := p2.2.size
    clear hv0 hv1
    have HM : Hid ((4000 : Int) + (u : Int) = ((4000 + u : Nat) : Int)) := by show _ = _; omega
    go_wp2_with (at_make; refine wpList_make_full _ rfl _ _ 22 rfl w2.heap.size 5 i0 (.int .u8 0) 1 Try.underlying22 hi hz0 hz1 _ _ _ _ (4000 + u) (by first | rfl | exact HM.out) (by first | rfl | exact HM.out) rfl rfl (by rw [hz2]; omega) (by unfold maxLen; omega) (by exact Nat.le_refl _) ?_; intro w8 hown hgrow)
    go_ret
    have P := p1.step p2
    have B : Below w2.heap.size w2 w8 := (Below.refl _ _).grown hgrow (Nat.le_refl _) (by simp)
    exact ⟨_, _, _, _, rfl, by omega, (own_made hown).mono (by omega), P.of_below B⟩
  | false =>
    go_wp2_with fail
    refine (once_any g a n cap bs 6 _ p1.1 (by decide) (by decide)).mono ?_
    rintro e w2 ⟨v2, rfl, p2⟩
    have q2 := p2.2.size
    cases v2 with
    | true =>
      go_wp2_with fail
      refine (below_any g a n cap bs 70 _ p2.1 (by decide)).mono ?_
      rintro e w3 ⟨v3, rfl, hv0, hv1, p3⟩
      obtain ⟨u, rfl⟩ := Int.eq_ofNat_of_zero_le hv0
      have hu : u ≤ 70 := by omega
      have q3 := p3.2.size
      clear hv0 hv1
      have HM : Hid ((62 : Int) + (u : Int) = ((62 + u : Nat) : Int)) := by show _ = _; omega
      go_wp2_with (at_make; refine wpList_make_full _ rfl _ _ 22 rfl w3.heap.size 5 i0 (.int .u8 0) 1 Try.underlying22 hi hz0 hz1 _ _ _ _ (62 + u) (by first | rfl | exact HM.out) (by first | rfl | exact HM.out) rfl rfl (by rw [hz2]; omega) (by unfold maxLen; omega) (by exact Nat.le_refl _) ?_; intro w8 hown hgrow)
      go_ret
      have P := (p1.step p2).step p3
      have B : Below w3.heap.size w3 w8 := (Below.refl _ _).grown hgrow (Nat.le_refl _) (by simp)
      exact ⟨_, _, _, _, rfl, by omega, (own_made hown).mono (by omega), P.of_below B⟩
    | false =>
      go_wp2_with fail
      refine (bytes_any g a n cap bs 12 _ p2.1 (by decide) (by decide)).mono ?_
      rintro e w3 ⟨a3, k3, c3, xs3, rfl, hk3, ho3, p3⟩
      go_wp2
      go_ret
      exact ⟨a3, k3, c3, xs3, rfl, by omega, ho3.mono (by omega), (p1.step p2).step p3⟩

/-- What DrawLock draws. -/
def DlR (w : World) (e : Ending) (w' : World) : Prop :=
  ∃ (a1 : Option Addr) (n1 c1 : Nat) (xs : List Int) (s : ByteArray) (a3 : Option Addr) (n3 c3 : Nat) (ys : List Int) (r : Int), e = .returned (.tuple #[.slice a1 n1 c1, .string s, .slice a3 n3 c3, .int .i64 r]) ∧ n1 ≤ 4001 ∧ Row w' a1 n1 xs ∧ (a1 = none → c1 = 0) ∧ Row w' a3 n3 ys ∧ (a3 = none → c3 = 0) ∧ Below w.heap.size w w'

set_option maxRecDepth 10000 in
set_option maxHeartbeats 4000000 in
theorem drawLock_any (a : Option Addr) (n cap : Nat) (bs : List Int) (w : World) (h : Row w a n bs) (hn : n ≤ 1000000000) :
    Calls Try.prog 6 #[.slice a n cap] w (DlR w) := by
  obtain ⟨i0, hi, hz0, hz1, hz2⟩ := info_parts Try.info5
  have H : Hid (Row w a n bs) := h
  clear h
  go_enter Try.func6, Try.ntmps6
  go_wp2_with fail
  refine (open_any a n cap bs _ H.out hn).mono ?_
  rintro e w1 ⟨rfl, hr1, hb1⟩
  have hg : w.heap.size < w1.heap.size := hr1.lt
  go_wp2_with fail
  refine (drawContent_any w.heap.size a n cap bs _ hr1).mono ?_
  rintro e w2 ⟨a3, k3, c3, xs, rfl, hk3, ho2, p2⟩
  have q2 := p2.2.size
  go_wp2_with fail
  refine (bytes_any w.heap.size a n cap bs 8 _ p2.1 (by decide) (by decide)).mono ?_
  rintro e w4 ⟨a4, k4, c4, xs4, rfl, hk4, ho4, p4⟩
  have q4 := p4.2.size
  have HX4 : Hid (Own w1.heap.size w4 a3 k3 c3 xs) := ho2.rd p4 hg
  have P4 := p2.step p4
  have hcv := convert_row (cap := c4) ho4.toRow
  obtain ⟨s4, hs4⟩ : ∃ s4, s4 = strOfNums xs4 := ⟨_, rfl⟩
  rw [← hs4] at hcv
  clear hs4 ho2 ho4
  go_wp2_with fail
  refine (once_any w.heap.size a n cap bs 20 _ p4.1 (by decide) (by decide)).mono ?_
  rintro e w5 ⟨v5, rfl, p5⟩
  have q5 := p5.2.size
  have HX5 : Hid (Own w1.heap.size w5 a3 k3 c3 xs) := HX4.out.rd p5 hg
  have P5 := P4.step p5
  clear hcv P4 HX4
  cases v5 with
  | true =>
    go_wp2_with fail
    refine (below_any w.heap.size a n cap bs 2 _ p5.1 (by decide)).mono ?_
    rintro e w6 ⟨v6, rfl, hv0, hv1, p6⟩
    obtain ⟨u, rfl⟩ := Int.eq_ofNat_of_zero_le hv0
    have hu : u ≤ 1 := by omega
    have q6 := p6.2.size
    clear hv0 hv1
    have HM : Hid ((100 : Int) + (u : Int) = ((100 + u : Nat) : Int)) := by show _ = _; omega
    go_wp2_with (at_make; refine wpList_make_full _ rfl _ _ 22 rfl w6.heap.size 5 i0 (.int .u8 0) 1 Try.underlying22 hi hz0 hz1 _ _ _ _ (100 + u) (by first | rfl | exact HM.out) (by first | rfl | exact HM.out) rfl rfl (by rw [hz2]; omega) (by unfold maxLen; omega) (by exact Nat.le_refl _) ?_; intro wm hown hgrow; have hcm := convert_row (cap := 100 + u) (own_made hown).toRow)
    have bm : Below w6.heap.size w6 wm := (Below.refl _ _).grown hgrow (Nat.le_refl _) (by simp)
    have qm := bm.size
    have P6 := (P5.step p6).of_below bm
    have HX6 : Hid (Own w1.heap.size wm a3 k3 c3 xs) := (HX5.out.rd p6 hg).kept bm
    clear hown hgrow hcm P5 HX5
    go_wp2_with fail
    refine (bytes_any w.heap.size a n cap bs 17 _ P6.1 (by decide) (by decide)).mono ?_
    rintro e w7 ⟨a7, k7, c7, ys, rfl, hk7, ho7, p7⟩
    have q7 := p7.2.size
    have HX7 : Hid (Own w1.heap.size w7 a3 k3 c3 xs) := HX6.out.rd p7 hg
    have P7 := P6.step p7
    go_wp2_with fail
    refine (below_any w.heap.size a n cap bs 30 _ p7.1 (by decide)).mono ?_
    rintro e w8 ⟨v8, rfl, _, _, p8⟩
    have q8 := p8.2.size
    have HX8 : Hid (Own w1.heap.size w8 a3 k3 c3 xs) := HX7.out.rd p8 hg
    have HY8 : Hid (Own wm.heap.size w8 a7 k7 c7 ys) := ho7.rd p8 (by omega)
    have P8 := P7.step p8
    clear HX7 ho7 P7
    go_wp2_with fail
    refine (once_any w.heap.size a n cap bs 12 _ p8.1 (by decide) (by decide)).mono ?_
    rintro e w9 ⟨v9, rfl, p9⟩
    have q9 := p9.2.size
    have HX9 : Hid (Own w1.heap.size w9 a3 k3 c3 xs) := HX8.out.rd p9 hg
    have HY9 : Hid (Own wm.heap.size w9 a7 k7 c7 ys) := HY8.out.rd p9 (by omega)
    have P9 := P8.step p9
    clear HX8 HY8 P8
    cases v9 with
    | true =>
      have hrd : Rd (w9.alloc (.cells #[.int .i64 0, .int .i64 1000, .int .i64 1001] 2)) w.heap.size a n cap bs := p9.1.kept ((Below.refl _ _).alloc (Nat.le_refl _) _)
      have ba : Below w9.heap.size w9 (w9.alloc (.cells #[.int .i64 0, .int .i64 1000, .int .i64 1001] 2)) := (Below.refl _ _).alloc (Nat.le_refl _) _
      have hl9 : w9.heap.size < (w9.alloc (.cells #[.int .i64 0, .int .i64 1000, .int .i64 1001] 2)).heap.size := by simp
      have hnew : (w9.alloc (.cells #[.int .i64 0, .int .i64 1000, .int .i64 1001] 2)).heap[w9.heap.size]? = some (.cells #[.int .i64 0, .int .i64 1000, .int .i64 1001] 2) := heap_alloc_new w9 _
      go_wp2_with fail
      refine (below_any w.heap.size a n cap bs 3 _ hrd (by decide)).mono ?_
      rintro e w10 ⟨v10, rfl, hv0, hv1, p10⟩
      obtain ⟨u, rfl⟩ := Int.eq_ofNat_of_zero_le hv0
      have hu : u = 0 ∨ u = 1 ∨ u = 2 := by omega
      have hb10 := (p10.2.block w9.heap.size hl9 (.inr (by omega))).trans hnew
      have d0 : w10.cell? ⟨w9.heap.size, 0, none⟩ = some (.int .i64 0) := (cell_of_row _ _ 0 _ 2 (0, 0) hb10).trans rfl
      have d1 : w10.cell? ⟨w9.heap.size, 1, none⟩ = some (.int .i64 1000) := (cell_of_row _ _ 1 _ 2 (0, 0) hb10).trans rfl
      have d2 : w10.cell? ⟨w9.heap.size, 2, none⟩ = some (.int .i64 1001) := (cell_of_row _ _ 2 _ 2 (0, 0) hb10).trans rfl
      have HX10 : Hid (Own w1.heap.size w10 a3 k3 c3 xs) := (HX9.out.kept ba).rd p10 hg
      have HY10 : Hid (Own wm.heap.size w10 a7 k7 c7 ys) := (HY9.out.kept ba).rd p10 (by omega)
      have HB10 : Hid (Below w.heap.size w w10) := RdPost.below hb1 ((P9.of_below ba).step p10)
      clear hv0 hv1 hnew hb10 hl9 hrd ba P9 HX9 HY9
      rcases hu with rfl | rfl | rfl
      · go_wp2
        try simp only [Exit.inBlock, Exit.then]
        exact bodyPost_ret (results_four rfl _ _ _ _ _ rfl rfl rfl rfl _) rfl ⟨a3, k3, c3, xs, _, a7, k7, c7, ys, 0, rfl, hk3, HX10.out.toRow, HX10.out.nil, HY10.out.toRow, HY10.out.nil, HB10.out⟩
      · go_wp2
        try simp only [Exit.inBlock, Exit.then]
        exact bodyPost_ret (results_four rfl _ _ _ _ _ rfl rfl rfl rfl _) rfl ⟨a3, k3, c3, xs, _, a7, k7, c7, ys, 1000, rfl, hk3, HX10.out.toRow, HX10.out.nil, HY10.out.toRow, HY10.out.nil, HB10.out⟩
      · go_wp2
        try simp only [Exit.inBlock, Exit.then]
        exact bodyPost_ret (results_four rfl _ _ _ _ _ rfl rfl rfl rfl _) rfl ⟨a3, k3, c3, xs, _, a7, k7, c7, ys, 1001, rfl, hk3, HX10.out.toRow, HX10.out.nil, HY10.out.toRow, HY10.out.nil, HB10.out⟩
    | false =>
      have HB10 : Hid (Below w.heap.size w w9) := RdPost.below hb1 P9
      clear P9
      go_wp2
      try simp only [Exit.inBlock, Exit.then]
      exact bodyPost_ret (results_four rfl _ _ _ _ _ rfl rfl rfl rfl _) rfl ⟨a3, k3, c3, xs, _, a7, k7, c7, ys, v8, rfl, hk3, HX9.out.toRow, HX9.out.nil, HY9.out.toRow, HY9.out.nil, HB10.out⟩
  | false =>
    go_wp2_with fail
    refine (bytes_any w.heap.size a n cap bs 17 _ P5.1 (by decide) (by decide)).mono ?_
    rintro e w7 ⟨a7, k7, c7, ys, rfl, hk7, ho7, p7⟩
    have q7 := p7.2.size
    have HX7 : Hid (Own w1.heap.size w7 a3 k3 c3 xs) := HX5.out.rd p7 hg
    have P7 := P5.step p7
    go_wp2_with fail
    refine (below_any w.heap.size a n cap bs 30 _ p7.1 (by decide)).mono ?_
    rintro e w8 ⟨v8, rfl, _, _, p8⟩
    have q8 := p8.2.size
    have HX8 : Hid (Own w1.heap.size w8 a3 k3 c3 xs) := HX7.out.rd p8 hg
    have HY8 : Hid (Own w5.heap.size w8 a7 k7 c7 ys) := ho7.rd p8 (by omega)
    have P8 := P7.step p8
    clear HX7 ho7 P7
    go_wp2_with fail
    refine (once_any w.heap.size a n cap bs 12 _ p8.1 (by decide) (by decide)).mono ?_
    rintro e w9 ⟨v9, rfl, p9⟩
    have q9 := p9.2.size
    have HX9 : Hid (Own w1.heap.size w9 a3 k3 c3 xs) := HX8.out.rd p9 hg
    have HY9 : Hid (Own w5.heap.size w9 a7 k7 c7 ys) := HY8.out.rd p9 (by omega)
    have P9 := P8.step p9
    clear HX8 HY8 P8
    cases v9 with
    | true =>
      have hrd : Rd (w9.alloc (.cells #[.int .i64 0, .int .i64 1000, .int .i64 1001] 2)) w.heap.size a n cap bs := p9.1.kept ((Below.refl _ _).alloc (Nat.le_refl _) _)
      have ba : Below w9.heap.size w9 (w9.alloc (.cells #[.int .i64 0, .int .i64 1000, .int .i64 1001] 2)) := (Below.refl _ _).alloc (Nat.le_refl _) _
      have hl9 : w9.heap.size < (w9.alloc (.cells #[.int .i64 0, .int .i64 1000, .int .i64 1001] 2)).heap.size := by simp
      have hnew : (w9.alloc (.cells #[.int .i64 0, .int .i64 1000, .int .i64 1001] 2)).heap[w9.heap.size]? = some (.cells #[.int .i64 0, .int .i64 1000, .int .i64 1001] 2) := heap_alloc_new w9 _
      go_wp2_with fail
      refine (below_any w.heap.size a n cap bs 3 _ hrd (by decide)).mono ?_
      rintro e w10 ⟨v10, rfl, hv0, hv1, p10⟩
      obtain ⟨u, rfl⟩ := Int.eq_ofNat_of_zero_le hv0
      have hu : u = 0 ∨ u = 1 ∨ u = 2 := by omega
      have hb10 := (p10.2.block w9.heap.size hl9 (.inr (by omega))).trans hnew
      have d0 : w10.cell? ⟨w9.heap.size, 0, none⟩ = some (.int .i64 0) := (cell_of_row _ _ 0 _ 2 (0, 0) hb10).trans rfl
      have d1 : w10.cell? ⟨w9.heap.size, 1, none⟩ = some (.int .i64 1000) := (cell_of_row _ _ 1 _ 2 (0, 0) hb10).trans rfl
      have d2 : w10.cell? ⟨w9.heap.size, 2, none⟩ = some (.int .i64 1001) := (cell_of_row _ _ 2 _ 2 (0, 0) hb10).trans rfl
      have HX10 : Hid (Own w1.heap.size w10 a3 k3 c3 xs) := (HX9.out.kept ba).rd p10 hg
      have HY10 : Hid (Own w5.heap.size w10 a7 k7 c7 ys) := (HY9.out.kept ba).rd p10 (by omega)
      have HB10 : Hid (Below w.heap.size w w10) := RdPost.below hb1 ((P9.of_below ba).step p10)
      clear hv0 hv1 hnew hb10 hl9 hrd ba P9 HX9 HY9
      rcases hu with rfl | rfl | rfl
      · go_wp2
        try simp only [Exit.inBlock, Exit.then]
        exact bodyPost_ret (results_four rfl _ _ _ _ _ rfl rfl rfl rfl _) rfl ⟨a3, k3, c3, xs, _, a7, k7, c7, ys, 0, rfl, hk3, HX10.out.toRow, HX10.out.nil, HY10.out.toRow, HY10.out.nil, HB10.out⟩
      · go_wp2
        try simp only [Exit.inBlock, Exit.then]
        exact bodyPost_ret (results_four rfl _ _ _ _ _ rfl rfl rfl rfl _) rfl ⟨a3, k3, c3, xs, _, a7, k7, c7, ys, 1000, rfl, hk3, HX10.out.toRow, HX10.out.nil, HY10.out.toRow, HY10.out.nil, HB10.out⟩
      · go_wp2
        try simp only [Exit.inBlock, Exit.then]
        exact bodyPost_ret (results_four rfl _ _ _ _ _ rfl rfl rfl rfl _) rfl ⟨a3, k3, c3, xs, _, a7, k7, c7, ys, 1001, rfl, hk3, HX10.out.toRow, HX10.out.nil, HY10.out.toRow, HY10.out.nil, HB10.out⟩
    | false =>
      have HB10 : Hid (Below w.heap.size w w9) := RdPost.below hb1 P9
      clear P9
      go_wp2
      try simp only [Exit.inBlock, Exit.then]
      exact bodyPost_ret (results_four rfl _ _ _ _ _ rfl rfl rfl rfl _) rfl ⟨a3, k3, c3, xs, _, a7, k7, c7, ys, v8, rfl, hk3, HX9.out.toRow, HX9.out.nil, HY9.out.toRow, HY9.out.nil, HB10.out⟩

end Go.Proofs.Ytcgmcdelgfemkaa
