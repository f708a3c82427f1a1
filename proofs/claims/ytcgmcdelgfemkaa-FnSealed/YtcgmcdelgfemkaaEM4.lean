import Derived.Test.YtcgmcdelgfemkaaEM3
namespace Go.Proofs.Ytcgmcdelgfemkaa
open Go.RowKit

/-- What Lock answers: salt, rounds, body, tag, flag. -/
structure LkV where
  ss : List Int
  rd : Int
  bs : List Int
  tg : Int
  ok : Bool
def lockT (data : List Int) (s : ByteArray) (salt : List Int) (r : Int) : LkV := ⟨salt, r, maskL (pkN s salt r.toNat) data, tagN (pkN s salt r.toNat) (maskL (pkN s salt r.toNat) data), true⟩
open Classical in
noncomputable def lockR (data : List Int) (s : ByteArray) (salt : List Int) (r : Int) : LkV :=
  if lkP data.length s.size salt.length r then lockT data s salt r else ⟨[], 0, [], 0, false⟩
theorem maskL_len (k : Int) (bs : List Int) : (maskL k bs).length = bs.length := by
  unfold maskL xorL
  split
  · rfl
  · exact xorTo_len _ _ _
theorem lockR_len (data : List Int) (s : ByteArray) (salt : List Int) (r : Int) : (lockR data s salt r).ss.length ≤ 16 ∧ (lockR data s salt r).bs.length ≤ 4000 := by
  unfold lockR
  split
  · rename_i h
    obtain ⟨h1, _, h3, _⟩ := h
    exact ⟨h3, by show (maskL _ data).length ≤ 4000; rw [maskL_len]; exact h1⟩
  · exact ⟨by simp, by simp⟩
/-- Lock's answer in w'. -/
def LkA (t : LkV) (w : World) (e : Ending) (w' : World) : Prop :=
  ∃ sa sn sc ba bn bc, e = .returned (.tuple #[stv sa sn sc t.rd ba bn bc t.tg, .bool t.ok]) ∧ StW w.heap.size w'.heap.size w' sa sn sc t.ss ba bn bc t.bs ∧ (sa = none → sc = 0) ∧ (ba = none → bc = 0) ∧ Below w.heap.size w w'
theorem StW.zero (B E : Nat) (w : World) (h : B ≤ E) : StW B E w none 0 0 [] none 0 0 [] :=
  ⟨⟨rfl, fun k hk => absurd hk (Nat.not_lt_zero _), by simp⟩, ⟨rfl, fun k hk => absurd hk (Nat.not_lt_zero _), by simp⟩, fun hp => absurd hp (Nat.lt_irrefl _), fun hp => absurd hp (Nat.lt_irrefl _), B, Nat.le_refl _, h, .inl ⟨(fun _ _ h => by cases h), (fun _ _ h => by cases h)⟩⟩
theorem zero_blk (w : World) : (w.alloc (.cells #[.slice none 0 0, .int .i64 0, .slice none 0 0, .int .u64 0] 28)).heap[w.heap.size]? = some (.cells #[.slice none 0 0, .int .i64 0, .slice none 0 0, .int .u64 0] 28) := heap_alloc_new w _
/-- A write into a block that holds none of the rows. -/
theorem Own.off {B g : Nat} {w : World} {a : Option Addr} {n cap : Nat} {bs : List Int} (h : Own B w a n cap bs) (i : Nat) (v : Value) (hg : g < B) : Own B (w.setCell ⟨g, i, none⟩ v) a n cap bs := by
  refine ⟨⟨h.row.1, ?_⟩, h.byte⟩
  rcases h.row.2 with hn | ⟨k, cap', cur, hv, hbb, hgg, rest⟩
  · exact .inl hn
  · exact .inr ⟨k, cap', cur, hv, hbb, (Below.heap_setCell _ _ _ _ (by show k ≠ g; omega)).trans hgg, rest⟩
theorem Own.off4 {B g : Nat} {w : World} {a : Option Addr} {n cap : Nat} {bs : List Int} (h : Own B w a n cap bs) (v0 v1 v2 v3 : Value) (hg : g < B) : Own B ((((w.setCell ⟨g, 0, none⟩ v0).setCell ⟨g, 1, none⟩ v1).setCell ⟨g, 2, none⟩ v2).setCell ⟨g, 3, none⟩ v3) a n cap bs :=
  (((h.off 0 v0 hg).off 1 v1 hg).off 2 v2 hg).off 3 v3 hg
theorem size4 (w : World) (g : Nat) (v0 v1 v2 v3 : Value) : ((((w.setCell ⟨g, 0, none⟩ v0).setCell ⟨g, 1, none⟩ v1).setCell ⟨g, 2, none⟩ v2).setCell ⟨g, 3, none⟩ v3).heap.size = w.heap.size := by simp
theorem below4 {B : Nat} {w w' : World} (h : Below B w w') (g : Nat) (hg : B ≤ g) (v0 v1 v2 v3 : Value) : Below B w ((((w'.setCell ⟨g, 0, none⟩ v0).setCell ⟨g, 1, none⟩ v1).setCell ⟨g, 2, none⟩ v2).setCell ⟨g, 3, none⟩ v3) :=
  (((h.setCell hg v0).setCell hg v1).setCell hg v2).setCell hg v3
theorem In.of_own {B : Nat} {w : World} {a : Option Addr} {n cap : Nat} {bs : List Int} (h : Own B w a n cap bs) : In a n B w.heap.size := h.in_
/-- Cells of the block g, of four, and that none is frozen. -/
def Blk4 (w : World) (g : Nat) (c0 c1 c2 c3 : Value) : Prop := w.heap[g]? = some (.cells #[c0, c1, c2, c3] 28)
theorem Blk4.cells {w : World} {g : Nat} {c0 c1 c2 c3 : Value} (h : Blk4 w g c0 c1 c2 c3) : (w.cell? ⟨g, 0, none⟩ = some c0 ∧ w.cell? ⟨g, 1, none⟩ = some c1 ∧ w.cell? ⟨g, 2, none⟩ = some c2 ∧ w.cell? ⟨g, 3, none⟩ = some c3) ∧ w.frozen? ⟨g, 0, none⟩ = false ∧ w.frozen? ⟨g, 1, none⟩ = false ∧ w.frozen? ⟨g, 2, none⟩ = false ∧ w.frozen? ⟨g, 3, none⟩ = false :=
  ⟨⟨(cell_of_row _ _ 0 _ 28 (0, 0) h).trans rfl, (cell_of_row _ _ 1 _ 28 (0, 0) h).trans rfl, (cell_of_row _ _ 2 _ 28 (0, 0) h).trans rfl, (cell_of_row _ _ 3 _ 28 (0, 0) h).trans rfl⟩, frozen_of_row w _ 0 _ 28 h, frozen_of_row w _ 1 _ 28 h, frozen_of_row w _ 2 _ 28 h, frozen_of_row w _ 3 _ 28 h⟩
theorem Blk4.lt {w : World} {g : Nat} {c0 c1 c2 c3 : Value} (h : Blk4 w g c0 c1 c2 c3) : g < w.heap.size := (Array.getElem?_eq_some_iff.1 h).1
theorem Blk4.kept {w w' : World} {g : Nat} {c0 c1 c2 c3 : Value} (h : Blk4 w g c0 c1 c2 c3) (hb : Below w.heap.size w w') : Blk4 w' g c0 c1 c2 c3 := (hb.block _ h.lt).trans h
theorem Blk4.touch {lo hi : Nat} {w w' : World} {g : Nat} {c0 c1 c2 c3 : Value} (h : Blk4 w g c0 c1 c2 c3) (ht : Touch lo hi w w') (hg : g < lo ∨ hi ≤ g) : Blk4 w' g c0 c1 c2 c3 := (ht.block _ h.lt hg).trans h

set_option maxRecDepth 10000 in
set_option maxHeartbeats 2000000 in
theorem implLock_any (a : Option Addr) (n c : Nat) (data : List Int) (s : ByteArray) (b : Option Addr) (m d : Nat) (salt : List Int) (r : Int) (w : World) (h1 : Row w a n data) (hc1 : a = none → c = 0) (h2 : Row w b m salt) (hc2 : b = none → d = 0) :
    Calls Try.prog 7 #[.slice a n c, .string s, .slice b m d, .int .i64 r] w (LkA (lockR data s salt r) w) := by
  have H1 : Hid (Row w a n data) := h1
  have H2 : Hid (Row w b m salt) := h2
  have L1 : Hid (data.length = n) := h1.len
  have L2 : Hid (salt.length = m) := h2.len
  clear h1 h2
  obtain ⟨wb, hwb⟩ : ∃ wb, wb = w.alloc (.cells #[.slice none 0 0, .int .i64 0, .slice none 0 0, .int .u64 0] 28) := ⟨_, rfl⟩
  have B0 : Below w.heap.size w wb := by rw [hwb]; exact (Below.refl _ _).alloc (Nat.le_refl _) _
  have HZ : Hid (Blk4 wb w.heap.size (.slice none 0 0) (.int .i64 0) (.slice none 0 0) (.int .u64 0)) := by rw [hwb]; exact zero_blk w
  have hl0 : w.heap.size < wb.heap.size := HZ.out.lt
  have HW : Hid (_ = _) := hwb
  clear hwb
  by_cases hp : lkP n s.size m r
  · have HP : Hid (lkP n s.size m r) := hp
    obtain ⟨rn, rfl⟩ : ∃ rn : Nat, r = (rn : Int) := ⟨r.toNat, by have := hp.2.2.2; omega⟩
    have HV : Hid (lockR data s salt rn = lockT data s salt rn) := by show _ = _; unfold lockR; rw [if_pos (by rw [L1.out, L2.out]; exact HP.out)]
    have hn : n ≤ 4000 := hp.1
    have hs : s.size ≤ 100 := hp.2.1
    have hm : m ≤ 16 := hp.2.2.1
    have hrn : rn ≤ 1000 := by have := hp.2.2.2; omega
    clear hp
    obtain ⟨k, hk⟩ : ∃ k, k = pkN s salt rn := ⟨_, rfl⟩
    have hkb : U64 k := by rw [hk]; exact pkN_bd _ _ _
    have HKV : Hid (lockT data s salt rn = ⟨salt, rn, maskL k data, tagN k (maskL k data), true⟩) := by show _ = _; rw [hk]; unfold lockT; rw [Int.toNat_natCast]
    have HK : Hid (k = pkN s salt rn) := hk
    clear hk
    go_enter Try.func7, Try.ntmps7
    go_upto_region 1 with fail
    rw [← HW.out]
    clear HW
    go_wp2_with fail
    refine (lockOk_t a n c s b m d (rn : Int) _ HP.out).mono ?_
    rintro e w1 ⟨rfl, hw⟩
    have hw2 := hw.symm
    subst hw2
    go_wp2_with fail
    refine (lockKey_any s b m d salt rn _ (H2.out.kept B0) hs hm hc2 hrn).mono ?_
    rintro e w2 ⟨rfl, hb2⟩
    rw [← HK.out]
    have B2 := keepT B0 hb2
    go_wp2_with fail
    refine (masked_any k a n c data _ hkb (H1.out.kept B2) (by omega) hc1).mono ?_
    rintro e w3 ⟨a3, c3, rfl, ho3, hb3⟩
    have B3 := keepT B2 hb3
    go_wp2_with fail
    refine (clone_any b m d salt _ (H2.out.kept B3) hc2 (by omega)).mono ?_
    rintro e w4 ⟨a4, c4, rfl, ho4, hb4⟩
    have B4 := keepT B3 hb4
    have ho34 := ho3.kept hb4
    go_wp2_with fail
    refine (sealTag_any k a3 n c3 (maskL k data) _ hkb ho34.toRow (by omega) ho3.nil).mono ?_
    rintro e w5 ⟨rfl, hb5⟩
    have B5 := keepT B4 hb5
    have HZ5 : Hid (Blk4 w5 w.heap.size (.slice none 0 0) (.int .i64 0) (.slice none 0 0) (.int .u64 0)) := HZ.out.kept (keepT hb2 (keepT hb3 (keepT hb4 hb5)))
    obtain ⟨⟨x0, x1, x2, x3⟩, y0, y1, y2, y3⟩ := HZ5.out.cells
    have hl5 := HZ5.out.lt
    have s2 := hb2.size
    have s3 := hb3.size
    have s4 := hb4.size
    have s5 := hb5.size
    go_wp2
    try simp only [Exit.inBlock, Exit.then]
    have hO3 := ((ho34.kept hb5).mono (show wb.heap.size ≤ w2.heap.size from s2)).off4 (g := w.heap.size) (.slice a4 m c4) (.int .i64 rn) (.slice a3 n c3) (.int .u64 (tagN k (maskL k data))) hl0
    have hO4 := ((ho4.kept hb5).mono (show wb.heap.size ≤ w3.heap.size by omega)).off4 (g := w.heap.size) (.slice a4 m c4) (.int .i64 rn) (.slice a3 n c3) (.int .u64 (tagN k (maskL k data))) hl0
    refine bodyPost_ret (results_so rfl _ w.heap.size rfl _ rfl _ _ _ _ _ (heap_set4 HZ5.out _ _ _ _)) rfl ?_
    rw [HV.out, HKV.out]
    refine ⟨a4, m, c4, a3, n, c3, rfl, ⟨hO4.toRow, hO3.toRow, fun _ => hO4.mono (by omega), fun _ => hO3.mono (by omega), w3.heap.size, by omega, by rw [size4]; omega, .inr ⟨ho3.in_.mono (by omega) (Nat.le_refl _), ?_⟩⟩, ho4.nil, ho3.nil, below4 B5 _ (Nat.le_refl _) _ _ _ _⟩
    rw [size4]
    exact ho4.in_.mono (Nat.le_refl _) (by omega)
  · have HP : Hid (¬ lkP n s.size m r) := hp
    have HV : Hid (lockR data s salt r = ⟨[], 0, [], 0, false⟩) := by show _ = _; unfold lockR; rw [if_neg (by rw [L1.out, L2.out]; exact HP.out)]
    clear hp
    obtain ⟨⟨x0, x1, x2, x3⟩, y0, y1, y2, y3⟩ := HZ.out.cells
    go_enter Try.func7, Try.ntmps7
    go_upto_region 1 with fail
    rw [← HW.out]
    clear HW
    go_wp2_with fail
    refine (lockOk_f a n c s b m d r _ HP.out).mono ?_
    rintro e w1 ⟨rfl, hw⟩
    have hw2 := hw.symm
    subst hw2
    go_wp2
    try simp only [Exit.inBlock, Exit.then]
    refine bodyPost_ret (results_so rfl _ w.heap.size rfl _ rfl _ _ _ _ _ (heap_set4 HZ.out _ _ _ _)) rfl ?_
    rw [HV.out]
    exact ⟨none, 0, 0, none, 0, 0, rfl, StW.zero _ _ _ (by rw [size4]; omega), (fun _ => rfl), (fun _ => rfl), below4 B0 _ (Nat.le_refl _) _ _ _ _⟩

set_option maxRecDepth 10000 in
set_option maxHeartbeats 2000000 in
theorem specLock_any (a : Option Addr) (n c : Nat) (data : List Int) (s : ByteArray) (b : Option Addr) (m d : Nat) (salt : List Int) (r : Int) (w : World) (h1 : Row w a n data) (hc1 : a = none → c = 0) (h2 : Row w b m salt) (hc2 : b = none → d = 0) :
    Calls Try.prog 8 #[.slice a n c, .string s, .slice b m d, .int .i64 r] w (LkA (lockR data s salt r) w) := by
  obtain ⟨i0, hi, hz0, hz1, hz2⟩ := info_parts Try.info5
  have H1 : Hid (Row w a n data) := h1
  have H2 : Hid (Row w b m salt) := h2
  have L1 : Hid (data.length = n) := h1.len
  have L2 : Hid (salt.length = m) := h2.len
  clear h1 h2
  obtain ⟨wb, hwb⟩ : ∃ wb, wb = w.alloc (.cells #[.slice none 0 0, .int .i64 0, .slice none 0 0, .int .u64 0] 28) := ⟨_, rfl⟩
  have B0 : Below w.heap.size w wb := by rw [hwb]; exact (Below.refl _ _).alloc (Nat.le_refl _) _
  have HZ : Hid (Blk4 wb w.heap.size (.slice none 0 0) (.int .i64 0) (.slice none 0 0) (.int .u64 0)) := by rw [hwb]; exact zero_blk w
  have hl0 : w.heap.size < wb.heap.size := HZ.out.lt
  have HW : Hid (_ = _) := hwb
  clear hwb
  by_cases hp : lkP n s.size m r
  · have HP : Hid (lkP n s.size m r) := hp
    obtain ⟨rn, rfl⟩ : ∃ rn : Nat, r = (rn : Int) := ⟨r.toNat, by have := hp.2.2.2; omega⟩
    have HV : Hid (lockR data s salt rn = lockT data s salt rn) := by show _ = _; unfold lockR; rw [if_pos (by rw [L1.out, L2.out]; exact HP.out)]
    have hn : n ≤ 4000 := hp.1
    have hs : s.size ≤ 100 := hp.2.1
    have hm : m ≤ 16 := hp.2.2.1
    have hrn : rn ≤ 1000 := by have := hp.2.2.2; omega
    clear hp
    obtain ⟨k, hk⟩ : ∃ k, k = pkN s salt rn := ⟨_, rfl⟩
    have hkb : U64 k := by rw [hk]; exact pkN_bd _ _ _
    have HKV : Hid (lockT data s salt rn = ⟨salt, rn, maskL k data, tagN k (maskL k data), true⟩) := by show _ = _; rw [hk]; unfold lockT; rw [Int.toNat_natCast]
    have HK : Hid (k = pkN s salt rn) := hk
    clear hk
    go_enter Try.func8, Try.ntmps8
    go_upto_region 1 with fail
    rw [← HW.out]
    clear HW
    go_wp2_with fail
    refine (l17LockOk_t a n c s b m d (rn : Int) _ HP.out).mono ?_
    rintro e w1 ⟨rfl, hw⟩
    have hw2 := hw.symm
    subst hw2
    go_wp2_with fail
    refine (l17PassKey_any s b m d salt rn _ (H2.out.kept B0) hs hm hc2 hrn).mono ?_
    rintro e w2 ⟨rfl, hb2⟩
    rw [← HK.out]
    have B2 := keepT B0 hb2
    have s2 := hb2.size
    have b2a : Below w2.heap.size w2 (w2.alloc (.cells #[] 5)) := (Below.refl _ _).alloc (Nat.le_refl _) _
    have HO : Hid (Own w2.heap.size (w2.alloc (.cells #[] 5)) (some ⟨w2.heap.size, 0, none⟩) 0 0 []) := own_zeroE _ _ _ rfl (Nat.le_refl _)
    have HR : Hid (Row (w2.alloc (.cells #[] 5)) b m salt) := (H2.out.kept B2).kept b2a
    go_wp2_with (first | (at_builtin; refine wpList_append_row _ rfl (.tmp 23) (.tmp 24) 22 rfl w2.heap.size i0 Try.underlying22 hi hz0 hz1 hz2 _ _ _ rfl HO.out.row b m d salt rfl HR.out hc2 (by omega) b2a.size ?_; intro v3 w3 hv3 hg3; obtain ⟨a3, c3, rfl, ho3⟩ := own_appended (xs := []) (ys := salt) hv3 HO.out.byte HR.out.byte; have hb3 : Below w2.heap.size w2 w3 := below_appended b2a b2a.size HO.out.row hg3) | fail)
    simp only [List.nil_append, Nat.zero_add] at ho3 ⊢
    have B3 := keepT B2 hb3
    have s3 := hb3.size
    refine (l17Stream_any k a n c data _ hkb (H1.out.kept B3) (by omega) hc1).mono ?_
    rintro e w4 ⟨a4, c4, rfl, ho4, hb4⟩
    have B4 := keepT B3 hb4
    have s4 := hb4.size
    obtain ⟨w5, hw5⟩ : ∃ w5, w5 = w4.alloc (.cells #[.slice a3 m c3, .int .i64 rn, .slice a4 n c4, .int .u64 0] 28) := ⟨_, rfl⟩
    have hb5 : Below w4.heap.size w4 w5 := by rw [hw5]; exact (Below.refl _ _).alloc (Nat.le_refl _) _
    have HS5 : Hid (Blk4 w5 w4.heap.size (.slice a3 m c3) (.int .i64 rn) (.slice a4 n c4) (.int .u64 0)) := by rw [hw5]; exact heap_alloc_new w4 _
    have HW5 : Hid (_ = _) := hw5
    clear hw5
    go_upto_region 5 with fail
    rw [← HW5.out]
    clear HW5
    obtain ⟨⟨p0, p1, p2, p3⟩, q0, q1, q2, q3⟩ := HS5.out.cells
    go_wp2_with fail
    refine (l17Tag_any k a4 n c4 (maskL k data) _ hkb ((ho4.kept hb5).toRow) (by omega) ho4.nil).mono ?_
    rintro e w6 ⟨rfl, hb6⟩
    have s5 := hb5.size
    have s6 := hb6.size
    have HS6 : Hid (Blk4 w6 w4.heap.size (.slice a3 m c3) (.int .i64 rn) (.slice a4 n c4) (.int .u64 0)) := HS5.out.kept hb6
    clear p0 p1 p2 p3 q0 q1 q2 q3
    obtain ⟨⟨p0, p1, p2, p3⟩, q0, q1, q2, q3⟩ := HS6.out.cells
    obtain ⟨tg, htg⟩ : ∃ tg, tg = tagN k (maskL k data) := ⟨_, rfl⟩
    have HTG : Hid (tg = tagN k (maskL k data)) := htg
    rw [← htg]
    clear htg
    have hl6 := HS6.out.lt
    obtain ⟨w7, hw7⟩ : ∃ w7, w7 = w6.setCell ⟨w4.heap.size, 3, none⟩ (.int .u64 tg) := ⟨_, rfl⟩
    have HS7 : Hid (Blk4 w7 w4.heap.size (.slice a3 m c3) (.int .i64 rn) (.slice a4 n c4) (.int .u64 tg)) := by rw [hw7]; exact heap_setCell_same w6 w4.heap.size 3 _ 28 (.int .u64 tg) HS6.out
    have hg7 : w.heap.size ≠ w4.heap.size := by omega
    have HZ6 : Hid (Blk4 w6 w.heap.size (.slice none 0 0) (.int .i64 0) (.slice none 0 0) (.int .u64 0)) := HZ.out.kept (keepT hb2 (keepT hb3 (keepT hb4 (keepT hb5 hb6))))
    have HZ7 : Hid (Blk4 w7 w.heap.size (.slice none 0 0) (.int .i64 0) (.slice none 0 0) (.int .u64 0)) := by rw [hw7]; exact (Below.heap_setCell _ _ _ _ hg7).trans HZ6.out
    have hsz7 : w7.heap.size = w6.heap.size := by rw [hw7]; simp
    have B6 := keepT B4 (keepT hb5 hb6)
    have B7 : Below w.heap.size w w7 := by rw [hw7]; exact B6.setCell (by show w.heap.size ≤ w4.heap.size; omega) _
    have hO3 : Own w2.heap.size w7 a3 m c3 salt := by
      rw [hw7]
      have h := ((ho3.kept hb4).kept hb5).kept hb6
      refine ⟨⟨h.row.1, ?_⟩, h.byte⟩
      rcases h.row.2 with hn' | ⟨g, cap', cur, hv, hbb, hgg, rest⟩
      · exact .inl hn'
      · refine .inr ⟨g, cap', cur, hv, hbb, (Below.heap_setCell _ _ _ _ ?_).trans hgg, rest⟩
        rcases ho3.row.2 with ⟨h0, _⟩ | ⟨g', _, _, hv', _, hg', _⟩
        · rw [hv] at h0; cases h0
        · rw [hv] at hv'; simp only [Value.slice.injEq, Option.some.injEq, Addr.mk.injEq, and_true, true_and] at hv'
          have := (Array.getElem?_eq_some_iff.1 hg').1
          show g ≠ w4.heap.size
          omega
    have hO4 : Own w3.heap.size w7 a4 n c4 (maskL k data) := by
      rw [hw7]
      have h := (ho4.kept hb5).kept hb6
      refine ⟨⟨h.row.1, ?_⟩, h.byte⟩
      rcases h.row.2 with hn' | ⟨g, cap', cur, hv, hbb, hgg, rest⟩
      · exact .inl hn'
      · refine .inr ⟨g, cap', cur, hv, hbb, (Below.heap_setCell _ _ _ _ ?_).trans hgg, rest⟩
        rcases ho4.row.2 with ⟨h0, _⟩ | ⟨g', _, _, hv', _, hg', _⟩
        · rw [hv] at h0; cases h0
        · rw [hv] at hv'; simp only [Value.slice.injEq, Option.some.injEq, Addr.mk.injEq, and_true, true_and] at hv'
          have := (Array.getElem?_eq_some_iff.1 hg').1
          show g ≠ w4.heap.size
          omega
    have HW7 : Hid (_ = _) := hw7
    clear hw7 hg7
    go_upto_region 6 with fail
    rw [← HW7.out]
    clear HW7 p0 p1 p2 p3 q0 q1 q2 q3
    obtain ⟨⟨p0, p1, p2, p3⟩, q0, q1, q2, q3⟩ := HS7.out.cells
    obtain ⟨⟨x0, x1, x2, x3⟩, y0, y1, y2, y3⟩ := HZ7.out.cells
    have hl7 := HS7.out.lt
    have hz7 := HZ7.out.lt
    go_wp2
    try simp only [Exit.inBlock, Exit.then]
    have hQ3 := (hO3.mono (show wb.heap.size ≤ w2.heap.size from s2)).off4 (g := w.heap.size) (.slice a3 m c3) (.int .i64 rn) (.slice a4 n c4) (.int .u64 tg) hl0
    have hQ4 := (hO4.mono (show wb.heap.size ≤ w3.heap.size by omega)).off4 (g := w.heap.size) (.slice a3 m c3) (.int .i64 rn) (.slice a4 n c4) (.int .u64 tg) hl0
    refine bodyPost_ret (results_so rfl _ w.heap.size rfl _ rfl _ _ _ _ _ (heap_set4 HZ7.out _ _ _ _)) rfl ?_
    rw [HV.out, HKV.out, ← HTG.out]
    refine ⟨a3, m, c3, a4, n, c4, rfl, ⟨hQ3.toRow, hQ4.toRow, fun _ => hQ3.mono (by omega), fun _ => hQ4.mono (by omega), w3.heap.size, by omega, by rw [size4]; omega, .inl ⟨ho3.in_.mono (by omega) (Nat.le_refl _), ?_⟩⟩, ho3.nil, ho4.nil, below4 B7 _ (Nat.le_refl _) _ _ _ _⟩
    rw [size4]
    exact ho4.in_.mono (Nat.le_refl _) (by omega)
  · have HP : Hid (¬ lkP n s.size m r) := hp
    have HV : Hid (lockR data s salt r = ⟨[], 0, [], 0, false⟩) := by show _ = _; unfold lockR; rw [if_neg (by rw [L1.out, L2.out]; exact HP.out)]
    clear hp
    obtain ⟨⟨x0, x1, x2, x3⟩, y0, y1, y2, y3⟩ := HZ.out.cells
    go_enter Try.func8, Try.ntmps8
    go_upto_region 1 with fail
    rw [← HW.out]
    clear HW
    go_wp2_with fail
    refine (l17LockOk_f a n c s b m d r _ HP.out).mono ?_
    rintro e w1 ⟨rfl, hw⟩
    have hw2 := hw.symm
    subst hw2
    go_wp2
    try simp only [Exit.inBlock, Exit.then]
    refine bodyPost_ret (results_so rfl _ w.heap.size rfl _ rfl _ _ _ _ _ (heap_set4 HZ.out _ _ _ _)) rfl ?_
    rw [HV.out]
    exact ⟨none, 0, 0, none, 0, 0, rfl, StW.zero _ _ _ (by rw [size4]; omega), (fun _ => rfl), (fun _ => rfl), below4 B0 _ (Nat.le_refl _) _ _ _ _⟩

end Go.Proofs.Ytcgmcdelgfemkaa
