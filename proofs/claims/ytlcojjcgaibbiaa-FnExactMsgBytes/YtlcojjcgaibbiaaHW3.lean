import Derived.Test.YtlcojjcgaibbiaaHW2
import Derived.Test.YtlcojjcgaibbiaaIT4
import Derived.Test.YtlcojjcgaibbiaaTouch
namespace Go.Proofs.Ytlcojjcgaibbiaa
open Go.RowKit

theorem results_it {fn : Func} {t : Tmp} (h : fn.results = #[.cell t 43]) (tmps : Array Value) (g : Nat) (ht : tmps.getD t undef = .pointer (some ⟨g, 0, none⟩)) (w : World) (c0 c1 c2 c3 c4 : Value)
    (hb : w.heap[g]? = some (.cells #[c0, c1, c2, c3, c4] 43 (0, 0))) : (results fn tmps).run Try.prog w = .ok (.agg #[c0, c1, c2, c3, c4]) w := by
  have d0 : w.cell? ⟨g, 0, none⟩ = some c0 := (cell_of_row _ g 0 _ 43 (0, 0) hb).trans rfl
  have d1 : w.cell? ⟨g, 1, none⟩ = some c1 := (cell_of_row _ g 1 _ 43 (0, 0) hb).trans rfl
  have d2 : w.cell? ⟨g, 2, none⟩ = some c2 := (cell_of_row _ g 2 _ 43 (0, 0) hb).trans rfl
  have d3 : w.cell? ⟨g, 3, none⟩ = some c3 := (cell_of_row _ g 3 _ 43 (0, 0) hb).trans rfl
  have d4 : w.cell? ⟨g, 4, none⟩ = some c4 := (cell_of_row _ g 4 _ 43 (0, 0) hb).trans rfl
  clear hb
  have ht' : tmps[t]?.getD undef = .pointer (some ⟨g, 0, none⟩) := by rw [← ht]; simp
  simp [results, h, go_sem, ht', d0, d1, d2, d3, d4]
/-- The five cells of the block g are written. -/
def put5 (w : World) (g : Nat) (u0 u1 u2 u3 u4 : Value) : World := ((((w.setCell ⟨g, 0, none⟩ u0).setCell ⟨g, 1, none⟩ u1).setCell ⟨g, 2, none⟩ u2).setCell ⟨g, 3, none⟩ u3).setCell ⟨g, 4, none⟩ u4
theorem put5_heap {w : World} {g t : Nat} {c0 c1 c2 c3 c4 : Value} (h : w.heap[g]? = some (.cells #[c0, c1, c2, c3, c4] t (0, 0))) (u0 u1 u2 u3 u4 : Value) : (put5 w g u0 u1 u2 u3 u4).heap[g]? = some (.cells #[u0, u1, u2, u3, u4] t (0, 0)) :=
  heap_setCell_same _ _ 4 _ t _ (heap_setCell_same _ _ 3 _ t _ (heap_setCell_same _ _ 2 _ t _ (heap_setCell_same _ _ 1 _ t _ (heap_setCell_same _ _ 0 _ t _ h))))
theorem touch_set {p q : Nat} (w : World) (g j : Nat) (u : Value) (h1 : p ≤ g) (h2 : g < q) : Touch p q w (w.setCell ⟨g, j, none⟩ u) :=
  ⟨rfl, rfl, rfl, by simp, fun k _ hk => heap_setCell_other w ⟨g, j, none⟩ k u (by simp; omega)⟩
theorem touch_set1 (w : World) (g j : Nat) (u : Value) : Touch g (g + 1) w (w.setCell ⟨g, j, none⟩ u) := touch_set w g j u (Nat.le_refl _) (Nat.lt_succ_self _)
theorem put5_touch (w : World) (g : Nat) (u0 u1 u2 u3 u4 : Value) : Touch g (g + 1) w (put5 w g u0 u1 u2 u3 u4) :=
  ((((touch_set1 w g 0 u0).trans (touch_set1 _ g 1 u1)).trans (touch_set1 _ g 2 u2)).trans (touch_set1 _ g 3 u3)).trans (touch_set1 _ g 4 u4)
/-- The cells of a box that is new, and that none of them is frozen. -/
structure Box5 (w : World) (g : Nat) : Prop where
  b : w.heap[g]? = some (.cells #[.int .i64 0, .int .i64 0, .bool false, .slice none 0 0, .slice none 0 0] 43 (0, 0))
  c0 : w.cell? ⟨g, 0, none⟩ = some (.int .i64 0)
  c1 : w.cell? ⟨g, 1, none⟩ = some (.int .i64 0)
  c2 : w.cell? ⟨g, 2, none⟩ = some (.bool false)
  c3 : w.cell? ⟨g, 3, none⟩ = some (.slice none 0 0)
  c4 : w.cell? ⟨g, 4, none⟩ = some (.slice none 0 0)
  f0 : w.frozen? ⟨g, 0, none⟩ = false
  f1 : w.frozen? ⟨g, 1, none⟩ = false
  f2 : w.frozen? ⟨g, 2, none⟩ = false
  f3 : w.frozen? ⟨g, 3, none⟩ = false
  f4 : w.frozen? ⟨g, 4, none⟩ = false
theorem Box5.of {w : World} {g : Nat} (h : w.heap[g]? = some (.cells #[.int .i64 0, .int .i64 0, .bool false, .slice none 0 0, .slice none 0 0] 43 (0, 0))) : Box5 w g :=
  ⟨h, (cell_of_row _ g 0 _ 43 (0, 0) h).trans rfl, (cell_of_row _ g 1 _ 43 (0, 0) h).trans rfl, (cell_of_row _ g 2 _ 43 (0, 0) h).trans rfl, (cell_of_row _ g 3 _ 43 (0, 0) h).trans rfl, (cell_of_row _ g 4 _ 43 (0, 0) h).trans rfl,
    frozen_of_row w g 0 _ 43 h, frozen_of_row w g 1 _ 43 h, frozen_of_row w g 2 _ 43 h, frozen_of_row w g 3 _ 43 h, frozen_of_row w g 4 _ 43 h⟩
def box5 (w : World) : World := w.alloc (.cells #[.int .i64 0, .int .i64 0, .bool false, .slice none 0 0, .slice none 0 0] 43)
theorem box5_new (w : World) : (box5 w).heap[w.heap.size]? = some (.cells #[.int .i64 0, .int .i64 0, .bool false, .slice none 0 0, .slice none 0 0] 43 (0, 0)) := heap_alloc_new w _
theorem box5_below (w : World) : Below w.heap.size w (box5 w) := (Below.refl _ _).alloc (Nat.le_refl _) _
theorem box5_size (w : World) : (box5 w).heap.size = w.heap.size + 1 := by unfold box5; simp
/-- A number's item. -/
def numI (n : Int) : It := .mk 0 2 false (wbL n) []
/-- The item of bytes. -/
def bytI (bs : List Int) : It := .mk 0 4 false bs []
/-- An item with parts. -/
def boxI (tag : Int) (ks : List It) : It := .mk 1 tag true [] ks

set_option maxRecDepth 10000 in
set_option maxHeartbeats 1000000 in
theorem ownItem_any (tag : Int) (a : Option Addr) (n c : Nat) (ks : List It) (w : World) :
    Calls Try.prog 24 #[.int .i64 tag, .slice a n c] w fun e w' => e = .returned (itv (boxI tag ks) none 0 0 a n c) ∧ Below w.heap.size w w' := by
  go_enter Try.func24, Try.ntmps24
  go_wp2_with fail
  try simp only [Exit.inBlock, Exit.then]
  exact bodyPost_ret (results_it rfl _ w.heap.size rfl _ _ _ _ _ _ (heap_alloc_new w _)) rfl ⟨rfl, (Below.refl _ _).alloc (Nat.le_refl _) _⟩

set_option maxRecDepth 10000 in
set_option maxHeartbeats 1000000 in
theorem l2Box_any (tag : Int) (a : Option Addr) (n c : Nat) (ks : List It) (w : World) :
    Calls Try.prog 36 #[.int .i64 1, .int .i64 tag, .slice a n c] w fun e w' => e = .returned (itv (boxI tag ks) none 0 0 a n c) ∧ Below w.heap.size w w' := by
  go_enter Try.func36, Try.ntmps36
  go_wp2_with fail
  try simp only [Exit.inBlock, Exit.then]
  exact bodyPost_ret (results_it rfl _ w.heap.size rfl _ _ _ _ _ _ (heap_alloc_new w _)) rfl ⟨rfl, (Below.refl _ _).alloc (Nat.le_refl _) _⟩

set_option maxRecDepth 10000 in
set_option maxHeartbeats 1000000 in
theorem bytesItem_any (a : Option Addr) (n c : Nat) (bs : List Int) (w : World) :
    Calls Try.prog 26 #[.slice a n c] w fun e w' => e = .returned (itv (bytI bs) a n c none 0 0) ∧ Below w.heap.size w w' := by
  go_enter Try.func26, Try.ntmps26
  go_wp2_with fail
  try simp only [Exit.inBlock, Exit.then]
  exact bodyPost_ret (results_it rfl _ w.heap.size rfl _ _ _ _ _ _ (heap_alloc_new w _)) rfl ⟨rfl, (Below.refl _ _).alloc (Nat.le_refl _) _⟩

theorem in_at {g k n lo hi : Nat} (h1 : lo ≤ g) (h2 : g < hi) : In (some ⟨g, k, none⟩) n lo hi := by
  intro b off ha _
  simp at ha
  omega
theorem Row.blk {w : World} {g k n : Nat} {bs : List Int} (h : Row w (some ⟨g, k, none⟩) n bs) (hn : 0 < n) : g < w.heap.size := by
  obtain ⟨b, off, ha, hb, _⟩ := h.get 0 hn
  simp at ha
  omega

set_option maxRecDepth 10000 in
set_option maxHeartbeats 1000000 in
theorem numberItem_any (n : Int) (w : World) (h0 : -9223372036854775808 ≤ n) (h1 : n ≤ 9223372036854775807) :
    Calls Try.prog 48 #[.int .i64 n] w fun e w' => ∃ g k, e = .returned (itv (numI n) (some ⟨g, k, none⟩) (wsz n) (wsz n) none 0 0) ∧ w.heap.size ≤ g ∧ Row w' (some ⟨g, k, none⟩) (wsz n) (wbL n) ∧ Below w.heap.size w w' := by
  have hsz := wsz_bd n
  go_enter Try.func48, Try.ntmps48
  go_wp2_with fail
  have hbx := box5_below w
  have hnx := box5_new w
  have hsx := box5_size w
  obtain ⟨wb, hwb⟩ : ∃ wb, wb = box5 w := ⟨_, rfl⟩
  rw [← hwb] at hbx hnx hsx
  unfold box5 at hwb
  rw [← hwb]
  clear hwb
  refine (wholeBytes_any n _ h0 h1).mono ?_
  rintro e w1 ⟨g, k, rfl, hg, hr, hb1⟩
  have hn1 := (hb1.block _ (by omega)).trans hnx
  have B1 : Below w.heap.size w w1 := hbx.trans (hb1.mono hbx.size)
  obtain ⟨_, x0, x1, x2, x3, x4, y0, y1, y2, y3, y4⟩ := Box5.of hn1
  have HR : Hid (Row w1 (some ⟨g, k, none⟩) (wsz n) (wbL n)) := hr
  have HN : Hid (_) := hn1
  have HB : Hid (Below w.heap.size w w1) := B1
  have hgl := hr.blk (by omega)
  have hs1 := hb1.size
  clear hr hn1 B1 hb1 hnx hbx
  go_wp2_with fail
  try simp only [Exit.inBlock, Exit.then]
  refine bodyPost_ret (results_it rfl _ w.heap.size rfl _ _ _ _ _ _ (put5_heap HN.out _ _ _ _ _)) rfl ⟨g, k, rfl, by omega, ?_, ?_⟩
  · exact HR.out.touch (in_at (lo := g) (hi := g + 1) (Nat.le_refl _) (by omega)) (.inr (by omega)) (put5_touch w1 w.heap.size _ _ _ _ _)
  · exact HB.out.trans ((put5_touch w1 w.heap.size _ _ _ _ _).below (Nat.le_refl _) (by omega))

set_option maxRecDepth 10000 in
set_option maxHeartbeats 1000000 in
theorem digestBytes_in (v : Int) (w : World) (h0 : 0 ≤ v) (h1 : v ≤ 18446744073709551615) :
    Calls Try.prog 63 #[.int .u64 v] w fun e w' => ∃ g, e = .returned (.slice (some ⟨g, 0, none⟩) 8 8) ∧ w.heap.size ≤ g ∧ Row w' (some ⟨g, 0, none⟩) 8 (eightI v) ∧ Below w.heap.size w w' := by
  obtain ⟨n, rfl⟩ := Int.eq_ofNat_of_zero_le h0
  go_enter Try.func63, Try.ntmps63
  go_wp2_with fail
  refine (eight_any n _ h1).mono ?_
  rintro e w1 ⟨x0, x1, x2, x3, x4, x5, x6, x7, rfl, hx, hb1⟩
  have HX : Hid (_ = _) := hx
  have HB1 : Hid (_) := hb1
  clear hx hb1
  go_wp2
  go_ret
  refine ⟨w1.heap.size, rfl, HB1.out.size, ⟨eightI_len _, fun k hk => ⟨w1.heap.size, 0, rfl, by simp, ?_⟩, eightI_byte _⟩, HB1.out.alloc HB1.out.size _⟩
  rw [Nat.zero_add, cell_of_row _ w1.heap.size k _ 94 _ (heap_alloc_new w1 _)]
  have e : eightI (n : Int) = [x0, x1, x2, x3, x4, x5, x6, x7] := by rw [HX.out]; rfl
  rw [e]
  match k, hk with
  | 0, _ | 1, _ | 2, _ | 3, _ | 4, _ | 5, _ | 6, _ | 7, _ => rfl

set_option maxRecDepth 10000 in
set_option maxHeartbeats 1000000 in
theorem digestItem_any (v : Int) (w : World) (h0 : 0 ≤ v) (h1 : v ≤ 18446744073709551615) :
    Calls Try.prog 47 #[.int .u64 v] w fun e w' => ∃ g, e = .returned (itv (bytI (eightI v)) (some ⟨g, 0, none⟩) 8 8 none 0 0) ∧ w.heap.size ≤ g ∧ Row w' (some ⟨g, 0, none⟩) 8 (eightI v) ∧ Below w.heap.size w w' := by
  go_enter Try.func47, Try.ntmps47
  go_wp2_with fail
  have hbx := box5_below w
  have hnx := box5_new w
  have hsx := box5_size w
  obtain ⟨wb, hwb⟩ : ∃ wb, wb = box5 w := ⟨_, rfl⟩
  rw [← hwb] at hbx hnx hsx
  unfold box5 at hwb
  rw [← hwb]
  clear hwb
  refine (digestBytes_in v _ h0 h1).mono ?_
  rintro e w1 ⟨g, rfl, hg, hr, hb1⟩
  have hs1 := hb1.size
  go_wp2_with fail
  refine (bytesItem_any (some ⟨g, 0, none⟩) 8 8 (eightI v) _).mono ?_
  rintro e w2 ⟨rfl, hb2⟩
  have hs2 := hb2.size
  have hn1 := (hb2.block _ (by omega)).trans ((hb1.block _ (by omega)).trans hnx)
  have B1 : Below w.heap.size w w2 := (hbx.trans (hb1.mono hbx.size)).trans (hb2.mono (by omega))
  obtain ⟨_, x0, x1, x2, x3, x4, y0, y1, y2, y3, y4⟩ := Box5.of hn1
  have HR : Hid (Row w2 (some ⟨g, 0, none⟩) 8 (eightI v)) := hr.kept hb2
  have HN : Hid (_) := hn1
  have HB : Hid (Below w.heap.size w w2) := B1
  have hgl := hr.blk (by omega)
  clear hr hn1 B1 hb1 hb2 hnx hbx
  unfold itv bytI
  simp only [It.cls, It.tag, It.cons]
  go_wp2_with fail
  try simp only [Exit.inBlock, Exit.then]
  refine bodyPost_ret (results_it rfl _ w.heap.size rfl _ _ _ _ _ _ (put5_heap HN.out _ _ _ _ _)) rfl ⟨g, rfl, by omega, ?_, ?_⟩
  · exact HR.out.touch (in_at (lo := g) (hi := g + 1) (Nat.le_refl _) (by omega)) (.inr (by omega)) (put5_touch w2 w.heap.size _ _ _ _ _)
  · exact HB.out.trans ((put5_touch w2 w.heap.size _ _ _ _ _).below (Nat.le_refl _) (by omega))

theorem Own.touch5 {B lo hi : Nat} {w w' : World} {a : Option Addr} {n cap : Nat} {bs : List Int} (h : Own B w a n cap bs) (ht : Touch lo hi w w') (hd : hi ≤ B) : Own B w' a n cap bs := by
  refine ⟨⟨h.row.1, ?_⟩, h.byte⟩
  rcases h.row.2 with hn' | ⟨g, cap', cur, hv, hbb, hgg, rest⟩
  · exact .inl hn'
  · exact .inr ⟨g, cap', cur, hv, hbb, (ht.block g (Array.getElem?_eq_some_iff.1 hgg).1 (by omega)).trans hgg, rest⟩

set_option maxRecDepth 10000 in
set_option maxHeartbeats 1000000 in
theorem l2Leaf_any (tag : Int) (a : Option Addr) (n c : Nat) (bs : List Int) (w : World) (h : Row w a n bs) (hc : a = none → c = 0) (hn : n ≤ 1000) :
    Calls Try.prog 53 #[.int .i64 0, .int .i64 tag, .slice a n c] w fun e w' => ∃ a' c', e = .returned (itv (.mk 0 tag false bs []) a' n c' none 0 0) ∧ Own (w.heap.size + 1) w' a' n c' bs ∧ Below w.heap.size w w' := by
  obtain ⟨i0, hi, hz0, hz1, hz2⟩ := info_parts Try.info5
  have hbx := box5_below w
  have hnx := box5_new w
  have hsx := box5_size w
  have hal : Below (box5 w).heap.size (box5 w) ((box5 w).alloc (.cells #[] 5)) := (Below.refl _ _).alloc (Nat.le_refl _) _
  have hor0 : Own (w.heap.size + 1) ((box5 w).alloc (.cells #[] 5)) (some ⟨w.heap.size + 1, 0, none⟩) 0 0 [] := own_zero _ _ _ (by rw [hsx]) (by rw [hsx]; exact Nat.le_refl _)
  have hB1 : Below w.heap.size w ((box5 w).alloc (.cells #[] 5)) := hbx.trans (hal.mono hbx.size)
  have hn1 := (hal.block _ (by omega)).trans hnx
  have HR : Hid (Row ((box5 w).alloc (.cells #[] 5)) a n bs) := h.kept (hB1.mono (Nat.le_refl _))
  have HN : Hid (_) := hn1
  have hsz1 : ((box5 w).alloc (.cells #[] 5)).heap.size = w.heap.size + 2 := by simp [hsx]
  have HO : Hid (_) := hor0
  have HB1 : Hid (_) := hB1
  clear h hal hbx hnx hn1 hor0 hB1
  unfold box5 at HR HN HO HB1 hsz1 hsx
  go_enter Try.func53, Try.ntmps53
  go_wp2_with (at_builtin; refine wpList_append_row _ rfl (.tmp 9) (.tmp 10) 22 rfl (w.heap.size + 1) i0 Try.underlying22 hi hz0 hz1 hz2 _ _ _ rfl HO.out.row a n c bs rfl HR.out hc (by omega) (by rw [hsz1]; omega) ?_; intro v1 w1 hv1 hg1; obtain ⟨a1, c1, rfl, ho1⟩ := own_appended (xs := []) (ys := bs) hv1 HO.out.byte HR.out.byte; have hb1 : Below w.heap.size w w1 := below_appended HB1.out HB1.out.size (HO.out.mono (by omega)).row hg1; have ho1' : Own (w.heap.size + 1) w1 a1 n c1 bs := (by simpa using ho1); have hn2 : w1.heap[w.heap.size]? = some (.cells #[.int .i64 0, .int .i64 0, .bool false, .slice none 0 0, .slice none 0 0] 43 (0, 0)) := (hg1.block w.heap.size (by rw [hsz1]; omega) (by show some w.heap.size ≠ some (w.heap.size + 1); simp)).trans HN.out; obtain ⟨_, x0, x1, x2, x3, x4, y0, y1, y2, y3, y4⟩ := Box5.of hn2; have HN2 : Hid (_) := hn2; have HB2 : Hid (Below w.heap.size w w1) := hb1; have HO2 : Hid (Own (w.heap.size + 1) w1 a1 n c1 bs) := ho1'; have hs1 := hg1.size; clear hn2 hb1 ho1 ho1' hv1 hg1)
  try simp only [Exit.inBlock, Exit.then]
  refine bodyPost_ret (results_it rfl _ w.heap.size rfl _ _ _ _ _ _ (put5_heap HN2.out _ _ _ _ _)) rfl ⟨a1, c1, by first | rfl | simp [itv, It.cls, It.tag, It.cons], ?_, ?_⟩
  · exact HO2.out.touch5 (put5_touch w1 w.heap.size _ _ _ _ _) (by omega)
  · exact HB2.out.trans ((put5_touch w1 w.heap.size _ _ _ _ _).below (Nat.le_refl _) HB2.out.size)

set_option maxRecDepth 10000 in
set_option maxHeartbeats 1000000 in
theorem l9Bytes_any (a : Option Addr) (n c : Nat) (bs : List Int) (w : World) (h : Row w a n bs) (hc : a = none → c = 0) (hn : n ≤ 1000) :
    Calls Try.prog 35 #[.slice a n c] w fun e w' => ∃ a c, e = .returned (itv (bytI bs) a n c none 0 0) ∧ Own (w.heap.size + 1) w' a n c bs ∧ Below w.heap.size w w' := by
  have hbx := box5_below w
  have hnx := box5_new w
  have hsx := box5_size w
  obtain ⟨wb, hwb⟩ : ∃ wb, wb = box5 w := ⟨_, rfl⟩
  rw [← hwb] at hbx hnx hsx
  unfold box5 at hwb
  go_enter Try.func35, Try.ntmps35
  go_wp2_with fail
  rw [← hwb]
  clear hwb
  have hnx1 := hnx
  have B1 := hbx
  refine (l2Leaf_any 4 a n c bs _ (h.kept hbx) hc hn).mono ?_
  rintro e w2 ⟨a2, c2, rfl, ho2, hb2⟩
  have hs2 := hb2.size
  have hn1 := (hb2.block _ (by omega)).trans (hnx1)
  have B2 : Below w.heap.size w w2 := B1.trans (hb2.mono (by omega))
  obtain ⟨_, x0, x1, x2, x3, x4, y0, y1, y2, y3, y4⟩ := Box5.of hn1
  have HO : Hid (Own (w.heap.size + 1) w2 a2 n c2 bs) := ho2.mono (by omega)
  have HN : Hid (_) := hn1
  have HB : Hid (Below w.heap.size w w2) := B2
  clear ho2 hn1 B2 B1 hb2 hnx hbx hnx1
  unfold itv
  simp only [It.cls, It.tag, It.cons]
  go_wp2_with fail
  try simp only [Exit.inBlock, Exit.then]
  refine bodyPost_ret (results_it rfl _ w.heap.size rfl _ _ _ _ _ _ (put5_heap HN.out _ _ _ _ _)) rfl ⟨a2, c2, rfl, ?_, ?_⟩
  · exact HO.out.touch5 (put5_touch w2 w.heap.size _ _ _ _ _) (by omega)
  · exact HB.out.trans ((put5_touch w2 w.heap.size _ _ _ _ _).below (Nat.le_refl _) HB.out.size)

set_option maxRecDepth 10000 in
set_option maxHeartbeats 1000000 in
theorem l9Num_any (n : Int) (w : World) :
    Calls Try.prog 56 #[.int .i64 n] w fun e w' => ∃ a c, e = .returned (itv (numI n) a (wsz n) c none 0 0) ∧ Own (w.heap.size + 1) w' a (wsz n) c (wbL n) ∧ Below w.heap.size w w' := by
  have hbx := box5_below w
  have hnx := box5_new w
  have hsx := box5_size w
  obtain ⟨wb, hwb⟩ : ∃ wb, wb = box5 w := ⟨_, rfl⟩
  rw [← hwb] at hbx hnx hsx
  unfold box5 at hwb
  go_enter Try.func56, Try.ntmps56
  go_wp2_with fail
  rw [← hwb]
  clear hwb
  have hsz := wsz_bd n
  refine (l3Number_any n _).mono ?_
  rintro e w1 ⟨a1, c1, rfl, ho1, hb1⟩
  have hs1 := hb1.size
  have hnx1 := (hb1.block _ (by omega)).trans hnx
  have B1 : Below w.heap.size w w1 := hbx.trans (hb1.mono hbx.size)
  go_wp2_with fail
  refine (l2Leaf_any 2 a1 (wsz n) c1 (wbL n) _ ho1.toRow ho1.nil (by omega)).mono ?_
  rintro e w2 ⟨a2, c2, rfl, ho2, hb2⟩
  clear hb1 ho1
  have hs2 := hb2.size
  have hn1 := (hb2.block _ (by omega)).trans (hnx1)
  have B2 : Below w.heap.size w w2 := B1.trans (hb2.mono (by omega))
  obtain ⟨_, x0, x1, x2, x3, x4, y0, y1, y2, y3, y4⟩ := Box5.of hn1
  have HO : Hid (Own (w.heap.size + 1) w2 a2 (wsz n) c2 (wbL n)) := ho2.mono (by omega)
  have HN : Hid (_) := hn1
  have HB : Hid (Below w.heap.size w w2) := B2
  clear ho2 hn1 B2 B1 hb2 hnx hbx hnx1
  unfold itv
  simp only [It.cls, It.tag, It.cons]
  go_wp2_with fail
  try simp only [Exit.inBlock, Exit.then]
  refine bodyPost_ret (results_it rfl _ w.heap.size rfl _ _ _ _ _ _ (put5_heap HN.out _ _ _ _ _)) rfl ⟨a2, c2, rfl, ?_, ?_⟩
  · exact HO.out.touch5 (put5_touch w2 w.heap.size _ _ _ _ _) (by omega)
  · exact HB.out.trans ((put5_touch w2 w.heap.size _ _ _ _ _).below (Nat.le_refl _) HB.out.size)

end Go.Proofs.Ytlcojjcgaibbiaa
