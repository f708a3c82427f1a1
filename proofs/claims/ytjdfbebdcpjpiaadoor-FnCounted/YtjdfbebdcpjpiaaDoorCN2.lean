import Derived.Test.YtjdfbebdcpjpiaaDoorCN1
import Derived.Test.YtjdfbebdcpjpiaaDoorCNt
import Derived.Deep.DeepCutAuto
import Derived.Deep.RegionHeldLaw
namespace Go.Proofs.YtjdfbebdcpjpiaaDoor
open Go.RowKit

def ttC : Array Value := #[.int .i64 (-1), .int .i64 0, .int .i64 86399, .int .i64 86400, .int .i64 951782399, .int .i64 951782400, .int .i64 951868800, .int .i64 4107542399, .int .i64 4107542400, .int .i64 253402300799, .int .i64 253402300800, .int .i64 1709164800]
theorem ttC_get (v : Nat) (h : v < 12) : ∃ x, ttC[v]? = some (.int .i64 x) ∧ -1 ≤ x ∧ x ≤ 253402300800 := by
  match v, h with
  | 0, _ | 1, _ | 2, _ | 3, _ | 4, _ | 5, _ | 6, _ | 7, _ | 8, _ | 9, _ | 10, _ | 11, _ => exact ⟨_, rfl, by decide, by decide⟩

set_option maxRecDepth 10000 in
set_option maxHeartbeats 1000000 in
theorem drawTimeText_any (a : Option Addr) (n cap : Nat) (bs : List Int) (w : World) (h : Row w a n bs) (hn : n ≤ 1000000000) :
    Calls Tryd.prog 14 #[.slice a n cap] w fun e w' => ∃ t : Int, e = .returned (.int .i64 t) ∧ -1 ≤ t ∧ t ≤ 253402300800 ∧ Below w.heap.size w w' := by
  have H : Hid (Row w a n bs) := h
  clear h
  go_enter Tryd.func14, Tryd.ntmps14
  go_wp2_with fail
  refine (open_any a n cap bs _ H.out hn).mono ?_
  rintro e w1 ⟨rfl, hr, hb1⟩
  have HB1 : Hid (Below w.heap.size w w1) := hb1
  have HL : Hid (w.heap.size < w1.heap.size) := hr.lt
  clear hb1
  go_wp2_with fail
  refine (below_any _ a n cap bs 4 _ hr (by decide)).mono ?_
  rintro e w2 ⟨v2, rfl, hv20, hv21, hp2⟩
  have HP2 : Hid (RdPost w1 w.heap.size a n cap bs w2) := hp2
  clear hp2 hr
  by_cases h0 : v2 = 0
  · subst h0
    obtain ⟨wt, hwt⟩ : ∃ wt, wt = w2.alloc (.cells ttC 2) := ⟨_, rfl⟩
    have hbt : Below w2.heap.size w2 wt := by rw [hwt]; exact (Below.refl _ _).alloc (Nat.le_refl _) _
    have xt : wt.heap[w2.heap.size]? = some (.cells ttC 2) := by rw [hwt]; exact heap_alloc_new w2 _
    have st : w2.heap.size < wt.heap.size := (Array.getElem?_eq_some_iff.1 xt).1
    have HPT : Hid (RdPost w1 w.heap.size a n cap bs wt) := ⟨HP2.out.1.kept hbt, HP2.out.2.trans (Touch.of_below hbt)⟩
    have HWT : Hid (_ = _) := hwt
    clear hwt
    go_wp2_with fail
    have et : w2.alloc (.cells #[.int .i64 (-1), .int .i64 0, .int .i64 86399, .int .i64 86400, .int .i64 951782399, .int .i64 951782400, .int .i64 951868800, .int .i64 4107542399, .int .i64 4107542400, .int .i64 253402300799, .int .i64 253402300800, .int .i64 1709164800] 2) = wt := HWT.out.symm
    rw [et]
    clear HWT et
    refine (below_any _ a n cap bs 12 _ HPT.out.1 (by decide)).mono ?_
    rintro e w9 ⟨v9, rfl, hv90, hv91, hp9⟩
    obtain ⟨u, rfl⟩ := Int.eq_ofNat_of_zero_le hv90
    have hu : u < 12 := by omega
    obtain ⟨x, hx, hx0, hx1⟩ := ttC_get u hu
    have hgs := HP2.out.2.size
    have hl := HL.out
    have js : w9.cell? ⟨w2.heap.size, u, none⟩ = some (.int .i64 x) := (cell_of_row _ _ u _ 2 (0, 0) ((hp9.2.block _ st (.inr (by omega))).trans xt)).trans hx
    have HP9 : Hid (RdPost w1 w.heap.size a n cap bs w9) := RdPost.step HPT.out hp9
    have hui : (u : Int) < 12 := by omega
    have hs9 := hp9.2.size
    have hd9 : w2.heap.size < w9.heap.size := by omega
    clear hp9 hv91 hv90 xt hbt HPT hx
    go_wp2
    go_ret
    exact ⟨x, rfl, hx0, hx1, RdPost.below HB1.out HP9.out⟩
  · have e0 : (v2 == 0) = false := beq_false_of_ne h0
    by_cases h1 : v2 = 1
    · subst h1
      go_wp2_with fail
      refine (word_any _ a n cap bs _ HP2.out.1).mono ?_
      rintro e w3 ⟨v, rfl, hv0, hv1, hp3⟩
      have HP3 : Hid (RdPost w1 w.heap.size a n cap bs w3) := RdPost.step HP2.out hp3
      clear hp3 HP2
      have hr1 : 0 ≤ v % 253402300800 := Int.emod_nonneg _ (by decide)
      have hr2 : v % 253402300800 < 253402300800 := Int.emod_lt_of_pos _ (by decide)
      go_wp2
      go_ret
      exact ⟨v % 253402300800, rfl, by omega, by omega, RdPost.below HB1.out HP3.out⟩
    · have e1 : (v2 == 1) = false := beq_false_of_ne h1
      go_wp2_with fail
      refine (word_any _ a n cap bs _ HP2.out.1).mono ?_
      rintro e w3 ⟨v, rfl, hv0, hv1, hp3⟩
      have HP3 : Hid (RdPost w1 w.heap.size a n cap bs w3) := RdPost.step HP2.out hp3
      clear hp3 HP2
      have hr1 : 0 ≤ v % 2000000000 := Int.emod_nonneg _ (by decide)
      have hr2 : v % 2000000000 < 2000000000 := Int.emod_lt_of_pos _ (by decide)
      go_wp2
      go_ret
      exact ⟨v % 2000000000, rfl, by omega, by omega, RdPost.below HB1.out HP3.out⟩

def dsA : Array Value := #[.string ⟨#[48]⟩, .string ⟨#[49]⟩, .string ⟨#[50]⟩, .string ⟨#[51]⟩, .string ⟨#[57]⟩, .string ⟨#[45]⟩, .string ⟨#[58]⟩, .string ⟨#[32]⟩, .string ⟨#[120]⟩]
theorem dsA_get (v : Nat) (h : v < 9) : ∃ x : ByteArray, dsA[v]? = some (.string x) ∧ x.size = 1 := by
  match v, h with
  | 0, _ | 1, _ | 2, _ | 3, _ | 4, _ | 5, _ | 6, _ | 7, _ | 8, _ => exact ⟨_, rfl, by decide⟩
def dsB : Array Value := #[.string ⟨#[48, 50, 45, 50, 57]⟩, .string ⟨#[48, 50, 45, 51, 48]⟩, .string ⟨#[48, 48, 45, 49, 48]⟩, .string ⟨#[49, 51, 45, 48, 49]⟩, .string ⟨#[48, 52, 45, 51, 49]⟩, .string ⟨#[49, 50, 45, 51, 49]⟩]
theorem dsB_get (v : Nat) (h : v < 6) : ∃ x : ByteArray, dsB[v]? = some (.string x) ∧ x.size = 5 := by
  match v, h with
  | 0, _ | 1, _ | 2, _ | 3, _ | 4, _ | 5, _ => exact ⟨_, rfl, by decide⟩
theorem app_size (a b : ByteArray) : (a ++ b).size = a.size + b.size := by
  rw [Lib.size_eq, Lib.size_eq, Lib.size_eq]; simp

set_option maxRecDepth 10000 in
set_option maxHeartbeats 1000000 in
theorem drawTimeRead_any (a : Option Addr) (n cap : Nat) (bs : List Int) (w : World) (h : Row w a n bs) (hn : n ≤ 1000000000) :
    Calls Tryd.prog 18 #[.slice a n cap] w fun e w' => ∃ s : ByteArray, e = .returned (.string s) ∧ s.size = 19 ∧ Below w.heap.size w w' := by
  have H : Hid (Row w a n bs) := h
  clear h
  go_enter Tryd.func18, Tryd.ntmps18
  go_wp2_with fail
  refine (open_any a n cap bs _ H.out hn).mono ?_
  rintro e w1 ⟨rfl, hr, hb1⟩
  have HB1 : Hid (Below w.heap.size w w1) := hb1
  have HL : Hid (w.heap.size < w1.heap.size) := hr.lt
  clear hb1
  go_wp2_with fail
  refine (word_any _ a n cap bs _ hr).mono ?_
  rintro e w2 ⟨v, rfl, hv0, hv1, hp2⟩
  have HP2 : Hid (RdPost w1 w.heap.size a n cap bs w2) := hp2
  clear hp2 hr
  have hr1 : 0 ≤ v % 5000000000 := Int.emod_nonneg _ (by decide)
  have hr2 : v % 5000000000 < 5000000000 := Int.emod_lt_of_pos _ (by decide)
  go_wp2_with fail
  refine (specTimeText_any (v % 5000000000) _).mono ?_
  rintro e w3 ⟨s, ok, rfl, ht, hb3⟩
  have hs : s.size = 19 := by
    cases ok with
    | true => exact timeX_size ht
    | false =>
      rcases ht with ⟨h, _⟩ | ⟨_, h, _⟩
      · cases h
      · exact absurd ⟨hr1, by omega⟩ h
  have HP3 : Hid (RdPost w1 w.heap.size a n cap bs w3) := ⟨HP2.out.1.kept hb3, HP2.out.2.trans (Touch.of_below hb3)⟩
  clear ht hb3 HP2
  go_wp2_with fail
  refine (once_any _ a n cap bs 3 _ HP3.out.1 (by decide) (by decide)).mono ?_
  rintro e w4 ⟨b4, rfl, hp4⟩
  have HP4 : Hid (RdPost w1 w.heap.size a n cap bs w4) := RdPost.step HP3.out hp4
  clear hp4 HP3
  go_upto_if 20 with fail
  go_cut [5] (fun v wx => ∃ s : ByteArray, v = .string s ∧ s.size = 19 ∧ Hid (RdPost w1 w.heap.size a n cap bs wx))
  case first =>
    cases b4 with
    | false =>
      go_wp2_with fail
      go_meet
      exact ⟨s, rfl, hs, HP4⟩
    | true =>
      go_wp2_with fail
      refine (below_any _ a n cap bs 19 _ HP4.out.1 (by omega)).mono ?_
      rintro e w5 ⟨v5, rfl, hv50, hv51, hp5⟩
      obtain ⟨q, rfl⟩ := Int.eq_ofNat_of_zero_le hv50
      have hq : q < 19 := by omega
      have HP5 : Hid (RdPost w1 w.heap.size a n cap bs w5) := RdPost.step HP4.out hp5
      clear hp5 HP4 hv50 hv51
      have hx1 : (s.extract 0 q).size = q := by rw [ext_size _ _ _ (by omega)]; rfl
      have hq1 : (q : Int) ≤ 19 := by omega
      have hq5 : ¬ 9223372036854775807 < q + 1 := by omega
      have hq6 : ¬ 9223372036854775807 < q + 1 + (18 - q) := by omega
      have hq2 : (q : Int) + 1 ≤ 19 := by omega
      have hq7 : (0 : Int) ≤ (q : Int) + 1 := by omega
      have hq3 : IntKind.i64.wrap ((q : Int) + 1) = (q : Int) + 1 := by rw [IntKind.wrap_i64]; omega
      have hq4 : ((q : Int) + 1).toNat = q + 1 := by omega
      have hx2 : (s.extract (q + 1) 19).size = 18 - q := by rw [ext_size _ _ _ (by omega)]; omega
      have hbT : Below w5.heap.size w5 (w5.drew.alloc (.cells #[.string ⟨#[48]⟩, .string ⟨#[49]⟩, .string ⟨#[50]⟩, .string ⟨#[51]⟩, .string ⟨#[57]⟩, .string ⟨#[45]⟩, .string ⟨#[58]⟩, .string ⟨#[32]⟩, .string ⟨#[120]⟩] 9)) := (Below.refl _ _).drew.alloc (Nat.le_refl _) _
      have HBT : Hid (_) := hbT
      have HLL : Hid (w.heap.size < w5.heap.size) := Nat.lt_of_lt_of_le HL.out HP5.out.2.size
      clear hbT
      go_upto_region 6 with fail
      go_region_law
        (first
          | (go_simp; go_at_call 24; refine (below_any w.heap.size a n cap bs 9 (w5.drew.alloc (.cells #[.string ⟨#[48]⟩, .string ⟨#[49]⟩, .string ⟨#[50]⟩, .string ⟨#[51]⟩, .string ⟨#[57]⟩, .string ⟨#[45]⟩, .string ⟨#[58]⟩, .string ⟨#[32]⟩, .string ⟨#[120]⟩] 9)) (HP5.out.1.kept HBT.out) (by decide)).mono ?_; rintro e w6 ⟨y, rfl, hy0, hy1, hp6⟩; obtain ⟨u, rfl⟩ := Int.eq_ofNat_of_zero_le hy0; have hu : u < 9 := (by omega); have hui : (u : Int) < 9 := (by omega); obtain ⟨x, js, hxs⟩ : ∃ x : ByteArray, w6.cell? ⟨w5.heap.size, u, none⟩ = some (.string x) ∧ x.size = 1 := (by obtain ⟨x, h1, h2⟩ := dsA_get u hu; exact ⟨x, (cell_of_row _ _ u _ 9 (0, 0) ((hp6.2.block _ (by simp) (.inr (by have := HLL.out; show w.heap.size + 1 ≤ w5.heap.size; omega))).trans (heap_alloc_new w5.drew _))).trans h1, h2⟩); have hl6 : w5.heap.size < w6.heap.size := (by have := hp6.2.size; simp at this; omega); have HP6 : Hid (RdPost w1 w.heap.size a n cap bs w6) := ⟨hp6.1, (HP5.out.2.trans (Touch.of_below HBT.out)).trans hp6.2⟩; have hx3 : (s.extract 0 q ++ x).size = q + 1 := (by rw [app_size, hx1, hxs]); clear hp6 hy1 hy0)
          | (go_simp; go_at_call 24; refine (below_any w.heap.size a n cap bs 9 w5.drew (HP5.out.1.kept (Below.refl _ _).drew) (by decide)).mono ?_; rintro e w6 ⟨y, rfl, hy0, hy1, hp6⟩; obtain ⟨u, rfl⟩ := Int.eq_ofNat_of_zero_le hy0; have hu : u < 9 := (by omega); have hui : (u : Int) < 9 := (by omega); obtain ⟨x, js, hxs⟩ : ∃ x : ByteArray, (w6.alloc (.cells #[.string ⟨#[48]⟩, .string ⟨#[49]⟩, .string ⟨#[50]⟩, .string ⟨#[51]⟩, .string ⟨#[57]⟩, .string ⟨#[45]⟩, .string ⟨#[58]⟩, .string ⟨#[32]⟩, .string ⟨#[120]⟩] 9)).cell? ⟨w6.heap.size, u, none⟩ = some (.string x) ∧ x.size = 1 := (by obtain ⟨x, h1, h2⟩ := dsA_get u hu; exact ⟨x, (cell_of_row _ _ u _ 9 (0, 0) (heap_alloc_new w6 _)).trans h1, h2⟩); have HP6 : Hid (RdPost w1 w.heap.size a n cap bs (w6.alloc (.cells #[.string ⟨#[48]⟩, .string ⟨#[49]⟩, .string ⟨#[50]⟩, .string ⟨#[51]⟩, .string ⟨#[57]⟩, .string ⟨#[45]⟩, .string ⟨#[58]⟩, .string ⟨#[32]⟩, .string ⟨#[120]⟩] 9))) := (RdPost.step (w1 := w5) HP5.out ⟨hp6.1, ⟨hp6.2.os, hp6.2.tape, hp6.2.output, hp6.2.size, hp6.2.block⟩⟩).alloc _; have hx3 : (s.extract 0 q ++ x).size = q + 1 := (by rw [app_size, hx1, hxs]); clear hp6 hy1 hy0))
      all_goals
        go_wp2_with fail
        go_meet
        exact ⟨_, rfl, by rw [app_size, app_size, hx1, hx2, hxs]; omega, HP6⟩
  case rest =>
    obtain ⟨s, rfl, hs, HP7⟩ := hcut
    clear HP4
    go_wp2_with fail
    refine (once_any _ a n cap bs 6 _ HP7.out.1 (by decide) (by decide)).mono ?_
    rintro e w8 ⟨b8, rfl, hp8⟩
    have HP8 : Hid (RdPost w1 w.heap.size a n cap bs w8) := RdPost.step HP7.out hp8
    clear hp8 HP7
    cases b8 with
    | false =>
      go_wp2
      go_ret
      exact ⟨s, rfl, hs, RdPost.below HB1.out HP8.out⟩
    | true =>
      have hx1 : (s.extract 0 5).size = 5 := by rw [ext_size _ _ _ (by omega)]
      have hx2 : (s.extract 10 19).size = 9 := by rw [ext_size _ _ _ (by omega)]
      have hbT : Below w8.heap.size w8 (w8.drew.alloc (.cells #[.string ⟨#[48, 50, 45, 50, 57]⟩, .string ⟨#[48, 50, 45, 51, 48]⟩, .string ⟨#[48, 48, 45, 49, 48]⟩, .string ⟨#[49, 51, 45, 48, 49]⟩, .string ⟨#[48, 52, 45, 51, 49]⟩, .string ⟨#[49, 50, 45, 51, 49]⟩] 9)) := (Below.refl _ _).drew.alloc (Nat.le_refl _) _
      have HBT : Hid (_) := hbT
      have HLL : Hid (w.heap.size < w8.heap.size) := Nat.lt_of_lt_of_le HL.out HP8.out.2.size
      clear hbT
      go_upto_region 8 with fail
      go_region_law
        (first
          | (go_simp; go_at_call 24; refine (below_any w.heap.size a n cap bs 6 (w8.drew.alloc (.cells #[.string ⟨#[48, 50, 45, 50, 57]⟩, .string ⟨#[48, 50, 45, 51, 48]⟩, .string ⟨#[48, 48, 45, 49, 48]⟩, .string ⟨#[49, 51, 45, 48, 49]⟩, .string ⟨#[48, 52, 45, 51, 49]⟩, .string ⟨#[49, 50, 45, 51, 49]⟩] 9)) (HP8.out.1.kept HBT.out) (by decide)).mono ?_; rintro e w6 ⟨y, rfl, hy0, hy1, hp6⟩; obtain ⟨u, rfl⟩ := Int.eq_ofNat_of_zero_le hy0; have hu : u < 6 := (by omega); have hui : (u : Int) < 6 := (by omega); obtain ⟨x, js, hxs⟩ : ∃ x : ByteArray, w6.cell? ⟨w8.heap.size, u, none⟩ = some (.string x) ∧ x.size = 5 := (by obtain ⟨x, h1, h2⟩ := dsB_get u hu; exact ⟨x, (cell_of_row _ _ u _ 9 (0, 0) ((hp6.2.block _ (by simp) (.inr (by have := HLL.out; show w.heap.size + 1 ≤ w8.heap.size; omega))).trans (heap_alloc_new w8.drew _))).trans h1, h2⟩); have hl6 : w8.heap.size < w6.heap.size := (by have := hp6.2.size; simp at this; omega); have HP6 : Hid (RdPost w1 w.heap.size a n cap bs w6) := ⟨hp6.1, (HP8.out.2.trans (Touch.of_below HBT.out)).trans hp6.2⟩; have hx3 : (s.extract 0 5 ++ x).size = 10 := (by rw [app_size, hx1, hxs]); clear hp6 hy1 hy0)
          | (go_simp; go_at_call 24; refine (below_any w.heap.size a n cap bs 6 w8.drew (HP8.out.1.kept (Below.refl _ _).drew) (by decide)).mono ?_; rintro e w6 ⟨y, rfl, hy0, hy1, hp6⟩; obtain ⟨u, rfl⟩ := Int.eq_ofNat_of_zero_le hy0; have hu : u < 6 := (by omega); have hui : (u : Int) < 6 := (by omega); obtain ⟨x, js, hxs⟩ : ∃ x : ByteArray, (w6.alloc (.cells #[.string ⟨#[48, 50, 45, 50, 57]⟩, .string ⟨#[48, 50, 45, 51, 48]⟩, .string ⟨#[48, 48, 45, 49, 48]⟩, .string ⟨#[49, 51, 45, 48, 49]⟩, .string ⟨#[48, 52, 45, 51, 49]⟩, .string ⟨#[49, 50, 45, 51, 49]⟩] 9)).cell? ⟨w6.heap.size, u, none⟩ = some (.string x) ∧ x.size = 5 := (by obtain ⟨x, h1, h2⟩ := dsB_get u hu; exact ⟨x, (cell_of_row _ _ u _ 9 (0, 0) (heap_alloc_new w6 _)).trans h1, h2⟩); have HP6 : Hid (RdPost w1 w.heap.size a n cap bs (w6.alloc (.cells #[.string ⟨#[48, 50, 45, 50, 57]⟩, .string ⟨#[48, 50, 45, 51, 48]⟩, .string ⟨#[48, 48, 45, 49, 48]⟩, .string ⟨#[49, 51, 45, 48, 49]⟩, .string ⟨#[48, 52, 45, 51, 49]⟩, .string ⟨#[49, 50, 45, 51, 49]⟩] 9))) := (RdPost.step (w1 := w8) HP8.out ⟨hp6.1, ⟨hp6.2.os, hp6.2.tape, hp6.2.output, hp6.2.size, hp6.2.block⟩⟩).alloc _; have hx3 : (s.extract 0 5 ++ x).size = 10 := (by rw [app_size, hx1, hxs]); clear hp6 hy1 hy0))
      all_goals
        go_wp2
        go_ret
        exact ⟨_, rfl, by rw [app_size, app_size, hx1, hx2, hxs], RdPost.below HB1.out HP6.out⟩

end Go.Proofs.YtjdfbebdcpjpiaaDoor
