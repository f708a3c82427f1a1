import Derived.Test.YtoncodoimnideaaGreatDoorWRd2
import Derived.Test.YtoncodoimnideaaGreatDoorMGN
import Derived.Test.YtoncodoimnideaaGreatDoorDB2
import Derived.Deep.RegionHeldLaw
import Derived.Deep.DeepCutAuto
import Derived.Test.YtoncodoimnideaaGreatDoorDN2
import Derived.Test.YtoncodoimnideaaGreatDoorDU1c
import Derived.Great.BuildSlice
import Derived.Laws.Tables
namespace Go.Proofs.YtoncodoimnideaaGreatDoor
open Go.RowKit

/-! What is drawn of hosts. -/

theorem app_size (a b : ByteArray) : (a ++ b).size = a.size + b.size := by
  rw [Lib.size_eq, Lib.size_eq, Lib.size_eq]; simp
def hostC : Array Value := #[.string ⟨#[97]⟩, .string ⟨#[98]⟩, .string ⟨#[119, 119, 119]⟩, .string ⟨#[109, 97, 105, 108]⟩, .string ⟨#[120, 45, 49]⟩, .string ⟨#[111, 114, 103]⟩]
theorem hostC_get (v : Nat) (h : v < 6) : ∃ x : ByteArray, hostC[v]? = some (.string x) ∧ 1 ≤ x.size ∧ x.size ≤ 4 := by
  match v, h with
  | 0, _ | 1, _ | 2, _ | 3, _ | 4, _ | 5, _ => exact ⟨_, rfl, by decide, by decide⟩
def bendTC : Array Value := #[.string ⟨#[46]⟩, .string ⟨#[45]⟩, .string ⟨#[42]⟩, .string ⟨#[65]⟩, .string ⟨#[95]⟩, .string ⟨#[64]⟩, .string ⟨#[46, 46]⟩, .string ⟨#[97, 97, 97, 97, 97, 97, 97, 97, 97, 97, 97, 97, 97, 97, 97, 97, 97, 97, 97, 97]⟩]
theorem bendTC_get (v : Nat) (h : v < 8) : ∃ x : ByteArray, bendTC[v]? = some (.string x) ∧ 0 ≤ x.size ∧ x.size ≤ 20 := by
  match v, h with
  | 0, _ | 1, _ | 2, _ | 3, _ | 4, _ | 5, _ | 6, _ | 7, _ => exact ⟨_, rfl, by decide, by decide⟩
def matchC : Array Value := #[.string ⟨#[113]⟩, .string ⟨#[97]⟩, .string ⟨#[98, 46, 97]⟩]
theorem matchC_get (v : Nat) (h : v < 3) : ∃ x : ByteArray, matchC[v]? = some (.string x) ∧ 0 ≤ x.size ∧ x.size ≤ 20 := by
  match v, h with
  | 0, _ | 1, _ | 2, _ => exact ⟨_, rfl, by decide, by decide⟩

set_option maxRecDepth 10000 in
set_option maxHeartbeats 2000000 in
theorem drawHost_any (g : Nat) (a : Option Addr) (n cap : Nat) (bs : List Int) (wild : Bool) (w : World) (h : Rd w g a n cap bs) :
    Calls Tryz.prog 20 #[.pointer (some ⟨g, 0, none⟩), .bool wild] w fun e w' => ∃ s : ByteArray, e = .returned (.string s) ∧ 1 ≤ s.size ∧ s.size ≤ 17 ∧ RdPost w g a n cap bs w' := by
  have HR : Hid (RdPost w g a n cap bs w) := ⟨h, Touch.same _ _ _⟩
  have HG : Hid (g < w.heap.size) := h.lt
  clear h
  go_enter Tryz.func20, Tryz.ntmps20
  go_upto_region 2 with fail
  go_cut [12] (fun v wx => ∃ b : Bool, v = .bool b ∧ Hid (RdPost w g a n cap bs wx))
  case first =>
    cases wild with
    | false =>
      go_wp2_with fail
      go_meet
      exact ⟨_, rfl, HR⟩
    | true =>
      go_wp2_with fail
      refine (once_any g a n cap bs 3 _ HR.out.1 (by decide) (by decide)).mono ?_
      rintro e w1 ⟨b, rfl, hp⟩
      have HP : Hid (RdPost w g a n cap bs w1) := RdPost.step HR.out hp
      clear hp
      go_wp2_with fail
      go_meet
      exact ⟨_, rfl, HP⟩
  case rest =>
  obtain ⟨b, rfl, HP0⟩ := hcut
  go_upto_if 12 with fail
  go_cut [5] (fun v wx => ∃ s : ByteArray, v = .string s ∧ s.size ≤ 2 ∧ Hid (RdPost w g a n cap bs wx))
  case first =>
    cases b with
    | false =>
      go_wp2_with fail
      go_meet
      exact ⟨_, rfl, by decide, HP0⟩
    | true =>
      go_wp2_with fail
      go_meet
      exact ⟨_, rfl, by decide, HP0⟩
  case rest =>
    obtain ⟨s, rfl, hs, HP⟩ := hcut
    go_wp2_with fail
    refine (below_any g a n cap bs 3 _ HP.out.1 (by decide)).mono ?_
    rintro e w1 ⟨v, rfl, hv0, hv1, hp⟩
    obtain ⟨V, rfl⟩ := Int.eq_ofNat_of_zero_le hv0
    have hV : V ≤ 2 := by omega
    have HP1 : Hid (RdPost w g a n cap bs w1) := RdPost.step HP.out hp
    clear hp hv0 hv1 HP HR
    go_wp2
    go_loopw [5, 7] (fun o i wr => ∃ (k : Nat) (t : ByteArray), k ≤ V + 1 ∧ i = .int .i64 k ∧ o = .string t ∧ k ≤ t.size ∧ t.size ≤ 2 + 5 * k ∧ Hid (RdPost w g a n cap bs wr)) (fun _ i _ => V + 1 - (intOf i).toNat)
    case atStart => exact ⟨0, s, Nat.zero_le _, rfl, rfl, Nat.zero_le _, by omega, HP1⟩
    case round =>
      obtain ⟨k, t, hk, rfl, rfl, ht0, ht1, HP⟩ := hrel
      clear HP1
      by_cases hlt : k < V + 1
      · have hlti : (k : Int) < 1 + (V : Int) := by omega
        have hlti2 : (k : Int) < (V : Int) + 1 := by omega
        go_upto_if 22 with fail
        go_cut [5] (fun v wx => ∃ t2 : ByteArray, v = .string t2 ∧ k ≤ t2.size ∧ t2.size ≤ 3 + 5 * k ∧ wx = wr)
        case first =>
          by_cases hk0 : (k : Int) ≤ 0
          · go_wp2_with fail
            go_meet
            exact ⟨t, rfl, ht0, by omega, rfl⟩
          · have hk1 : 0 < (k : Int) := by omega
            have hsz : ¬ 9223372036854775807 < t.size + 1 := by omega
            go_wp2_with fail
            go_meet
            exact ⟨_, rfl, by rw [app_size]; show k ≤ t.size + 1; omega, by rw [app_size]; show t.size + 1 ≤ _; omega, rfl⟩
        case rest =>
          obtain ⟨t2, rfl, hk2, hk3, rfl⟩ := hcut
          clear ht0 ht1
          obtain ⟨wt, hwt⟩ : ∃ wt, wt = World.alloc wc (.cells hostC 9) := ⟨_, rfl⟩
          have hbt : Below (World.heap wc).size wc wt := by rw [hwt]; exact (Below.refl _ _).alloc (Nat.le_refl _) _
          have xt : wt.heap[(World.heap wc).size]? = some (.cells hostC 9) := by rw [hwt]; exact heap_alloc_new wc _
          have st : (World.heap wc).size < wt.heap.size := (Array.getElem?_eq_some_iff.1 xt).1
          have HPT : Hid (RdPost w g a n cap bs wt) := ⟨HP.out.1.kept hbt, HP.out.2.trans (Touch.of_below hbt)⟩
          have HWT : Hid (_ = _) := hwt
          clear hwt
          go_wp2_with fail
          have et : World.alloc wc (.cells #[.string ⟨#[97]⟩, .string ⟨#[98]⟩, .string ⟨#[119, 119, 119]⟩, .string ⟨#[109, 97, 105, 108]⟩, .string ⟨#[120, 45, 49]⟩, .string ⟨#[111, 114, 103]⟩] 9) = wt := HWT.out.symm
          rw [et]
          clear HWT et
          refine (below_any g a n cap bs 6 _ HPT.out.1 (by decide)).mono ?_
          rintro e w6 ⟨y, rfl, hy0, hy1, hp6⟩
          obtain ⟨u, rfl⟩ := Int.eq_ofNat_of_zero_le hy0
          have hu : u < 6 := by omega
          have hui : (u : Int) < 6 := by omega
          obtain ⟨x, hx, hx0, hx1⟩ := hostC_get u hu
          have hgl : g < (World.heap wc).size := Nat.lt_of_lt_of_le HG.out HP.out.2.size
          have js : w6.cell? ⟨(World.heap wc).size, u, none⟩ = some (.string x) := (cell_of_row _ _ u _ 9 (0, 0) ((hp6.2.block _ st (.inr (by omega))).trans xt)).trans hx
          have hs6 := hp6.2.size
          have hl6 : (World.heap wc).size < w6.heap.size := by omega
          have HP6 : Hid (RdPost w g a n cap bs w6) := RdPost.step HPT.out hp6
          clear hp6 hy1 hy0 xt hbt HPT hx
          have hsz : ¬ 9223372036854775807 < t2.size + x.size := by omega
          go_wp2
          go_roundw
          case rel => exact ⟨k + 1, t2 ++ x, by omega, by go_num, rfl, by rw [app_size]; omega, by rw [app_size]; omega, HP6⟩
          case measure => simp [intOf]; omega
      · obtain rfl : k = V + 1 := by omega
        have hge : ¬ (((V + 1 : Nat) : Int) < 1 + (V : Int)) := by omega
        go_wp2
        go_ret
        exact ⟨t, rfl, by omega, by omega, HP.out⟩

set_option maxRecDepth 10000 in
set_option maxHeartbeats 2000000 in
theorem bendText_any (g : Nat) (a : Option Addr) (n cap : Nat) (bs : List Int) (s : ByteArray) (w : World) (h : Rd w g a n cap bs) (hs : s.size ≤ 1000) :
    Calls Tryz.prog 23 #[.pointer (some ⟨g, 0, none⟩), .string s] w fun e w' => ∃ t : ByteArray, e = .returned (.string t) ∧ t.size ≤ s.size + 20 ∧ RdPost w g a n cap bs w' := by
  have HR : Hid (Rd w g a n cap bs) := h
  have HG : Hid (g < w.heap.size) := h.lt
  clear h
  go_enter Tryz.func23, Tryz.ntmps23
  go_wp2_with fail
  refine (once_any g a n cap bs 5 _ HR.out (by decide) (by decide)).mono ?_
  rintro e w1 ⟨b, rfl, hp⟩
  have HP : Hid (RdPost w g a n cap bs w1) := hp
  clear hp HR
  cases b with
  | false =>
    go_wp2
    go_ret
    exact ⟨s, rfl, by omega, HP.out⟩
  | true =>
    go_wp2_with fail
    refine (below_any g a n cap bs ((s.size : Int) + 1) _ HP.out.1 (by omega)).mono ?_
    rintro e w2 ⟨v, rfl, hv0, hv1, hp2⟩
    obtain ⟨q, rfl⟩ := Int.eq_ofNat_of_zero_le hv0
    have hq : q ≤ s.size := by omega
    have HP2 : Hid (RdPost w g a n cap bs w2) := RdPost.step HP.out hp2
    clear hp2 hv0 hv1 HP
    obtain ⟨p1, hp1⟩ : ∃ p, p = s.extract 0 q := ⟨_, rfl⟩
    obtain ⟨p2, hp2⟩ : ∃ p, p = s.extract q s.size := ⟨_, rfl⟩
    have hz1 : p1.size = q := by rw [hp1, ext_sz _ _ _ hq]; rfl
    have hz2 : p2.size = s.size - q := by rw [hp2, ext_sz _ _ _ (Nat.le_refl _)]
    have he1 : s.extract 0 q = p1 := hp1.symm
    have he2 : s.extract q s.size = p2 := hp2.symm
    clear hp1 hp2
    have hqi : (q : Int) ≤ (s.size : Int) := by omega
    have hbT : Below (World.heap w2).size w2 ((World.drew w2).alloc (.cells #[.string ⟨#[46]⟩, .string ⟨#[45]⟩, .string ⟨#[42]⟩, .string ⟨#[65]⟩, .string ⟨#[95]⟩, .string ⟨#[64]⟩, .string ⟨#[46, 46]⟩, .string ⟨#[97, 97, 97, 97, 97, 97, 97, 97, 97, 97, 97, 97, 97, 97, 97, 97, 97, 97, 97, 97]⟩] 9)) := (Below.refl _ _).drew.alloc (Nat.le_refl _) _
    have HBT : Hid (_) := hbT
    have HLL : Hid (g < (World.heap w2).size) := Nat.lt_of_lt_of_le HG.out HP2.out.2.size
    clear hbT
    go_upto_region 4 with fail
    go_region_law
      (first
        | (go_simp; go_at_call 22; refine (below_any g a n cap bs 8 ((World.drew w2).alloc (.cells #[.string ⟨#[46]⟩, .string ⟨#[45]⟩, .string ⟨#[42]⟩, .string ⟨#[65]⟩, .string ⟨#[95]⟩, .string ⟨#[64]⟩, .string ⟨#[46, 46]⟩, .string ⟨#[97, 97, 97, 97, 97, 97, 97, 97, 97, 97, 97, 97, 97, 97, 97, 97, 97, 97, 97, 97]⟩] 9)) (HP2.out.1.kept HBT.out) (by decide)).mono ?_; rintro e w6 ⟨y, rfl, hy0, hy1, hp6⟩; obtain ⟨u, rfl⟩ := Int.eq_ofNat_of_zero_le hy0; have hu : u < 8 := (by omega); have hui : (u : Int) < 8 := (by omega); obtain ⟨x, js, hx0, hx1⟩ : ∃ x : ByteArray, w6.cell? ⟨(World.heap w2).size, u, none⟩ = some (.string x) ∧ 0 ≤ x.size ∧ x.size ≤ 20 := (by obtain ⟨x, h1, h2, h3⟩ := bendTC_get u hu; exact ⟨x, (cell_of_row _ _ u _ 9 (0, 0) ((hp6.2.block _ (by simp) (.inr (by have := HLL.out; show g + 1 ≤ (World.heap w2).size; omega))).trans (heap_alloc_new (World.drew w2) _))).trans h1, by omega, by omega⟩); have hl6 : (World.heap w2).size < w6.heap.size := (by have := hp6.2.size; simp at this; omega); have HP6 : Hid (RdPost w g a n cap bs w6) := ⟨hp6.1, (HP2.out.2.trans (Touch.of_below HBT.out)).trans hp6.2⟩; clear hp6 hy1 hy0; have hs1 : ¬ 9223372036854775807 < p1.size + x.size := (by omega); have hs2 : ¬ 9223372036854775807 < q + x.size := (by omega); have hs3 : (p1 ++ x).size = q + x.size := (by rw [app_size, hz1]); have hs4 : ¬ 9223372036854775807 < q + x.size + (s.size - q) := (by omega))
        | (go_simp; go_at_call 22; refine (below_any g a n cap bs 8 (World.drew w2) (HP2.out.1.kept (Below.refl _ _).drew) (by decide)).mono ?_; rintro e w6 ⟨y, rfl, hy0, hy1, hp6⟩; obtain ⟨u, rfl⟩ := Int.eq_ofNat_of_zero_le hy0; have hu : u < 8 := (by omega); have hui : (u : Int) < 8 := (by omega); obtain ⟨x, js, hx0, hx1⟩ : ∃ x : ByteArray, (w6.alloc (.cells #[.string ⟨#[46]⟩, .string ⟨#[45]⟩, .string ⟨#[42]⟩, .string ⟨#[65]⟩, .string ⟨#[95]⟩, .string ⟨#[64]⟩, .string ⟨#[46, 46]⟩, .string ⟨#[97, 97, 97, 97, 97, 97, 97, 97, 97, 97, 97, 97, 97, 97, 97, 97, 97, 97, 97, 97]⟩] 9)).cell? ⟨w6.heap.size, u, none⟩ = some (.string x) ∧ 0 ≤ x.size ∧ x.size ≤ 20 := (by obtain ⟨x, h1, h2, h3⟩ := bendTC_get u hu; exact ⟨x, (cell_of_row _ _ u _ 9 (0, 0) (heap_alloc_new w6 _)).trans h1, by omega, by omega⟩); have HP6 : Hid (RdPost w g a n cap bs (w6.alloc (.cells #[.string ⟨#[46]⟩, .string ⟨#[45]⟩, .string ⟨#[42]⟩, .string ⟨#[65]⟩, .string ⟨#[95]⟩, .string ⟨#[64]⟩, .string ⟨#[46, 46]⟩, .string ⟨#[97, 97, 97, 97, 97, 97, 97, 97, 97, 97, 97, 97, 97, 97, 97, 97, 97, 97, 97, 97]⟩] 9))) := (RdPost.step (w1 := w2) HP2.out ⟨hp6.1, ⟨hp6.2.os, hp6.2.tape, hp6.2.output, hp6.2.size, hp6.2.block⟩⟩).alloc _; clear hp6 hy1 hy0; have hs1 : ¬ 9223372036854775807 < p1.size + x.size := (by omega); have hs2 : ¬ 9223372036854775807 < q + x.size := (by omega); have hs3 : (p1 ++ x).size = q + x.size := (by rw [app_size, hz1]); have hs4 : ¬ 9223372036854775807 < q + x.size + (s.size - q) := (by omega)))
    all_goals
      go_wp2
      go_ret
      exact ⟨_, rfl, by rw [app_size, app_size]; omega, HP6.out⟩

set_option maxRecDepth 10000 in
set_option maxHeartbeats 2000000 in
theorem drawHostMatch_any (a : Option Addr) (n cap : Nat) (bs : List Int) (w : World) (h : Row w a n bs) (hn : n ≤ 1000000000) :
    Calls Tryz.prog 6 #[.slice a n cap] w fun e w' => ∃ s t : ByteArray, e = .returned (.tuple #[.string s, .string t]) ∧ s.size ≤ 100 ∧ t.size ≤ 100 ∧ Below w.heap.size w w' := by
  have H : Hid (Row w a n bs) := h
  clear h
  go_enter Tryz.func6, Tryz.ntmps6
  go_wp2_with fail
  refine (open_any a n cap bs _ H.out hn).mono ?_
  rintro e w1 ⟨rfl, hr, hb1⟩
  have HB1 : Hid (Below w.heap.size w w1) := hb1
  have HL : Hid (w.heap.size < w1.heap.size) := hr.lt
  clear hb1
  go_wp2_with fail
  refine (drawHost_any _ a n cap bs true _ hr).mono ?_
  rintro e w2 ⟨p, rfl, hp0, hp1, hp2⟩
  have HP2 : Hid (RdPost w1 w.heap.size a n cap bs w2) := hp2
  clear hr hp2
  go_wp2_with fail
  refine (drawHost_any _ a n cap bs false _ HP2.out.1).mono ?_
  rintro e w3 ⟨h0, rfl, hh0, hh1, hp3⟩
  have HP3 : Hid (RdPost w1 w.heap.size a n cap bs w3) := RdPost.step HP2.out hp3
  clear HP2 hp3
  go_wp2_with fail
  refine (once_any _ a n cap bs 2 _ HP3.out.1 (by decide) (by decide)).mono ?_
  rintro e w4 ⟨b4, rfl, hp4⟩
  have HP4 : Hid (RdPost w1 w.heap.size a n cap bs w4) := RdPost.step HP3.out hp4
  clear HP3 hp4
  go_upto_if 14 with fail
  go_cut [6] (fun v wx => ∃ t : ByteArray, v = .string t ∧ t.size ≤ 40 ∧ Hid (RdPost w1 w.heap.size a n cap bs wx))
  case first =>
    cases b4 with
    | false =>
      go_wp2_with fail
      go_meet
      exact ⟨h0, rfl, by omega, HP4⟩
    | true =>
      have hpp : (0 : Int) < (p.size : Int) := by omega
      have hpn : 0 < p.size := by omega
      by_cases hc : (p[0].toNat : Int) = 42
      · have zc : ((p[0].toNat : Int) == 42) = true := beq_iff_eq.2 hc
        obtain ⟨p1, hq1⟩ : ∃ q, q = p.extract 1 p.size := ⟨_, rfl⟩
        have hz1 : p1.size = p.size - 1 := by rw [hq1, ext_sz _ _ _ (Nat.le_refl _)]
        have he1 : p.extract 1 p.size = p1 := hq1.symm
        have h1p : (1 : Int) ≤ (p.size : Int) := by omega
        clear hq1
        have hbT : Below (World.heap w4).size w4 ((World.drew w4).alloc (.cells #[.string ⟨#[113]⟩, .string ⟨#[97]⟩, .string ⟨#[98, 46, 97]⟩] 9)) := (Below.refl _ _).drew.alloc (Nat.le_refl _) _
        have HBT : Hid (_) := hbT
        have HLL : Hid (w.heap.size < (World.heap w4).size) := Nat.lt_of_lt_of_le HL.out HP4.out.2.size
        clear hbT
        go_upto_region 7 with fail
        go_region_law
          (first
            | (go_simp; go_at_call 22; refine (below_any w.heap.size a n cap bs 3 ((World.drew w4).alloc (.cells #[.string ⟨#[113]⟩, .string ⟨#[97]⟩, .string ⟨#[98, 46, 97]⟩] 9)) (HP4.out.1.kept HBT.out) (by decide)).mono ?_; rintro e w6 ⟨y, rfl, hy0, hy1, hp6⟩; obtain ⟨u, rfl⟩ := Int.eq_ofNat_of_zero_le hy0; have hu : u < 3 := (by omega); have hui : (u : Int) < 3 := (by omega); obtain ⟨x, js, hx0, hx1⟩ : ∃ x : ByteArray, w6.cell? ⟨(World.heap w4).size, u, none⟩ = some (.string x) ∧ 0 ≤ x.size ∧ x.size ≤ 20 := (by obtain ⟨x, h1, h2, h3⟩ := matchC_get u hu; exact ⟨x, (cell_of_row _ _ u _ 9 (0, 0) ((hp6.2.block _ (by simp) (.inr (by have := HLL.out; show w.heap.size + 1 ≤ (World.heap w4).size; omega))).trans (heap_alloc_new (World.drew w4) _))).trans h1, by omega, by omega⟩); have hl6 : (World.heap w4).size < w6.heap.size := (by have := hp6.2.size; simp at this; omega); have HP6 : Hid (RdPost w1 w.heap.size a n cap bs w6) := ⟨hp6.1, (HP4.out.2.trans (Touch.of_below HBT.out)).trans hp6.2⟩; clear hp6 hy1 hy0; have hs2 : ¬ 9223372036854775807 < x.size + p1.size := (by omega); have hs4 : ¬ 9223372036854775807 < x.size + (p.size - 1) := (by omega))
            | (go_simp; go_at_call 22; refine (below_any w.heap.size a n cap bs 3 (World.drew w4) (HP4.out.1.kept (Below.refl _ _).drew) (by decide)).mono ?_; rintro e w6 ⟨y, rfl, hy0, hy1, hp6⟩; obtain ⟨u, rfl⟩ := Int.eq_ofNat_of_zero_le hy0; have hu : u < 3 := (by omega); have hui : (u : Int) < 3 := (by omega); obtain ⟨x, js, hx0, hx1⟩ : ∃ x : ByteArray, (w6.alloc (.cells #[.string ⟨#[113]⟩, .string ⟨#[97]⟩, .string ⟨#[98, 46, 97]⟩] 9)).cell? ⟨w6.heap.size, u, none⟩ = some (.string x) ∧ 0 ≤ x.size ∧ x.size ≤ 20 := (by obtain ⟨x, h1, h2, h3⟩ := matchC_get u hu; exact ⟨x, (cell_of_row _ _ u _ 9 (0, 0) (heap_alloc_new w6 _)).trans h1, by omega, by omega⟩); have HP6 : Hid (RdPost w1 w.heap.size a n cap bs (w6.alloc (.cells #[.string ⟨#[113]⟩, .string ⟨#[97]⟩, .string ⟨#[98, 46, 97]⟩] 9))) := (RdPost.step (w1 := w4) HP4.out ⟨hp6.1, ⟨hp6.2.os, hp6.2.tape, hp6.2.output, hp6.2.size, hp6.2.block⟩⟩).alloc _; clear hp6 hy1 hy0; have hs2 : ¬ 9223372036854775807 < x.size + p1.size := (by omega); have hs4 : ¬ 9223372036854775807 < x.size + (p.size - 1) := (by omega)))
        all_goals
          go_wp2_with fail
          go_meet
          exact ⟨_, rfl, by rw [app_size]; omega, HP6⟩
      · have zc : ((p[0].toNat : Int) == 42) = false := beq_false_of_ne hc
        go_wp2_with fail
        go_meet
        exact ⟨_, rfl, by omega, HP4⟩
  case rest =>
    obtain ⟨t, rfl, ht, HP5⟩ := hcut
    clear HP4
    go_wp2_with fail
    refine (bendText_any _ a n cap bs p _ HP5.out.1 (by omega)).mono ?_
    rintro e w6 ⟨p2, rfl, hp2, hq6⟩
    have HP6 : Hid (RdPost w1 w.heap.size a n cap bs w6) := RdPost.step HP5.out hq6
    clear HP5 hq6
    go_wp2_with fail
    refine (bendText_any _ a n cap bs t _ HP6.out.1 (by omega)).mono ?_
    rintro e w7 ⟨t2, rfl, ht2, hq7⟩
    have HP7 : Hid (RdPost w1 w.heap.size a n cap bs w7) := RdPost.step HP6.out hq7
    clear HP6 hq7
    go_wp2
    go_ret2
    exact ⟨p2, t2, rfl, by omega, by omega, RdPost.below HB1.out HP7.out⟩

end Go.Proofs.YtoncodoimnideaaGreatDoor

namespace Go.Proofs.YtoncodoimnideaaGreatDoor
open Go.RowKit

/-- A drawn name has a part. -/
def DnR1 (w : World) (g : Nat) (a : Option Addr) (n cap : Nat) (bs : List Int) (e : Ending) (w' : World) : Prop := ∃ (m c : Nat) (ao : Option Addr) (xs : List PT), e = .returned (nmv ao m c) ∧ 1 ≤ m ∧ m ≤ 3 ∧ OwnPt w.heap.size w' ao m c xs ∧ (∀ x ∈ xs, x.val.size ≤ 8) ∧ RdPost w g a n cap bs w'

set_option maxRecDepth 10000 in
set_option maxHeartbeats 4000000 in
theorem drawName1_any (g : Nat) (a : Option Addr) (n cap : Nat) (bs : List Int) (w : World) (h : Rd w g a n cap bs) :
    Calls Tryz.prog 46 #[.pointer (some ⟨g, 0, none⟩)] w (DnR1 w g a n cap bs) := by
  obtain ⟨i0, hi, hz0, hz1, hz2⟩ := info_parts Tryz.infoPart
  obtain ⟨wb, hwb⟩ : ∃ wb, wb = (w.alloc (.cells #[.slice none 0 0] 28)).alloc (.cells #[.slice none 0 0] 28) := ⟨_, rfl⟩
  have hss : wb.heap.size = w.heap.size + 2 := by rw [hwb]; simp
  have x1 : wb.heap[w.heap.size + 1]? = some (.cells #[.slice none 0 0] 28) := by rw [hwb]; have := heap_alloc_new (w.alloc (.cells #[.slice none 0 0] 28)) (.cells #[.slice none 0 0] 28 (0, 0)); simpa using this
  have x0 : wb.heap[w.heap.size]? = some (.cells #[.slice none 0 0] 28) := by rw [hwb]; exact (((Below.refl _ _).alloc (Nat.le_refl _) _).block w.heap.size (by simp)).trans (heap_alloc_new w _)
  have hbb : Below w.heap.size w wb := by rw [hwb]; exact ((Below.refl _ _).alloc (Nat.le_refl _) _).alloc (by simp) _
  have hgw : g < w.heap.size := h.lt
  have HR : Hid (Rd wb g a n cap bs) := by
    have h1 := h.kept ((Below.refl w.heap.size w).alloc (Nat.le_refl _) (.cells #[.slice none 0 0] 28))
    have h2 := h1.kept ((Below.refl _ _).alloc (Nat.le_refl _) (.cells #[.slice none 0 0] 28))
    rw [hwb]; exact h2
  have HX0 : Hid (wb.heap[w.heap.size]? = some (.cells #[.slice none 0 0] 28)) := x0
  have HX1 : Hid (wb.heap[w.heap.size + 1]? = some (.cells #[.slice none 0 0] 28)) := x1
  have HSS : Hid (wb.heap.size = w.heap.size + 2) := hss
  have HTB : Hid (Touch g (g + 1) w wb) := Touch.of_below hbb
  have HWB : Hid (_ = _) := hwb
  have hsb : w.heap.size + 1 < wb.heap.size := by omega
  clear hwb x0 x1 hbb h hss
  go_enter Tryz.func46, Tryz.ntmps46
  go_upto_region 2 with fail
  rw [← HWB.out]
  clear HWB
  go_wp2_with fail
  refine (below_any g a n cap bs 3 _ HR.out (by decide)).mono ?_
  rintro e w1 ⟨v1, rfl, hv10, hv11, hp1⟩
  obtain ⟨V, rfl⟩ := Int.eq_ofNat_of_zero_le hv10
  have hV : V ≤ 2 := by omega
  have HP1 : Hid (RdPost wb g a n cap bs w1) := hp1
  have s1 := hp1.2.size
  have HX01 : Hid (w1.heap[w.heap.size]? = some (.cells #[.slice none 0 0] 28)) := (hp1.2.block _ (by omega) (.inr (by omega))).trans HX0.out
  have HX11 : Hid (w1.heap[w.heap.size + 1]? = some (.cells #[.slice none 0 0] 28)) := (hp1.2.block _ (by omega) (.inr (by omega))).trans HX1.out
  clear hp1 hv11 hv10
  go_wp2
  go_loopw [5] (fun i wr => ∃ (k cc : Nat) (ao : Option Addr) (xs : List PT), k ≤ V + 1 ∧ i = .int .i64 k ∧ Hid (wr.heap[w.heap.size]? = some (.cells #[.slice none 0 0] 28)) ∧ Hid (wr.heap[w.heap.size + 1]? = some (.cells #[.slice ao k cc] 28)) ∧ Hid (OwnPt (w.heap.size + 2) wr ao k cc xs) ∧ Hid (∀ x ∈ xs, x.val.size ≤ 8) ∧ Hid (Rd wr g a n cap bs) ∧ Hid (Touch g (g + 1) w wr)) (fun i _ => V + 1 - (intOf i).toNat)
  case atStart => exact ⟨0, 0, none, [], Nat.zero_le _, rfl, HX01, HX11, ownPt_none _ _, fun _ h => absurd h List.not_mem_nil, HP1.out.1, HTB.out.trans HP1.out.2⟩
  case round =>
    obtain ⟨k, cc, ao, xs, hk, rfl, HX, HN, HO, H8, HRD, HT⟩ := hrel
    clear HX01 HX11 HP1
    have hnr : w.heap.size + 1 < wr.heap.size := (Array.getElem?_eq_some_iff.1 HN.out).1
    by_cases hlt : k < V + 1
    · have hlti : (k : Int) < 1 + (V : Int) := by omega
      have hlti2 : (k : Int) < (V : Int) + 1 := by omega
      have HXX : Hid (∀ W : World, W.heap[w.heap.size + 1]? = some (.cells #[.slice ao k cc] 28) → W.cell? ⟨w.heap.size + 1, 0, none⟩ = some (.slice ao k cc) ∧ W.frozen? ⟨w.heap.size + 1, 0, none⟩ = false ∧ w.heap.size + 1 < W.heap.size) := fun W hW => ⟨(cell_of_row _ _ 0 _ 28 (0, 0) hW).trans rfl, frozen_of_row W _ 0 _ 28 hW, (Array.getElem?_eq_some_iff.1 hW).1⟩
      obtain ⟨t00, t01, t02⟩ := HXX.out wr HN.out
      obtain ⟨t10, t11, t12⟩ := HXX.out wr.drew HN.out
      go_upto_region 6 with fail
      go_region_law
        (first
          | (go_simp; go_at_call 75; refine (drawPart_any g a n cap bs _ (HRD.out.kept (Below.refl _ _).drew)).mono ?_; rintro e w5 ⟨⟨xa, xv⟩, rfl, hxs, hp5⟩; unfold ptv; have hN5 : w5.heap[w.heap.size + 1]? = some (.cells #[.slice ao k cc] 28) := (hp5.2.block _ hnr (.inr (by omega))).trans HN.out; have HN5 : Hid (_ = _) := hN5; obtain ⟨t20, t21, t22⟩ := HXX.out w5 hN5; have hNa := (((Below.refl w5.heap.size w5).alloc (Nat.le_refl _) (.cells #[.int .i64 xa, .string xv] 80)).block _ t22).trans hN5; obtain ⟨t30, t31, t32⟩ := HXX.out _ hNa; have hor3 := (owns_touchN HO.out.row (show Touch g (g + 1) wr w5 from ⟨hp5.2.os, hp5.2.tape, hp5.2.output, hp5.2.size, hp5.2.block⟩) (by omega)).alloc (.cells #[.int .i64 xa, .string xv] 80); have hcl : ∀ jj uu, ([.int .i64 xa, .string xv] : List Value)[jj]? = some uu → (w5.alloc (.cells #[.int .i64 xa, .string xv] 80)).cell? ((⟨w5.heap.size, 0, none⟩ : Addr).add jj) = some uu := (by intro jj uu hju; rw [Addr.add_lit, Nat.zero_add, cell_of_row _ w5.heap.size jj _ 80 _ (heap_alloc_new w5 _), ← hju]; simp); have HP5 : Hid (RdPost wr.drew g a n cap bs w5) := hp5; have hb3 : w.heap.size + 2 ≤ (w5.alloc (.cells #[.int .i64 xa, .string xv] 80)).heap.size := Nat.le_trans t22 ((Below.refl w5.heap.size w5).alloc (Nat.le_refl _) (.cells #[.int .i64 xa, .string xv] 80)).size; have h1c : ∀ u ∈ ([.int .i64 xa, .string xv] : List Value), u.oneCell' = true := (by intro u hu; simp at hu; rcases hu with rfl | rfl; exact rfl; exact rfl); have hb1 : k + 1 ≤ maxLen := (by unfold maxLen; omega); have hb2 : (k + 1) * 24 ≤ 140737488355328 := (by omega); clear hp5 hN5 hNa)
          | (refine step_append_ownT rfl (.tmp 16) (.tmp 19) 26 rfl (w.heap.size + 2) 80 i0 _ 2 24 Tryz.underlying26 hi hz0 hz1 hz2 rfl (by decide) _ k _ (by simp [Act.eval]) hor3 ⟨w5.heap.size, 0, none⟩ 1 1 [.int .i64 xa, .string xv] (by simp [Act.eval]) rfl hcl h1c hb1 hb2 hb3 ?_; intro v4 w8 hv4 hg4; obtain ⟨a4, c4, rfl⟩ := owns_shapeN hv4; have bl : Below (w.heap.size + 2) w5 w8 := ((Below.refl (w.heap.size + 2) w5).alloc t22 _).grown hg4 hb3 (fun l hl => (hor3.lt l hl).1); have HN8 : Hid (w8.heap[w.heap.size + 1]? = some (.cells #[.slice ao k cc] 28)) := (bl.block _ (Nat.lt_succ_self _)).trans HN5.out; obtain ⟨t50, t51, t52⟩ := HXX.out w8 HN8.out; have HV4 : Hid (_) := hv4; have HBL : Hid (Below (w.heap.size + 2) w5 w8) := bl; clear hv4 hg4 bl))
      all_goals
        have hp5 := HP5.out
        have s5 := hp5.2.size
        have s8 := HBL.out.size
        have x8 : w8.heap[w.heap.size]? = some (.cells #[.slice none 0 0] 28) := (HBL.out.block _ (by omega)).trans ((hp5.2.block _ (by show w.heap.size < wr.heap.size; omega) (.inr (by omega))).trans HX.out)
        have HX8 : Hid ((w8.setCell ⟨w.heap.size + 1, 0, none⟩ (.slice a4 (k + 1) c4)).heap[w.heap.size]? = some (.cells #[.slice none 0 0] 28)) := (Below.heap_setCell _ _ _ _ (by simp)).trans x8
        have HN9 : Hid ((w8.setCell ⟨w.heap.size + 1, 0, none⟩ (.slice a4 (k + 1) c4)).heap[w.heap.size + 1]? = some (.cells #[.slice a4 (k + 1) c4] 28)) := (heap_setCell_same w8 (w.heap.size + 1) 0 _ 28 _ HN8.out).trans rfl
        have HO8 : Hid (OwnPt (w.heap.size + 2) w8 a4 (k + 1) c4 (xs ++ [⟨xa, xv⟩])) := ⟨by rw [ptc_snoc]; exact HV4.out, by simp [HO.out.len], fun y hy => by
          rcases List.mem_append.1 hy with h1 | h1
          · exact HO.out.small y h1
          · simp at h1; subst h1; exact Nat.le_trans hxs (by decide)⟩
        have HO9 : Hid (OwnPt (w.heap.size + 2) (w8.setCell ⟨w.heap.size + 1, 0, none⟩ (.slice a4 (k + 1) c4)) a4 (k + 1) c4 (xs ++ [⟨xa, xv⟩])) := HO8.out.same fun l hl => Below.heap_setCell _ _ _ _ (by show l ≠ w.heap.size + 1; omega)
        have T5 : Touch g (g + 1) w w5 := HT.out.trans ⟨hp5.2.os, hp5.2.tape, hp5.2.output, hp5.2.size, hp5.2.block⟩
        have HT9 : Hid (Touch g (g + 1) w (w8.setCell ⟨w.heap.size + 1, 0, none⟩ (.slice a4 (k + 1) c4))) := ⟨HBL.out.os.trans T5.os, HBL.out.tape.trans T5.tape, HBL.out.output.trans T5.output, by simp [World.setCell]; have := T5.size; omega, fun l hl ho => (Below.heap_setCell _ _ _ _ (by show l ≠ w.heap.size + 1; omega)).trans ((HBL.out.block l (by omega)).trans (T5.block l hl ho))⟩
        have hR8 : Rd w8 g a n cap bs := hp5.1.touch (lo := w.heap.size + 2) (hi := w5.heap.size + 1) ⟨HBL.out.os, HBL.out.tape, HBL.out.output, s8, fun l hl ho => HBL.out.block l (by omega)⟩ (by omega)
        have HR9 : Hid (Rd (w8.setCell ⟨w.heap.size + 1, 0, none⟩ (.slice a4 (k + 1) c4)) g a n cap bs) := hR8.touch (touch_set' (p := w.heap.size + 1) (q := w.heap.size + 2) _ _ _ _ (Nat.le_refl _) (Nat.lt_succ_self _)) (by omega)
        have H88 : Hid (∀ y ∈ xs ++ [(⟨xa, xv⟩ : PT)], y.val.size ≤ 8) := fun y hy => by
          rcases List.mem_append.1 hy with h1 | h1
          · exact H8.out y h1
          · simp at h1; subst h1; exact hxs
        clear hp5 x8 T5 hR8
        go_wp2
        go_roundw
        case rel => exact ⟨k + 1, c4, a4, xs ++ [⟨xa, xv⟩], by omega, by go_num, HX8, HN9, HO9, H88, HR9, HT9⟩
        case measure => simp [intOf]; omega
    · obtain rfl : k = V + 1 := by omega
      have hge : ¬ (((V + 1 : Nat) : Int) < 1 + (V : Int)) := by omega
      have kn : wr.cell? ⟨w.heap.size + 1, 0, none⟩ = some (.slice ao (V + 1) cc) := (cell_of_row _ _ 0 _ 28 (0, 0) HN.out).trans rfl
      have k0 : wr.cell? ⟨w.heap.size, 0, none⟩ = some (.slice none 0 0) := (cell_of_row _ _ 0 _ 28 (0, 0) HX.out).trans rfl
      have f0 : wr.frozen? ⟨w.heap.size, 0, none⟩ = false := frozen_of_row wr _ 0 _ 28 HX.out
      have hr0 : w.heap.size < wr.heap.size := by omega
      go_wp2
      have q1 := heap_setCell_same wr w.heap.size 0 _ 28 (.slice ao (V + 1) cc) HX.out
      have tt := touch_set' (p := w.heap.size) (q := w.heap.size + 1) wr w.heap.size 0 (.slice ao (V + 1) cc) (Nat.le_refl _) (Nat.lt_succ_self _)
      try simp only [Exit.inBlock, Exit.then]
      refine bodyPost_ret (results_nm rfl _ w.heap.size rfl _ _ q1) rfl ⟨V + 1, cc, ao, xs, rfl, by omega, by omega, ?_, H8.out, HRD.out.touch tt (by omega), ?_⟩
      · have h1 := HO.out.same (w' := wr.setCell ⟨w.heap.size, 0, none⟩ (.slice ao (V + 1) cc)) fun l hl => Below.heap_setCell _ _ _ _ (by show l ≠ w.heap.size; omega)
        refine ⟨⟨h1.row.1, ?_⟩, h1.len, h1.small⟩
        rcases h1.row.2 with h | ⟨g, cap, cur, hv, hb, r⟩
        · exact .inl h
        · exact .inr ⟨g, cap, cur, hv, by omega, r⟩
      · exact ⟨HT.out.os, HT.out.tape, HT.out.output, by simp [World.setCell]; have := HT.out.size; omega, fun l hl ho => (Below.heap_setCell _ _ _ _ (by show l ≠ w.heap.size; omega)).trans (HT.out.block l hl ho)⟩

end Go.Proofs.YtoncodoimnideaaGreatDoor

namespace Go.Proofs.YtoncodoimnideaaGreatDoor
open Go.RowKit

theorem infoSizeGn : (Tryz.prog.info? 30).map (·.size) = some 5 := by kernel_rfl
theorem step_store_rowT {P : Program} {ops : Array Oper} {o : Oper} {a : Act} {w : World} {K : Act → World → Prop} {Q : Exit → Act → World → Prop} {E : Prop}
    (hgd : o.guard = none) (ty : TypeId) (x y : Operand) (ho : o.op = .store ty x y)
    (g : Nat) (cells : Array Value) (hx : a.eval x = .pointer (some ⟨g, 0, none⟩)) (hy : a.eval y = .agg cells)
    (t : TypeId) (old : Array Value) (hg : w.heap[g]? = some (.cells old t (0, 0))) (hi : (P.info? ty).map (·.size) = some cells.size)
    (hold : old.size = cells.size) (h1 : cells.all (·.oneCell') = true)
    (h : K (a.put o.dst undef) (w.setRow g cells)) : if Region.wanted o (yielded ops a.tmps) = true then Oper.wp P o a w K Q else E := by
  have hw : Region.wanted o (yielded ops a.tmps) = true := by simp [Region.wanted, hgd]
  rw [if_pos hw]
  exact wp_store_row ty x y ho g cells hx hy t old hg hi hold h1 h

/-- A general name's cells. -/
def gcl (x : GT) (ao : Option Addr) (m c : Nat) : Array Value := #[.int .i64 x.kind, .string x.text, .int .i64 x.addr, .int .i64 x.bits, .slice ao m c]
/-- While a general name is drawn: its result's box, the reader. -/
structure DG (w : World) (g : Nat) (a : Option Addr) (n cap : Nat) (bs : List Int) (W : World) : Prop where
  rd : Rd W g a n cap bs
  touch : Touch g (g + 1) w W
  lt : g < w.heap.size
  size : w.heap.size < W.heap.size
  box : W.heap[w.heap.size]? = some (.cells #[.int .i64 0, .string ⟨#[]⟩, .int .i64 0, .int .i64 0, .slice none 0 0] 30 (0, 0))
theorem DG.start {w : World} {g : Nat} {a : Option Addr} {n cap : Nat} {bs : List Int} (h : Rd w g a n cap bs) : DG w g a n cap bs (w.alloc (.cells #[.int .i64 0, .string ⟨#[]⟩, .int .i64 0, .int .i64 0, .slice none 0 0] 30)) := by
  have hb : Below w.heap.size w (w.alloc (.cells #[.int .i64 0, .string ⟨#[]⟩, .int .i64 0, .int .i64 0, .slice none 0 0] 30)) := (Below.refl _ _).alloc (Nat.le_refl _) _
  exact ⟨h.kept hb, Touch.of_below hb, h.lt, by simp, heap_alloc_new w _⟩
theorem DG.rdp {w : World} {g : Nat} {a : Option Addr} {n cap : Nat} {bs : List Int} {W W' : World} (h : DG w g a n cap bs W) (hp : RdPost W g a n cap bs W') : DG w g a n cap bs W' :=
  ⟨hp.1, h.touch.trans hp.2, h.lt, Nat.lt_of_lt_of_le h.size hp.2.size, (hp.2.block _ h.size (.inr h.lt)).trans h.box⟩
theorem DG.below {w : World} {g : Nat} {a : Option Addr} {n cap : Nat} {bs : List Int} {W W' : World} (h : DG w g a n cap bs W) (hb : Below W.heap.size W W') : DG w g a n cap bs W' :=
  ⟨h.rd.kept hb, h.touch.trans (Touch.of_below hb), h.lt, Nat.lt_of_lt_of_le h.size hb.size, (hb.block _ h.size).trans h.box⟩
theorem DG.post {w : World} {g : Nat} {a : Option Addr} {n cap : Nat} {bs : List Int} {W : World} (h : DG w g a n cap bs W) : RdPost w g a n cap bs W := ⟨h.rd, h.touch⟩
theorem setRow_touchG (W : World) (P : Nat) (cs : Array Value) : Touch P (P + 1) W (W.setRow P cs) := ⟨rfl, rfl, rfl, by simp, fun l _ hl => setRow_other _ _ _ _ (by omega)⟩
/-- A drawn general name. -/
def GnR (nz : Bool) (w : World) (g : Nat) (a : Option Addr) (n cap : Nat) (bs : List Int) (e : Ending) (w' : World) : Prop := ∃ (x : GT) (ao : Option Addr) (m c : Nat) (xs : List PT), e = .returned (gnv x ao m c) ∧ x.text.size ≤ 60 ∧ m ≤ 3 ∧ (nz = true → x.kind = 4 → 1 ≤ m) ∧ OwnPt w.heap.size w' ao m c xs ∧ RdPost w g a n cap bs w'
theorem DG.fin {w : World} {g : Nat} {a : Option Addr} {n cap : Nat} {bs : List Int} {W : World} (h : DG w g a n cap bs W) (x : GT) (ao : Option Addr) (m c : Nat) (xs : List PT) {B : Nat} (ho : OwnPt B W ao m c xs) (hB : w.heap.size < B) :
    (W.setRow w.heap.size (gcl x ao m c)).heap[w.heap.size]? = some (.cells (gcl x ao m c) 30 (0, 0)) ∧ OwnPt w.heap.size (W.setRow w.heap.size (gcl x ao m c)) ao m c xs ∧ RdPost w g a n cap bs (W.setRow w.heap.size (gcl x ao m c)) := by
  have ho' : ∀ l, l ≠ w.heap.size → (W.setRow w.heap.size (gcl x ao m c)).heap[l]? = W.heap[l]? := fun l hl => setRow_other _ _ _ _ hl
  have hs : (W.setRow w.heap.size (gcl x ao m c)).heap.size = W.heap.size := by simp
  have hl := h.lt
  have ht : Touch w.heap.size (w.heap.size + 1) W (W.setRow w.heap.size (gcl x ao m c)) := ⟨rfl, rfl, rfl, Nat.le_of_eq hs.symm, fun l _ hl2 => ho' l (by omega)⟩
  refine ⟨setRow_heap _ _ _ _ _ _ h.box, (ho.same fun l hl => ho' l (by omega)).lower (by omega), h.post.grown ht h.lt (Nat.le_refl _)⟩

theorem five_set {W : World} {P : Nat} {t : TypeId} {o0 o1 o2 o3 o4 : Value} (h : W.heap[P]? = some (.cells #[o0, o1, o2, o3, o4] t (0, 0))) (v0 v1 v2 v3 v4 : Value) :
    (((((W.setCell ⟨P, 0, none⟩ v0).setCell ⟨P, 1, none⟩ v1).setCell ⟨P, 2, none⟩ v2).setCell ⟨P, 3, none⟩ v3).setCell ⟨P, 4, none⟩ v4).heap[P]? = some (.cells #[v0, v1, v2, v3, v4] t (0, 0)) := by
  have h0 : (W.setCell ⟨P, 0, none⟩ v0).heap[P]? = some (.cells #[v0, o1, o2, o3, o4] t (0, 0)) := heap_setCell_same W P 0 _ t v0 h
  have h1 : ((W.setCell ⟨P, 0, none⟩ v0).setCell ⟨P, 1, none⟩ v1).heap[P]? = some (.cells #[v0, v1, o2, o3, o4] t (0, 0)) := heap_setCell_same _ P 1 _ t v1 h0
  have h2 : (((W.setCell ⟨P, 0, none⟩ v0).setCell ⟨P, 1, none⟩ v1).setCell ⟨P, 2, none⟩ v2).heap[P]? = some (.cells #[v0, v1, v2, o3, o4] t (0, 0)) := heap_setCell_same _ P 2 _ t v2 h1
  have h3 : ((((W.setCell ⟨P, 0, none⟩ v0).setCell ⟨P, 1, none⟩ v1).setCell ⟨P, 2, none⟩ v2).setCell ⟨P, 3, none⟩ v3).heap[P]? = some (.cells #[v0, v1, v2, v3, o4] t (0, 0)) := heap_setCell_same _ P 3 _ t v3 h2
  exact heap_setCell_same _ P 4 _ t v4 h3
theorem five_touch (W : World) (P : Nat) (v0 v1 v2 v3 v4 : Value) :
    Touch P (P + 1) W (((((W.setCell ⟨P, 0, none⟩ v0).setCell ⟨P, 1, none⟩ v1).setCell ⟨P, 2, none⟩ v2).setCell ⟨P, 3, none⟩ v3).setCell ⟨P, 4, none⟩ v4) :=
  Touch.setCell (Touch.setCell (Touch.setCell (Touch.setCell (Touch.setCell (Touch.same P (P + 1) W) (p := ⟨P, 0, none⟩) (Nat.le_refl P) (Nat.lt_succ_self P) v0) (p := ⟨P, 1, none⟩) (Nat.le_refl P) (Nat.lt_succ_self P) v1) (p := ⟨P, 2, none⟩) (Nat.le_refl P) (Nat.lt_succ_self P) v2) (p := ⟨P, 3, none⟩) (Nat.le_refl P) (Nat.lt_succ_self P) v3) (p := ⟨P, 4, none⟩) (Nat.le_refl P) (Nat.lt_succ_self P) v4
theorem DG.cells {w : World} {g : Nat} {a : Option Addr} {n cap : Nat} {bs : List Int} {W : World} (h : DG w g a n cap bs W) :
    (W.cell? ⟨w.heap.size, 0, none⟩ = some (.int .i64 0) ∧ W.cell? ⟨w.heap.size, 1, none⟩ = some (.string ⟨#[]⟩) ∧ W.cell? ⟨w.heap.size, 2, none⟩ = some (.int .i64 0) ∧ W.cell? ⟨w.heap.size, 3, none⟩ = some (.int .i64 0) ∧ W.cell? ⟨w.heap.size, 4, none⟩ = some (.slice none 0 0)) ∧
    (W.frozen? ⟨w.heap.size, 0, none⟩ = false ∧ W.frozen? ⟨w.heap.size, 1, none⟩ = false ∧ W.frozen? ⟨w.heap.size, 2, none⟩ = false ∧ W.frozen? ⟨w.heap.size, 3, none⟩ = false ∧ W.frozen? ⟨w.heap.size, 4, none⟩ = false) := by
  have hb := h.box
  exact ⟨⟨(cell_of_row _ _ 0 _ 30 (0, 0) hb).trans rfl, (cell_of_row _ _ 1 _ 30 (0, 0) hb).trans rfl, (cell_of_row _ _ 2 _ 30 (0, 0) hb).trans rfl, (cell_of_row _ _ 3 _ 30 (0, 0) hb).trans rfl, (cell_of_row _ _ 4 _ 30 (0, 0) hb).trans rfl⟩, frozen_of_row W _ 0 _ 30 hb, frozen_of_row W _ 1 _ 30 hb, frozen_of_row W _ 2 _ 30 hb, frozen_of_row W _ 3 _ 30 hb, frozen_of_row W _ 4 _ 30 hb⟩
theorem DG.fin5 {w : World} {g : Nat} {a : Option Addr} {n cap : Nat} {bs : List Int} {W : World} (h : DG w g a n cap bs W) (v0 v1 v2 v3 v4 : Value) :
    RdPost w g a n cap bs (((((W.setCell ⟨w.heap.size, 0, none⟩ v0).setCell ⟨w.heap.size, 1, none⟩ v1).setCell ⟨w.heap.size, 2, none⟩ v2).setCell ⟨w.heap.size, 3, none⟩ v3).setCell ⟨w.heap.size, 4, none⟩ v4) :=
  h.post.grown (five_touch _ _ _ _ _ _ _) h.lt (Nat.le_refl _)

def annC : Array Value := #[.string ⟨#[97, 110, 110]⟩, .string ⟨#[98, 111, 98]⟩]
theorem annC_get (v : Nat) (h : v < 2) : ∃ x : ByteArray, annC[v]? = some (.string x) ∧ 0 ≤ x.size ∧ x.size ≤ 20 := by
  match v, h with
  | 0, _ | 1, _ => exact ⟨_, rfl, by decide, by decide⟩

set_option maxRecDepth 10000 in
set_option maxHeartbeats 2000000 in
theorem drawGen_any (g : Nat) (a : Option Addr) (n cap : Nat) (bs : List Int) (w : World) (h : Rd w g a n cap bs) :
    Calls Tryz.prog 24 #[.pointer (some ⟨g, 0, none⟩)] w (GnR true w g a n cap bs) := by
  obtain ⟨w1, hw1⟩ : ∃ w1, w1 = w.alloc (.cells #[.int .i64 0, .string ⟨#[]⟩, .int .i64 0, .int .i64 0, .slice none 0 0] 30) := ⟨_, rfl⟩
  have H1 : Hid (DG w g a n cap bs w1) := by rw [hw1]; exact DG.start h
  have HW : Hid (_ = _) := hw1
  clear h hw1
  go_enter Tryz.func24, Tryz.ntmps24
  go_upto_region 1 with fail
  rw [← HW.out]
  clear HW
  go_wp2_with fail
  refine (below_any g a n cap bs 4 _ H1.out.rd (by decide)).mono ?_
  rintro e w2 ⟨v, rfl, hv0, hv1, hp⟩
  have H2 : Hid (DG w g a n cap bs w2) := H1.out.rdp hp
  clear hp H1
  by_cases h0 : v = 0
  · subst h0
    have hbT : Below w2.heap.size w2 (w2.drew.alloc (.cells #[.string ⟨#[97, 110, 110]⟩, .string ⟨#[98, 111, 98]⟩] 9)) := (Below.refl _ _).drew.alloc (Nat.le_refl _) _
    have HBT : Hid (Below w2.heap.size w2 (w2.drew.alloc (.cells #[.string ⟨#[97, 110, 110]⟩, .string ⟨#[98, 111, 98]⟩] 9))) := hbT
    have HLL : Hid (g < w2.heap.size) := Nat.lt_trans H2.out.lt H2.out.size
    clear hbT
    go_upto_region 3 with fail
    go_region_law
      (first
        | (go_simp; go_at_call 22; refine (below_any g a n cap bs 2 (w2.drew.alloc (.cells #[.string ⟨#[97, 110, 110]⟩, .string ⟨#[98, 111, 98]⟩] 9)) (H2.out.below HBT.out).rd (by decide)).mono ?_; rintro e wa ⟨y, rfl, hy0, hy1, hp6⟩; obtain ⟨u, rfl⟩ := Int.eq_ofNat_of_zero_le hy0; have hu : u < 2 := (by omega); have hui : (u : Int) < 2 := (by omega); obtain ⟨x, js, hx0, hx1⟩ : ∃ x : ByteArray, wa.cell? ⟨w2.heap.size, u, none⟩ = some (.string x) ∧ 0 ≤ x.size ∧ x.size ≤ 20 := (by obtain ⟨x, h1, h2, h3⟩ := annC_get u hu; exact ⟨x, (cell_of_row _ _ u _ 9 (0, 0) ((hp6.2.block _ (by simp) (.inr (by have := HLL.out; show g + 1 ≤ w2.heap.size; omega))).trans (heap_alloc_new w2.drew _))).trans h1, by omega, by omega⟩); have hla : w2.heap.size < wa.heap.size := (by have := hp6.2.size; simp at this; omega); have HA : Hid (DG w g a n cap bs wa) := (H2.out.below HBT.out).rdp hp6; have hs2 : ¬ 9223372036854775807 < x.size + 1 := (by omega); have HJ : Hid (_) := js; clear hp6 hy1 hy0)
        | (go_simp; go_at_call 22; refine (below_any g a n cap bs 2 w2.drew (H2.out.below (Below.refl _ _).drew).rd (by decide)).mono ?_; rintro e wb ⟨y, rfl, hy0, hy1, hp6⟩; obtain ⟨u, rfl⟩ := Int.eq_ofNat_of_zero_le hy0; have hu : u < 2 := (by omega); have hui : (u : Int) < 2 := (by omega); obtain ⟨x, hx, hx0, hx1⟩ : ∃ x : ByteArray, annC[u]? = some (.string x) ∧ 0 ≤ x.size ∧ x.size ≤ 20 := (by obtain ⟨x, h1, h2, h3⟩ := annC_get u hu; exact ⟨x, h1, by omega, by omega⟩); have js : (wb.alloc (.cells #[.string ⟨#[97, 110, 110]⟩, .string ⟨#[98, 111, 98]⟩] 9)).cell? ⟨wb.heap.size, u, none⟩ = some (.string x) := ((cell_of_row _ _ u _ 9 (0, 0) (heap_alloc_new wb _)).trans hx); have HX : Hid (annC[u]? = some (.string x)) := hx; have HB : Hid (DG w g a n cap bs wb) := (H2.out.below (Below.refl _ _).drew).rdp hp6; have HBA : Hid (DG w g a n cap bs (wb.alloc (.cells #[.string ⟨#[97, 110, 110]⟩, .string ⟨#[98, 111, 98]⟩] 9))) := HB.out.below ((Below.refl _ _).alloc (Nat.le_refl _) _); have hs2 : ¬ 9223372036854775807 < x.size + 1 := (by omega); clear hp6 hy1 hy0 hx)
        | (go_simp; go_at_call 20; refine (drawHost_any g a n cap bs false wa HA.out.rd).mono ?_; rintro e wc ⟨t, rfl, ht0, ht1, hp7⟩; have jt : wc.cell? ⟨w2.heap.size, u, none⟩ = some (.string x) := ((World.cell?_of_block (a := ⟨w2.heap.size, u, none⟩) (hp7.2.block _ hla (.inr (by have := HLL.out; show g + 1 ≤ w2.heap.size; omega)))).trans HJ.out); have hlc : w2.heap.size < wc.heap.size := (Nat.lt_of_lt_of_le hla hp7.2.size); have HC : Hid (DG w g a n cap bs wc) := HA.out.rdp hp7; have hs3 : ¬ 9223372036854775807 < x.size + 1 + t.size := (by omega); obtain ⟨⟨c0, c1, c2, c3, c4⟩, f0, f1, f2, f3, f4⟩ := HC.out.cells; have hlP := HC.out.size; clear hp7)
        | (go_simp; go_at_call 20; refine (drawHost_any g a n cap bs false (wb.alloc (.cells #[.string ⟨#[97, 110, 110]⟩, .string ⟨#[98, 111, 98]⟩] 9)) HBA.out.rd).mono ?_; rintro e wc ⟨t, rfl, ht0, ht1, hp7⟩; have jt : wc.cell? ⟨wb.heap.size, u, none⟩ = some (.string x) := ((cell_of_row _ _ u _ 9 (0, 0) ((hp7.2.block _ (by simp) (.inr (by have := HB.out.lt; have := HB.out.size; show g + 1 ≤ wb.heap.size; omega))).trans (heap_alloc_new wb _))).trans HX.out); have hlc : wb.heap.size < wc.heap.size := (by have := hp7.2.size; simp at this; omega); have HC : Hid (DG w g a n cap bs wc) := HBA.out.rdp hp7; have hs3 : ¬ 9223372036854775807 < x.size + 1 + t.size := (by omega); obtain ⟨⟨c0, c1, c2, c3, c4⟩, f0, f1, f2, f3, f4⟩ := HC.out.cells; have hlP := HC.out.size; clear hp7)
        | (go_simp; go_at_call 20; refine (drawHost_any g a n cap bs false wb HB.out.rd).mono ?_; rintro e wd ⟨t, rfl, ht0, ht1, hp7⟩; have HD : Hid (DG w g a n cap bs wd) := HB.out.rdp hp7; have jt : (wd.alloc (.cells #[.string ⟨#[97, 110, 110]⟩, .string ⟨#[98, 111, 98]⟩] 9)).cell? ⟨wd.heap.size, u, none⟩ = some (.string x) := ((cell_of_row _ _ u _ 9 (0, 0) (heap_alloc_new wd _)).trans HX.out); have HC : Hid (DG w g a n cap bs (wd.alloc (.cells #[.string ⟨#[97, 110, 110]⟩, .string ⟨#[98, 111, 98]⟩] 9))) := HD.out.below ((Below.refl _ _).alloc (Nat.le_refl _) _); have hs3 : ¬ 9223372036854775807 < x.size + 1 + t.size := (by omega); obtain ⟨⟨c0, c1, c2, c3, c4⟩, f0, f1, f2, f3, f4⟩ := HC.out.cells; have hlP := HC.out.size; clear hp7))
    all_goals
      go_wp2
      try simp only [Exit.inBlock, Exit.then]
      exact bodyPost_ret (results_gn rfl _ w.heap.size rfl _ _ _ _ _ _ (five_set HC.out.box _ _ _ _ _)) rfl ⟨⟨2, x ++ ⟨#[64]⟩ ++ t, 0, 0⟩, none, 0, 0, [], rfl, by rw [app_size, app_size]; show x.size + 1 + t.size ≤ 60; omega, by omega, fun _ h => absurd (show (2 : Int) = 4 from h) (by decide), ownPt_none _ _, HC.out.fin5 _ _ _ _ _⟩
  have e0 : (v == 0) = false := beq_false_of_ne h0
  by_cases h1 : v = 1
  · subst h1
    go_wp2_with fail
    refine (below_any g a n cap bs 4 _ H2.out.rd (by decide)).mono ?_
    rintro e w3 ⟨y, rfl, hy0, hy1, hp3⟩
    have H3 : Hid (DG w g a n cap bs w3) := H2.out.rdp hp3
    have hy2 : y ≤ 3 := by omega
    clear hp3 H2 hy1
    go_wp2_with fail
    refine (below_any g a n cap bs 3 _ H3.out.rd (by decide)).mono ?_
    rintro e w4 ⟨z, rfl, hz0, hz1, hp4⟩
    have H4 : Hid (DG w g a n cap bs w4) := H3.out.rdp hp4
    have hz2 : z ≤ 2 := by omega
    clear hp4 H3 hz1
    go_wp2_with (refine wpList_store_rowTo rfl 30 _ _ rfl rfl (w.heap.size) _ rfl rfl 30 #[.int .i64 0, .string ⟨#[]⟩, .int .i64 0, .int .i64 0, .slice none 0 0] H4.out.box infoSizeGn rfl (by simp [Value.oneCell']) ?_)
    obtain ⟨hb, hO, hP⟩ := H4.out.fin ⟨3, ⟨#[]⟩, 167772160 + y * 65536 + z, 0⟩ none 0 0 [] (ownPt_none (w.heap.size + 1) _) (Nat.lt_succ_self _)
    unfold gcl at hb hO hP
    try simp only [Exit.inBlock, Exit.then]
    exact bodyPost_ret (results_gn rfl _ w.heap.size rfl _ _ _ _ _ _ hb) rfl ⟨⟨3, ⟨#[]⟩, 167772160 + y * 65536 + z, 0⟩, none, 0, 0, [], rfl, (show (0 : Nat) ≤ 60 by omega), by omega, fun _ h => absurd (show (3 : Int) = 4 from h) (by decide), hO, hP⟩
  have e1 : (v == 1) = false := beq_false_of_ne h1
  by_cases h2 : v = 2
  · subst h2
    go_wp2_with fail
    refine (drawName1_any g a n cap bs _ H2.out.rd).mono ?_
    rintro e w3 ⟨m, c, ao, xs, rfl, hm0, hm1, ho, hx8, hp3⟩
    unfold nmv
    have H3 : Hid (DG w g a n cap bs w3) := H2.out.rdp hp3
    have HO : Hid (OwnPt w2.heap.size w3 ao m c xs) := ho
    have HL : Hid (w.heap.size < w2.heap.size) := H2.out.size
    clear hp3 H2 ho
    go_wp2_with (refine wpList_store_rowTo rfl 30 _ _ rfl rfl (w.heap.size) #[.int .i64 4, .string ⟨#[]⟩, .int .i64 0, .int .i64 0, .slice ao m c] rfl rfl 30 #[.int .i64 0, .string ⟨#[]⟩, .int .i64 0, .int .i64 0, .slice none 0 0] H3.out.box infoSizeGn rfl (by simp [Value.oneCell']) ?_)
    obtain ⟨hb, hO, hP⟩ := H3.out.fin ⟨4, ⟨#[]⟩, 0, 0⟩ ao m c xs HO.out HL.out
    unfold gcl at hb hO hP
    try simp only [Exit.inBlock, Exit.then]
    exact bodyPost_ret (results_gn rfl _ w.heap.size rfl _ _ _ _ _ _ hb) rfl ⟨⟨4, ⟨#[]⟩, 0, 0⟩, ao, m, c, xs, rfl, by decide, hm1, fun _ _ => hm0, hO, hP⟩
  · have e2 : (v == 2) = false := beq_false_of_ne h2
    go_wp2_with fail
    refine (drawHost_any g a n cap bs true _ H2.out.rd).mono ?_
    rintro e w3 ⟨t, rfl, ht0, ht1, hp3⟩
    have H3 : Hid (DG w g a n cap bs w3) := H2.out.rdp hp3
    clear hp3 H2
    go_wp2_with (refine wpList_store_rowTo rfl 30 _ _ rfl rfl (w.heap.size) #[.int .i64 1, .string t, .int .i64 0, .int .i64 0, .slice none 0 0] rfl rfl 30 #[.int .i64 0, .string ⟨#[]⟩, .int .i64 0, .int .i64 0, .slice none 0 0] H3.out.box infoSizeGn rfl (by simp [Value.oneCell']) ?_)
    obtain ⟨hb, hO, hP⟩ := H3.out.fin ⟨1, t, 0, 0⟩ none 0 0 [] (ownPt_none (w.heap.size + 1) _) (Nat.lt_succ_self _)
    unfold gcl at hb hO hP
    try simp only [Exit.inBlock, Exit.then]
    exact bodyPost_ret (results_gn rfl _ w.heap.size rfl _ _ _ _ _ _ hb) rfl ⟨⟨1, t, 0, 0⟩, none, 0, 0, [], rfl, by show t.size ≤ 60; omega, by omega, fun _ h => absurd (show (1 : Int) = 4 from h) (by decide), hO, hP⟩

end Go.Proofs.YtoncodoimnideaaGreatDoor

namespace Go.Proofs.YtoncodoimnideaaGreatDoor
open Go.RowKit

def baseC : Array Value := #[.string ⟨#[97, 110, 110, 64]⟩, .string ⟨#[]⟩, .string ⟨#[46]⟩]
theorem baseC_get (v : Nat) (h : v < 3) : ∃ x : ByteArray, baseC[v]? = some (.string x) ∧ 0 ≤ x.size ∧ x.size ≤ 20 := by
  match v, h with
  | 0, _ | 1, _ | 2, _ => exact ⟨_, rfl, by decide, by decide⟩

def bitsC : Array Value := #[.int .i64 0, .int .i64 8, .int .i64 14, .int .i64 16, .int .i64 31, .int .i64 32]
theorem bitsC_get (v : Nat) (h : v < 6) : ∃ x : Int, bitsC[v]? = some (.int .i64 x) ∧ (x = 0 ∨ x = 8 ∨ x = 14 ∨ x = 16 ∨ x = 31 ∨ x = 32) := by
  match v, h with
  | 0, _ | 1, _ | 2, _ | 3, _ | 4, _ | 5, _ => exact ⟨_, rfl, by decide⟩
theorem GnR.weak {w : World} {g : Nat} {a : Option Addr} {n cap : Nat} {bs : List Int} {e : Ending} {w' : World} (h : GnR true w g a n cap bs e w') : GnR false w g a n cap bs e w' := by
  obtain ⟨x, ao, m, c, xs, h1, h2, h3, _, h5⟩ := h
  exact ⟨x, ao, m, c, xs, h1, h2, h3, (fun h => nomatch h), h5⟩

set_option maxRecDepth 10000 in
set_option maxHeartbeats 2000000 in
theorem drawBase_any (g : Nat) (a : Option Addr) (n cap : Nat) (bs : List Int) (w : World) (h : Rd w g a n cap bs) :
    Calls Tryz.prog 25 #[.pointer (some ⟨g, 0, none⟩)] w (GnR false w g a n cap bs) := by
  obtain ⟨w1, hw1⟩ : ∃ w1, w1 = w.alloc (.cells #[.int .i64 0, .string ⟨#[]⟩, .int .i64 0, .int .i64 0, .slice none 0 0] 30) := ⟨_, rfl⟩
  have H1 : Hid (DG w g a n cap bs w1) := by rw [hw1]; exact DG.start h
  have HW : Hid (_ = _) := hw1
  clear h hw1
  go_enter Tryz.func25, Tryz.ntmps25
  go_upto_region 1 with fail
  rw [← HW.out]
  clear HW
  go_wp2_with fail
  refine (below_any g a n cap bs 4 _ H1.out.rd (by decide)).mono ?_
  rintro e w2 ⟨v, rfl, hv0, hv1, hp⟩
  have H2 : Hid (DG w g a n cap bs w2) := H1.out.rdp hp
  clear hp H1
  by_cases h0 : v = 0
  · subst h0
    go_wp2_with fail
    refine (drawHost_any g a n cap bs false _ H2.out.rd).mono ?_
    rintro e w3 ⟨t, rfl, ht0, ht1, hp3⟩
    have H3 : Hid (DG w g a n cap bs w3) := H2.out.rdp hp3
    have HP3 : Hid (RdPost w3 g a n cap bs w3) := ⟨H3.out.rd, Touch.same _ _ _⟩
    have HL3 : Hid (g < w3.heap.size) := Nat.lt_trans H3.out.lt H3.out.size
    clear hp3 H2
    obtain ⟨wt, hwt⟩ : ∃ wt, wt = World.alloc w3 (.cells baseC 9) := ⟨_, rfl⟩
    have hbt : Below (World.heap w3).size w3 wt := by rw [hwt]; exact (Below.refl _ _).alloc (Nat.le_refl _) _
    have xt : wt.heap[(World.heap w3).size]? = some (.cells baseC 9) := by rw [hwt]; exact heap_alloc_new w3 _
    have st : (World.heap w3).size < wt.heap.size := (Array.getElem?_eq_some_iff.1 xt).1
    have HPT : Hid (RdPost w3 g a n cap bs wt) := ⟨HP3.out.1.kept hbt, HP3.out.2.trans (Touch.of_below hbt)⟩
    have HWT : Hid (_ = _) := hwt
    clear hwt
    go_wp2_with fail
    have et : World.alloc w3 (.cells #[.string ⟨#[97, 110, 110, 64]⟩, .string ⟨#[]⟩, .string ⟨#[46]⟩] 9) = wt := HWT.out.symm
    rw [et]
    clear HWT et
    refine (below_any g a n cap bs 3 _ HPT.out.1 (by decide)).mono ?_
    rintro e w6 ⟨y, rfl, hy0, hy1, hp6⟩
    obtain ⟨u, rfl⟩ := Int.eq_ofNat_of_zero_le hy0
    have hu : u < 3 := by omega
    have hui : (u : Int) < 3 := by omega
    obtain ⟨x, hx, hx0, hx1⟩ := baseC_get u hu
    have hgl : g < (World.heap w3).size := HL3.out
    have js : w6.cell? ⟨(World.heap w3).size, u, none⟩ = some (.string x) := (cell_of_row _ _ u _ 9 (0, 0) ((hp6.2.block _ st (.inr (by omega))).trans xt)).trans hx
    have hs6 := hp6.2.size
    have hl6 : (World.heap w3).size < w6.heap.size := by omega
    have HP6 : Hid (RdPost w3 g a n cap bs w6) := RdPost.step HPT.out hp6
    clear hp6 hy1 hy0 xt hbt HPT hx
    have H6 : Hid (DG w g a n cap bs w6) := H3.out.rdp HP6.out
    have hs2 : ¬ 9223372036854775807 < x.size + t.size := by omega
    go_wp2_with (refine wpList_store_rowTo rfl 30 _ _ rfl rfl (w.heap.size) #[.int .i64 2, .string (x ++ t), .int .i64 0, .int .i64 0, .slice none 0 0] rfl rfl 30 #[.int .i64 0, .string ⟨#[]⟩, .int .i64 0, .int .i64 0, .slice none 0 0] H6.out.box infoSizeGn rfl (by simp [Value.oneCell']) ?_)
    obtain ⟨hb, hO, hP⟩ := H6.out.fin ⟨2, x ++ t, 0, 0⟩ none 0 0 [] (ownPt_none (w.heap.size + 1) _) (Nat.lt_succ_self _)
    unfold gcl at hb hO hP
    try simp only [Exit.inBlock, Exit.then]
    exact bodyPost_ret (results_gn rfl _ w.heap.size rfl _ _ _ _ _ _ hb) rfl ⟨⟨2, x ++ t, 0, 0⟩, none, 0, 0, [], rfl, by rw [app_size]; show x.size + t.size ≤ 60; omega, by omega, (fun h => nomatch h), hO, hP⟩
  have e0 : (v == 0) = false := beq_false_of_ne h0
  by_cases h1 : v = 1
  · subst h1
    obtain ⟨wt, hwt⟩ : ∃ wt, wt = w2.alloc (.cells bitsC 2) := ⟨_, rfl⟩
    have hbt : Below w2.heap.size w2 wt := by rw [hwt]; exact (Below.refl _ _).alloc (Nat.le_refl _) _
    have xt : wt.heap[w2.heap.size]? = some (.cells bitsC 2) := by rw [hwt]; exact heap_alloc_new w2 _
    have st : w2.heap.size < wt.heap.size := (Array.getElem?_eq_some_iff.1 xt).1
    have HT : Hid (DG w g a n cap bs wt) := H2.out.below hbt
    have HWT : Hid (_ = _) := hwt
    clear hwt
    go_wp2_with fail
    have et : w2.alloc (.cells #[.int .i64 0, .int .i64 8, .int .i64 14, .int .i64 16, .int .i64 31, .int .i64 32] 2) = wt := HWT.out.symm
    rw [et]
    clear HWT et
    refine (below_any g a n cap bs 6 _ HT.out.rd (by decide)).mono ?_
    rintro e w3 ⟨y, rfl, hy0, hy1, hp3⟩
    obtain ⟨u, rfl⟩ := Int.eq_ofNat_of_zero_le hy0
    have hu : u < 6 := by omega
    have hui : (u : Int) < 6 := by omega
    obtain ⟨x, hx, hxx⟩ := bitsC_get u hu
    have hgl := H2.out.lt
    have hgs := H2.out.size
    have js : w3.cell? ⟨w2.heap.size, u, none⟩ = some (.int .i64 x) := (cell_of_row _ _ u _ 2 (0, 0) ((hp3.2.block _ st (.inr (by omega))).trans xt)).trans hx
    have hs3 := hp3.2.size
    have hl3 : w2.heap.size < w3.heap.size := by omega
    have H3 : Hid (DG w g a n cap bs w3) := HT.out.rdp hp3
    clear hp3 hy1 hy0 xt hbt HT hx H2 hgl hgs
    go_wp2_with fail
    refine (below_any g a n cap bs 4 _ H3.out.rd (by decide)).mono ?_
    rintro e w4 ⟨y2, rfl, hy0, hy1, hp4⟩
    have H4 : Hid (DG w g a n cap bs w4) := H3.out.rdp hp4
    have hy2 : y2 ≤ 3 := by omega
    clear hp4 H3 hy1 js
    go_wp2_with fail
    refine (below_any g a n cap bs 3 _ H4.out.rd (by decide)).mono ?_
    rintro e w5 ⟨z, rfl, hz0, hz1, hp5⟩
    have H5 : Hid (DG w g a n cap bs w5) := H4.out.rdp hp5
    have hz2 : z ≤ 2 := by omega
    clear hp5 H4 hz1
    rcases hxx with rfl | rfl | rfl | rfl | rfl | rfl
    all_goals
      go_wp2_with (refine wpList_store_rowTo rfl 30 _ _ rfl rfl (w.heap.size) _ rfl rfl 30 #[.int .i64 0, .string ⟨#[]⟩, .int .i64 0, .int .i64 0, .slice none 0 0] H5.out.box infoSizeGn rfl (by simp [Value.oneCell']) ?_)
      try simp only [Exit.inBlock, Exit.then]
      exact bodyPost_ret (results_gn rfl _ w.heap.size rfl _ _ _ _ _ _ (setRow_heap _ _ _ _ _ _ H5.out.box)) rfl ⟨⟨3, ⟨#[]⟩, _, _⟩, none, 0, 0, [], rfl, (show (0 : Nat) ≤ 60 by omega), by omega, (fun h => nomatch h), ownPt_none _ _, H5.out.post.grown (lo := w.heap.size) (hi := w.heap.size + 1) (setRow_touchG w5 w.heap.size _) H5.out.lt (Nat.le_refl _)⟩
  have e1 : (v == 1) = false := beq_false_of_ne h1
  by_cases h2 : v = 2
  · subst h2
    go_wp2_with fail
    refine (drawName1_any g a n cap bs _ H2.out.rd).mono ?_
    rintro e w3 ⟨m, c, ao, xs, rfl, hm0, hm1, ho, hx8, hp3⟩
    unfold nmv
    have H3 : Hid (DG w g a n cap bs w3) := H2.out.rdp hp3
    have HL : Hid (w.heap.size < w2.heap.size) := H2.out.size
    obtain ⟨gb, rfl, hgb0, hgb1⟩ := ho.there (by omega)
    have hcap := ho.cap
    have HO : Hid (OwnPt w2.heap.size w3 (some ⟨gb, 0, none⟩) m c xs) := ho
    clear hp3 H2 ho
    obtain ⟨w4, hw4⟩ : ∃ w4, w4 = w3.alloc (.cells #[.slice (some ⟨gb, 0, none⟩) m c] 28) := ⟨_, rfl⟩
    have hb4 : Below w3.heap.size w3 w4 := by rw [hw4]; exact (Below.refl _ _).alloc (Nat.le_refl _) _
    have x4 : w4.heap[w3.heap.size]? = some (.cells #[.slice (some ⟨gb, 0, none⟩) m c] 28) := by rw [hw4]; exact heap_alloc_new w3 _
    have s4 : w3.heap.size < w4.heap.size := (Array.getElem?_eq_some_iff.1 x4).1
    have H4 : Hid (DG w g a n cap bs w4) := H3.out.below hb4
    have HO4 : Hid (OwnPt w2.heap.size w4 (some ⟨gb, 0, none⟩) m c xs) := HO.out.keep fun q hq _ hl => hb4.block _ hl
    have HX4 : Hid (_ = _) := x4
    have HW4 : Hid (_ = _) := hw4
    have HGB : Hid (gb < w3.heap.size) := hgb1
    clear hw4 hb4 x4
    go_upto_region 11 with fail
    rw [← HW4.out]
    clear HW4
    go_wp2_with fail
    refine (once_any g a n cap bs 2 _ H4.out.rd (by decide) (by decide)).mono ?_
    rintro e w5 ⟨b5, rfl, hp5⟩
    have hgl := H4.out.lt
    have hgs := H4.out.size
    have hsz3 := H3.out.size
    have H5 : Hid (DG w g a n cap bs w5) := H4.out.rdp hp5
    have HO5 : Hid (OwnPt w2.heap.size w5 (some ⟨gb, 0, none⟩) m c xs) := HO4.out.keep fun q hq h1 hl => hp5.2.block _ hl (.inr (by have := HL.out; omega))
    have HX5 : Hid (w5.heap[w3.heap.size]? = some (.cells #[.slice (some ⟨gb, 0, none⟩) m c] 28 (0, 0))) := (hp5.2.block _ s4 (.inr (by omega))).trans HX4.out
    have k0 : w5.cell? ⟨w3.heap.size, 0, none⟩ = some (.slice (some ⟨gb, 0, none⟩) m c) := (cell_of_row _ _ 0 _ 28 (0, 0) HX5.out).trans rfl
    have f0 : w5.frozen? ⟨w3.heap.size, 0, none⟩ = false := frozen_of_row w5 _ 0 _ 28 HX5.out
    have s5 : w3.heap.size < w5.heap.size := Nat.lt_of_lt_of_le s4 hp5.2.size
    clear hp5 H4 HO4 HX4 s4
    cases b5 with
    | false =>
      go_wp2_with (refine wpList_store_rowTo rfl 30 _ _ rfl rfl (w.heap.size) #[.int .i64 4, .string ⟨#[]⟩, .int .i64 0, .int .i64 0, .slice (some ⟨gb, 0, none⟩) m c] rfl rfl 30 #[.int .i64 0, .string ⟨#[]⟩, .int .i64 0, .int .i64 0, .slice none 0 0] H5.out.box infoSizeGn rfl (by simp [Value.oneCell']) ?_)
      obtain ⟨hb, hO, hP⟩ := H5.out.fin ⟨4, ⟨#[]⟩, 0, 0⟩ (some ⟨gb, 0, none⟩) m c xs HO5.out HL.out
      unfold gcl at hb hO hP
      try simp only [Exit.inBlock, Exit.then]
      exact bodyPost_ret (results_gn rfl _ w.heap.size rfl _ _ _ _ _ _ hb) rfl ⟨⟨4, ⟨#[]⟩, 0, 0⟩, (some ⟨gb, 0, none⟩), m, c, xs, rfl, (show (0 : Nat) ≤ 60 by omega), hm1, (fun h => nomatch h), hO, hP⟩
    | true =>
      obtain ⟨k, hk⟩ : ∃ k : Nat, m = k + 1 := ⟨m - 1, by omega⟩
      subst hk
      have hk1 : ((k + 1 : Nat) : Int) - 1 = (k : Int) := by omega
      have hk2 : (k : Int) ≤ (c : Int) := by omega
      have HC : Hid (DG w g a n cap bs (w5.setCell ⟨w3.heap.size, 0, none⟩ (.slice (some ⟨gb, 0, none⟩) k c))) := by
        have ht := Touch.setCell (p := ⟨w3.heap.size, 0, none⟩) (Touch.same w3.heap.size (w3.heap.size + 1) w5) (Nat.le_refl _) (Nat.lt_succ_self _) (.slice (some ⟨gb, 0, none⟩) k c)
        have hsz := H3.out.size
        have hp := H5.out.post.grown ht (by have := H5.out.lt; omega) (by omega)
        exact ⟨hp.1, hp.2, H5.out.lt, Nat.lt_of_lt_of_le H5.out.size ht.size, (ht.block _ H5.out.size (.inl hsz)).trans H5.out.box⟩
      have HOC : Hid (OwnPt w2.heap.size (w5.setCell ⟨w3.heap.size, 0, none⟩ (.slice (some ⟨gb, 0, none⟩) k c)) (some ⟨gb, 0, none⟩) k c (xs.take k)) := (HO5.out.cut k (by omega)).keep fun q hq _ hl => by
        cases hq
        exact Below.heap_setCell _ _ _ _ (by have := HGB.out; show gb ≠ w3.heap.size; omega)
      have kC : (w5.setCell ⟨w3.heap.size, 0, none⟩ (.slice (some ⟨gb, 0, none⟩) k c)).cell? ⟨w3.heap.size, 0, none⟩ = some (.slice (some ⟨gb, 0, none⟩) k c) := (cell_of_row _ _ 0 _ 28 (0, 0) (heap_setCell_same w5 w3.heap.size 0 _ 28 (.slice (some ⟨gb, 0, none⟩) k c) HX5.out)).trans rfl
      go_wp2_with (refine wpList_store_rowTo rfl 30 _ _ rfl rfl (w.heap.size) #[.int .i64 4, .string ⟨#[]⟩, .int .i64 0, .int .i64 0, .slice (some ⟨gb, 0, none⟩) k c] rfl rfl 30 #[.int .i64 0, .string ⟨#[]⟩, .int .i64 0, .int .i64 0, .slice none 0 0] HC.out.box infoSizeGn rfl (by simp [Value.oneCell']) ?_)
      obtain ⟨hb, hO, hP⟩ := HC.out.fin ⟨4, ⟨#[]⟩, 0, 0⟩ (some ⟨gb, 0, none⟩) k c (xs.take k) HOC.out HL.out
      unfold gcl at hb hO hP
      try simp only [Exit.inBlock, Exit.then]
      exact bodyPost_ret (results_gn rfl _ w.heap.size rfl _ _ _ _ _ _ hb) rfl ⟨⟨4, ⟨#[]⟩, 0, 0⟩, (some ⟨gb, 0, none⟩), k, c, (xs.take k), rfl, (show (0 : Nat) ≤ 60 by omega), by omega, (fun h => nomatch h), hO, hP⟩
  · have e2 : (v == 2) = false := beq_false_of_ne h2
    go_wp2_with fail
    refine (drawHost_any g a n cap bs false _ H2.out.rd).mono ?_
    rintro e w3 ⟨t, rfl, ht0, ht1, hp3⟩
    have H3 : Hid (DG w g a n cap bs w3) := H2.out.rdp hp3
    clear hp3 H2
    go_wp2_with (refine wpList_store_rowTo rfl 30 _ _ rfl rfl (w.heap.size) #[.int .i64 1, .string t, .int .i64 0, .int .i64 0, .slice none 0 0] rfl rfl 30 #[.int .i64 0, .string ⟨#[]⟩, .int .i64 0, .int .i64 0, .slice none 0 0] H3.out.box infoSizeGn rfl (by simp [Value.oneCell']) ?_)
    obtain ⟨hb, hO, hP⟩ := H3.out.fin ⟨1, t, 0, 0⟩ none 0 0 [] (ownPt_none (w.heap.size + 1) _) (Nat.lt_succ_self _)
    unfold gcl at hb hO hP
    try simp only [Exit.inBlock, Exit.then]
    exact bodyPost_ret (results_gn rfl _ w.heap.size rfl _ _ _ _ _ _ hb) rfl ⟨⟨1, t, 0, 0⟩, none, 0, 0, [], rfl, by show t.size ≤ 60; omega, by omega, (fun h => nomatch h), hO, hP⟩

end Go.Proofs.YtoncodoimnideaaGreatDoor

namespace Go.Proofs.YtoncodoimnideaaGreatDoor
open Go.RowKit

/-- A general name as it is bent: its box, its result's box, its parts, the reader. -/
structure BG (w : World) (g B E : Nat) (a : Option Addr) (n cap : Nat) (bs : List Int) (W : World) (k : Int) (t : ByteArray) (ad bi : Int) (ao : Option Addr) (m c : Nat) (xs : List PT) : Prop where
  gB : g < B
  BE : B ≤ E
  Ew : E ≤ w.heap.size
  rd : Rd W g a n cap bs
  own : OwnPt B W ao m c xs
  nt : ∀ q, ao = some q → q.block < E ∨ w.heap.size + 2 ≤ q.block
  box : W.heap[w.heap.size]? = some (.cells #[.int .i64 k, .string t, .int .i64 ad, .int .i64 bi, .slice ao m c] 30 (0, 0))
  res : W.heap[w.heap.size + 1]? = some (.cells #[.int .i64 0, .string ⟨#[]⟩, .int .i64 0, .int .i64 0, .slice none 0 0] 30 (0, 0))
  size : w.heap.size + 2 ≤ W.heap.size
  bent : Bent g B E w W
theorem BG.move {w : World} {g B E : Nat} {a : Option Addr} {n cap : Nat} {bs : List Int} {W : World} {k : Int} {t : ByteArray} {ad bi : Int} {ao : Option Addr} {m c : Nat} {xs : List PT} (h : BG w g B E a n cap bs W k t ad bi ao m c xs) {W' : World} (r : Rd W' g a n cap bs) (e1 : W'.os = W.os) (e2 : W'.tape = W.tape) (e3 : W'.output = W.output) (e4 : W.heap.size ≤ W'.heap.size) (e5 : ∀ l, l < W.heap.size → l ≠ g → W'.heap[l]? = W.heap[l]?) : BG w g B E a n cap bs W' k t ad bi ao m c xs := by
  have h1 := h.gB
  have h2 := h.BE
  have h3 := h.Ew
  have h4 := h.size
  exact ⟨h1, h2, h3, r, h.own.keep fun q _ hb hl => e5 _ hl (by omega), h.nt, (e5 _ (by omega) (by omega)).trans h.box, (e5 _ (by omega) (by omega)).trans h.res, by omega, e1.trans h.bent.os, e2.trans h.bent.tape, e3.trans h.bent.output, by omega, fun l hl hg ho => (e5 l (by omega) hg).trans (h.bent.block l hl hg ho)⟩
theorem BG.rdp {w : World} {g B E : Nat} {a : Option Addr} {n cap : Nat} {bs : List Int} {W : World} {k : Int} {t : ByteArray} {ad bi : Int} {ao : Option Addr} {m c : Nat} {xs : List PT} (h : BG w g B E a n cap bs W k t ad bi ao m c xs) {W' : World} (hp : RdPost W g a n cap bs W') : BG w g B E a n cap bs W' k t ad bi ao m c xs :=
  h.move hp.1 hp.2.os hp.2.tape hp.2.output hp.2.size fun l hl hg => hp.2.block l hl (by omega)
theorem BG.below {w : World} {g B E : Nat} {a : Option Addr} {n cap : Nat} {bs : List Int} {W : World} {k : Int} {t : ByteArray} {ad bi : Int} {ao : Option Addr} {m c : Nat} {xs : List PT} (h : BG w g B E a n cap bs W k t ad bi ao m c xs) {W' : World} (hb : Below W.heap.size W W') : BG w g B E a n cap bs W' k t ad bi ao m c xs :=
  h.move (h.rd.kept hb) hb.os hb.tape hb.output hb.size fun l hl _ => hb.block l hl
theorem BG.cells {w : World} {g B E : Nat} {a : Option Addr} {n cap : Nat} {bs : List Int} {W : World} {k : Int} {t : ByteArray} {ad bi : Int} {ao : Option Addr} {m c : Nat} {xs : List PT} (h : BG w g B E a n cap bs W k t ad bi ao m c xs) :
    (W.cell? ⟨w.heap.size, 0, none⟩ = some (.int .i64 k) ∧ W.cell? ⟨w.heap.size, 1, none⟩ = some (.string t) ∧ W.cell? ⟨w.heap.size, 2, none⟩ = some (.int .i64 ad) ∧ W.cell? ⟨w.heap.size, 3, none⟩ = some (.int .i64 bi) ∧ W.cell? ⟨w.heap.size, 4, none⟩ = some (.slice ao m c)) ∧
    (W.frozen? ⟨w.heap.size, 0, none⟩ = false ∧ W.frozen? ⟨w.heap.size, 1, none⟩ = false ∧ W.frozen? ⟨w.heap.size, 2, none⟩ = false ∧ W.frozen? ⟨w.heap.size, 3, none⟩ = false ∧ W.frozen? ⟨w.heap.size, 4, none⟩ = false) ∧ w.heap.size < W.heap.size := by
  have hb := h.box
  exact ⟨⟨(cell_of_row _ _ 0 _ 30 (0, 0) hb).trans rfl, (cell_of_row _ _ 1 _ 30 (0, 0) hb).trans rfl, (cell_of_row _ _ 2 _ 30 (0, 0) hb).trans rfl, (cell_of_row _ _ 3 _ 30 (0, 0) hb).trans rfl, (cell_of_row _ _ 4 _ 30 (0, 0) hb).trans rfl⟩, ⟨frozen_of_row W _ 0 _ 30 hb, frozen_of_row W _ 1 _ 30 hb, frozen_of_row W _ 2 _ 30 hb, frozen_of_row W _ 3 _ 30 hb, frozen_of_row W _ 4 _ 30 hb⟩, by have := h.size; omega⟩
/-- A cell of the box gets another value. -/
theorem BG.put {w : World} {g B E : Nat} {a : Option Addr} {n cap : Nat} {bs : List Int} {W : World} {k : Int} {t : ByteArray} {ad bi : Int} {ao : Option Addr} {m c : Nat} {xs : List PT} (h : BG w g B E a n cap bs W k t ad bi ao m c xs) (i : Nat) (u : Value) {k' : Int} {t' : ByteArray} {ad' bi' : Int} (hb : (W.setCell ⟨w.heap.size, i, none⟩ u).heap[w.heap.size]? = some (.cells #[.int .i64 k', .string t', .int .i64 ad', .int .i64 bi', .slice ao m c] 30 (0, 0))) : BG w g B E a n cap bs (W.setCell ⟨w.heap.size, i, none⟩ u) k' t' ad' bi' ao m c xs := by
  have h1 := h.gB
  have h2 := h.BE
  have h3 := h.Ew
  have h4 := h.size
  have e : ∀ l, l ≠ w.heap.size → (W.setCell ⟨w.heap.size, i, none⟩ u).heap[l]? = W.heap[l]? := fun l hl => Below.heap_setCell _ _ _ _ (by show l ≠ w.heap.size; exact hl)
  have hs : (W.setCell ⟨w.heap.size, i, none⟩ u).heap.size = W.heap.size := by simp [World.setCell]
  exact ⟨h1, h2, h3, h.rd.touch (touch_set' (p := w.heap.size) (q := w.heap.size + 1) _ _ _ _ (Nat.le_refl _) (Nat.lt_succ_self _)) (by omega), h.own.keep fun q hq _ _ => e _ (by have := h.nt q hq; omega), h.nt, hb, (e _ (by omega)).trans h.res, by omega, h.bent.os, h.bent.tape, h.bent.output, by rw [hs]; exact h.bent.size, fun l hl hg ho => (e l (by omega)).trans (h.bent.block l hl hg ho)⟩
/-- Its name is bent. -/
theorem BG.name {w : World} {g B E : Nat} {a : Option Addr} {n cap : Nat} {bs : List Int} {W : World} {k : Int} {t : ByteArray} {ad bi : Int} {ao : Option Addr} {m c : Nat} {xs : List PT} (h : BG w g B E a n cap bs W k t ad bi ao m c xs) {W' : World} {m2 c2 : Nat} {a2 : Option Addr} {ys : List PT} (ho : OwnPt B W' a2 m2 c2 ys) (hn : ∀ q, a2 = some q → q.block < E ∨ W.heap.size ≤ q.block) (hr : Rd W' g a n cap bs) (hb : Bent g B E W W') : BG w g B E a n cap bs (W'.setCell ⟨w.heap.size, 4, none⟩ (.slice a2 m2 c2)) k t ad bi a2 m2 c2 ys ∧ W'.heap[w.heap.size]? = some (.cells #[.int .i64 k, .string t, .int .i64 ad, .int .i64 bi, .slice ao m c] 30 (0, 0)) := by
  have h1 := h.gB
  have h2 := h.BE
  have h3 := h.Ew
  have h4 := h.size
  have h5 := hb.size
  have e : ∀ l, l ≠ w.heap.size → (W'.setCell ⟨w.heap.size, 4, none⟩ (.slice a2 m2 c2)).heap[l]? = W'.heap[l]? := fun l hl => Below.heap_setCell _ _ _ _ (by show l ≠ w.heap.size; exact hl)
  have hs : (W'.setCell ⟨w.heap.size, 4, none⟩ (.slice a2 m2 c2)).heap.size = W'.heap.size := by simp [World.setCell]
  have hbx : W'.heap[w.heap.size]? = some (.cells #[.int .i64 k, .string t, .int .i64 ad, .int .i64 bi, .slice ao m c] 30 (0, 0)) := (hb.block _ (by omega) (by omega) (by omega)).trans h.box
  have hrs : W'.heap[w.heap.size + 1]? = some (.cells #[.int .i64 0, .string ⟨#[]⟩, .int .i64 0, .int .i64 0, .slice none 0 0] 30 (0, 0)) := (hb.block _ (by omega) (by omega) (by omega)).trans h.res
  refine ⟨⟨h1, h2, h3, hr.touch (touch_set' (p := w.heap.size) (q := w.heap.size + 1) _ _ _ _ (Nat.le_refl _) (Nat.lt_succ_self _)) (by omega), ho.keep fun q hq _ _ => e _ (by have := hn q hq; omega), fun q hq => by have := hn q hq; omega, heap_setCell_same W' w.heap.size 4 _ 30 (.slice a2 m2 c2) hbx, (e _ (by omega)).trans hrs, by omega, hb.os.trans h.bent.os, hb.tape.trans h.bent.tape, hb.output.trans h.bent.output, by rw [hs]; have := h.bent.size; omega, fun l hl hg hh => (e l (by omega)).trans ((hb.block l (by omega) hg hh).trans (h.bent.block l hl hg hh))⟩, hbx⟩
/-- A bent general name. -/
def BgR (w : World) (g B E : Nat) (a : Option Addr) (n cap : Nat) (bs : List Int) (e : Ending) (w' : World) : Prop :=
  ∃ (x : GT) (ao : Option Addr) (m c : Nat) (xs : List PT), e = .returned (gnv x ao m c) ∧ x.text.size ≤ 100 ∧ m ≤ 9 ∧ OwnPt B w' ao m c xs ∧ (∀ q, ao = some q → q.block < E ∨ w.heap.size ≤ q.block) ∧ Rd w' g a n cap bs ∧ Bent g B E w w'
theorem BG.fin {w : World} {g B E : Nat} {a : Option Addr} {n cap : Nat} {bs : List Int} {W : World} {k : Int} {t : ByteArray} {ad bi : Int} {ao : Option Addr} {m c : Nat} {xs : List PT} (h : BG w g B E a n cap bs W k t ad bi ao m c xs) (ht : t.size ≤ 100) (hm : m ≤ 9) : (W.setRow (w.heap.size + 1) #[.int .i64 k, .string t, .int .i64 ad, .int .i64 bi, .slice ao m c]).heap[w.heap.size + 1]? = some (.cells #[.int .i64 k, .string t, .int .i64 ad, .int .i64 bi, .slice ao m c] 30 (0, 0)) ∧ BgR w g B E a n cap bs (.returned (.agg #[.int .i64 k, .string t, .int .i64 ad, .int .i64 bi, .slice ao m c])) (W.setRow (w.heap.size + 1) #[.int .i64 k, .string t, .int .i64 ad, .int .i64 bi, .slice ao m c]) := by
  have h1 := h.gB
  have h2 := h.BE
  have h3 := h.Ew
  have h4 := h.size
  have e : ∀ l, l ≠ w.heap.size + 1 → (W.setRow (w.heap.size + 1) #[.int .i64 k, .string t, .int .i64 ad, .int .i64 bi, .slice ao m c]).heap[l]? = W.heap[l]? := fun l hl => setRow_other _ _ _ _ hl
  have hs : (W.setRow (w.heap.size + 1) #[.int .i64 k, .string t, .int .i64 ad, .int .i64 bi, .slice ao m c]).heap.size = W.heap.size := by simp
  refine ⟨setRow_heap _ _ _ _ _ _ h.res, ⟨k, t, ad, bi⟩, ao, m, c, xs, rfl, ht, hm, h.own.keep fun q hq _ _ => e _ (by have := h.nt q hq; omega), fun q hq => by have := h.nt q hq; omega, h.rd.touch (setRow_touchG _ _ _) (by omega), h.bent.os, h.bent.tape, h.bent.output, by rw [hs]; exact h.bent.size, fun l hl hg ho => (e l (by omega)).trans (h.bent.block l hl hg ho)⟩

def bgA : Array Value := #[.int .i64 (-1), .int .i64 1, .int .i64 4294967295, .int .i64 4294967296]
theorem bgA_get (v : Nat) (h : v < 4) : ∃ x : Int, bgA[v]? = some (.int .i64 x) := by
  match v, h with
  | 0, _ | 1, _ | 2, _ | 3, _ => exact ⟨_, rfl⟩

def bgB : Array Value := #[.int .i64 (-1), .int .i64 1, .int .i64 32, .int .i64 33]
theorem bgB_get (v : Nat) (h : v < 4) : ∃ x : Int, bgB[v]? = some (.int .i64 x) := by
  match v, h with
  | 0, _ | 1, _ | 2, _ | 3, _ => exact ⟨_, rfl⟩

set_option maxRecDepth 10000 in
set_option maxHeartbeats 4000000 in
theorem bendGen_any (g B E : Nat) (a : Option Addr) (n cap : Nat) (bs : List Int) (k : Int) (t : ByteArray) (ad bi : Int) (ao : Option Addr) (m c : Nat) (xs : List PT) (w : World) (h : Rd w g a n cap bs) (ho : OwnPt B w ao m c xs) (hE : ∀ q, ao = some q → q.block < E) (hm : m ≤ 3) (ht : t.size ≤ 60) (hgB : g < B) (hBE : B ≤ E) (hEw : E ≤ w.heap.size) :
    Calls Tryz.prog 27 #[.pointer (some ⟨g, 0, none⟩), .agg #[.int .i64 k, .string t, .int .i64 ad, .int .i64 bi, .slice ao m c]] w (BgR w g B E a n cap bs) := by
  obtain ⟨wb, hwb⟩ : ∃ wb, wb = (w.alloc (.cells #[.int .i64 k, .string t, .int .i64 ad, .int .i64 bi, .slice ao m c] 30)).alloc (.cells #[.int .i64 0, .string ⟨#[]⟩, .int .i64 0, .int .i64 0, .slice none 0 0] 30) := ⟨_, rfl⟩
  have H1 : Hid (BG w g B E a n cap bs wb k t ad bi ao m c xs) := by
    have hb1 : Below w.heap.size w (w.alloc (.cells #[.int .i64 k, .string t, .int .i64 ad, .int .i64 bi, .slice ao m c] 30)) := (Below.refl _ _).alloc (Nat.le_refl _) _
    have hbb : Below w.heap.size w wb := by rw [hwb]; exact hb1.alloc (by simp) _
    have hss : wb.heap.size = w.heap.size + 2 := by rw [hwb]; simp
    refine ⟨hgB, hBE, hEw, h.kept hbb, ho.keep fun q hq _ hl => hbb.block _ hl, fun q hq => .inl (hE q hq), ?_, ?_, Nat.le_of_eq hss.symm, hbb.os, hbb.tape, hbb.output, hbb.size, fun l hl _ _ => hbb.block l hl⟩
    · rw [hwb]; exact (((Below.refl _ _).alloc (Nat.le_refl _) _).block w.heap.size (by simp)).trans (heap_alloc_new w _)
    · rw [hwb]; have := heap_alloc_new (w.alloc (.cells #[.int .i64 k, .string t, .int .i64 ad, .int .i64 bi, .slice ao m c] 30)) (.cells #[.int .i64 0, .string ⟨#[]⟩, .int .i64 0, .int .i64 0, .slice none 0 0] 30 (0, 0)); simpa using this
  have HWB : Hid (_ = _) := hwb
  have HOE : Hid (∀ q, ao = some q → q.block < E) := hE
  clear hwb h ho hE
  go_enter Tryz.func27, Tryz.ntmps27
  go_upto_region 1 with fail
  rw [← HWB.out]
  clear HWB
  go_wp2_with fail
  refine (once_any g a n cap bs 6 _ H1.out.rd (by decide) (by decide)).mono ?_
  rintro e w1 ⟨b, rfl, hp⟩
  have H2 : Hid (BG w g B E a n cap bs w1 k t ad bi ao m c xs) := H1.out.rdp hp
  clear hp H1
  rcases b with _ | _
  · go_wp2_with (first | (refine wpList_load_row rfl 30 _ rfl w.heap.size rfl 30 #[.int .i64 k, .string t, .int .i64 ad, .int .i64 bi, .slice ao m c] (0, 0) _ H2.out.box Tryz.underlying30 rfl infoSizeGn ?_) | (refine wpList_store_rowTo rfl 30 _ _ rfl rfl (w.heap.size + 1) #[.int .i64 k, .string t, .int .i64 ad, .int .i64 bi, .slice ao m c] rfl rfl 30 #[.int .i64 0, .string ⟨#[]⟩, .int .i64 0, .int .i64 0, .slice none 0 0] H2.out.res infoSizeGn rfl (by simp [Value.oneCell']) ?_))
    try simp only [Exit.inBlock, Exit.then]
    obtain ⟨hb, hR⟩ := H2.out.fin (by omega) (by omega)
    exact bodyPost_ret (results_gn rfl _ (w.heap.size + 1) rfl _ _ _ _ _ _ hb) rfl hR
  · go_wp2_with fail
    refine (below_any g a n cap bs 5 _ H2.out.rd (by decide)).mono ?_
    rintro e w2 ⟨v, rfl, hv0, hv1, hp⟩
    have H3 : Hid (BG w g B E a n cap bs w2 k t ad bi ao m c xs) := H2.out.rdp hp
    clear hp H2
    by_cases q0 : v = 0
    · subst q0
      go_wp2_with fail
      refine (below_any g a n cap bs 6 _ H3.out.rd (by decide)).mono ?_
      rintro e w3 ⟨y, rfl, hy0, hy1, hp⟩
      have H4 : Hid (BG w g B E a n cap bs w3 k t ad bi ao m c xs) := H3.out.rdp hp
      clear hp H3
      obtain ⟨⟨c0, c1, c2, c3, c4⟩, ⟨f0, f1, f2, f3, f4⟩, l0⟩ := H4.out.cells
      have H5 : Hid (BG w g B E a n cap bs (w3.setCell ⟨w.heap.size, 0, none⟩ (.int .i64 y)) y t ad bi ao m c xs) := H4.out.put 0 (.int .i64 y) (heap_setCell_same w3 w.heap.size 0 _ 30 (.int .i64 y) H4.out.box)
      go_wp2_with (first | (refine wpList_load_row rfl 30 _ rfl w.heap.size rfl 30 #[.int .i64 y, .string t, .int .i64 ad, .int .i64 bi, .slice ao m c] (0, 0) _ H5.out.box Tryz.underlying30 rfl infoSizeGn ?_) | (refine wpList_store_rowTo rfl 30 _ _ rfl rfl (w.heap.size + 1) #[.int .i64 y, .string t, .int .i64 ad, .int .i64 bi, .slice ao m c] rfl rfl 30 #[.int .i64 0, .string ⟨#[]⟩, .int .i64 0, .int .i64 0, .slice none 0 0] H5.out.res infoSizeGn rfl (by simp [Value.oneCell']) ?_))
      try simp only [Exit.inBlock, Exit.then]
      obtain ⟨hb, hR⟩ := H5.out.fin (by omega) (by omega)
      exact bodyPost_ret (results_gn rfl _ (w.heap.size + 1) rfl _ _ _ _ _ _ hb) rfl hR
    have e0 : (v == 0) = false := beq_false_of_ne q0
    by_cases q1 : v = 1
    · subst q1
      obtain ⟨⟨c0, c1, c2, c3, c4⟩, ⟨f0, f1, f2, f3, f4⟩, l0⟩ := H3.out.cells
      go_wp2_with fail
      refine (bendText_any g a n cap bs t _ H3.out.rd (by omega)).mono ?_
      rintro e w3 ⟨t2, rfl, ht2, hp⟩
      have H4 : Hid (BG w g B E a n cap bs w3 k t ad bi ao m c xs) := H3.out.rdp hp
      clear hp H3 c0 c1 c2 c3 c4 f0 f1 f2 f3 f4 l0
      obtain ⟨⟨c0, c1, c2, c3, c4⟩, ⟨f0, f1, f2, f3, f4⟩, l0⟩ := H4.out.cells
      have H5 : Hid (BG w g B E a n cap bs (w3.setCell ⟨w.heap.size, 1, none⟩ (.string t2)) k t2 ad bi ao m c xs) := H4.out.put 1 (.string t2) (heap_setCell_same w3 w.heap.size 1 _ 30 (.string t2) H4.out.box)
      go_wp2_with (first | (refine wpList_load_row rfl 30 _ rfl w.heap.size rfl 30 #[.int .i64 k, .string t2, .int .i64 ad, .int .i64 bi, .slice ao m c] (0, 0) _ H5.out.box Tryz.underlying30 rfl infoSizeGn ?_) | (refine wpList_store_rowTo rfl 30 _ _ rfl rfl (w.heap.size + 1) #[.int .i64 k, .string t2, .int .i64 ad, .int .i64 bi, .slice ao m c] rfl rfl 30 #[.int .i64 0, .string ⟨#[]⟩, .int .i64 0, .int .i64 0, .slice none 0 0] H5.out.res infoSizeGn rfl (by simp [Value.oneCell']) ?_))
      try simp only [Exit.inBlock, Exit.then]
      obtain ⟨hb, hR⟩ := H5.out.fin (by omega) (by omega)
      exact bodyPost_ret (results_gn rfl _ (w.heap.size + 1) rfl _ _ _ _ _ _ hb) rfl hR
    have e1 : (v == 1) = false := beq_false_of_ne q1
    by_cases q2 : v = 2
    · subst q2
      obtain ⟨wt, hwt⟩ : ∃ wt, wt = w2.alloc (.cells bgA 2) := ⟨_, rfl⟩
      have hbt : Below w2.heap.size w2 wt := by rw [hwt]; exact (Below.refl _ _).alloc (Nat.le_refl _) _
      have xt : wt.heap[w2.heap.size]? = some (.cells bgA 2) := by rw [hwt]; exact heap_alloc_new w2 _
      have st : w2.heap.size < wt.heap.size := (Array.getElem?_eq_some_iff.1 xt).1
      have HT : Hid (BG w g B E a n cap bs wt k t ad bi ao m c xs) := H3.out.below hbt
      have HWT : Hid (_ = _) := hwt
      clear hwt
      go_wp2_with fail
      have et : w2.alloc (.cells #[.int .i64 (-1), .int .i64 1, .int .i64 4294967295, .int .i64 4294967296] 2) = wt := HWT.out.symm
      rw [et]
      clear HWT et
      refine (below_any g a n cap bs 4 _ HT.out.rd (by decide)).mono ?_
      rintro e w5 ⟨y, rfl, hy0, hy1, hp5⟩
      obtain ⟨u, rfl⟩ := Int.eq_ofNat_of_zero_le hy0
      have hu : u < 4 := by omega
      have hui : (u : Int) < 4 := by omega
      obtain ⟨z, hz⟩ := bgA_get u hu
      have h1 := H3.out.gB
      have h2 := H3.out.BE
      have h3 := H3.out.Ew
      have h4 := H3.out.size
      have js : w5.cell? ⟨w2.heap.size, u, none⟩ = some (.int .i64 z) := (cell_of_row _ _ u _ 2 (0, 0) ((hp5.2.block _ st (.inr (by omega))).trans xt)).trans hz
      have hs5 := hp5.2.size
      have hl5 : w2.heap.size < w5.heap.size := by omega
      have H5 : Hid (BG w g B E a n cap bs w5 k t ad bi ao m c xs) := HT.out.rdp hp5
      clear hp5 hy1 hy0 xt hbt HT hz
      obtain ⟨⟨c0, c1, c2, c3, c4⟩, ⟨f0, f1, f2, f3, f4⟩, l0⟩ := H5.out.cells
      have H6 : Hid (BG w g B E a n cap bs (w5.setCell ⟨w.heap.size, 2, none⟩ (.int .i64 z)) k t z bi ao m c xs) := H5.out.put 2 (.int .i64 z) (heap_setCell_same w5 w.heap.size 2 _ 30 (.int .i64 z) H5.out.box)
      go_wp2_with (first | (refine wpList_load_row rfl 30 _ rfl w.heap.size rfl 30 #[.int .i64 k, .string t, .int .i64 z, .int .i64 bi, .slice ao m c] (0, 0) _ H6.out.box Tryz.underlying30 rfl infoSizeGn ?_) | (refine wpList_store_rowTo rfl 30 _ _ rfl rfl (w.heap.size + 1) #[.int .i64 k, .string t, .int .i64 z, .int .i64 bi, .slice ao m c] rfl rfl 30 #[.int .i64 0, .string ⟨#[]⟩, .int .i64 0, .int .i64 0, .slice none 0 0] H6.out.res infoSizeGn rfl (by simp [Value.oneCell']) ?_))
      try simp only [Exit.inBlock, Exit.then]
      obtain ⟨hb, hR⟩ := H6.out.fin (by omega) (by omega)
      exact bodyPost_ret (results_gn rfl _ (w.heap.size + 1) rfl _ _ _ _ _ _ hb) rfl hR
    have e2 : (v == 2) = false := beq_false_of_ne q2
    by_cases q3 : v = 3
    · subst q3
      obtain ⟨wt, hwt⟩ : ∃ wt, wt = w2.alloc (.cells bgB 2) := ⟨_, rfl⟩
      have hbt : Below w2.heap.size w2 wt := by rw [hwt]; exact (Below.refl _ _).alloc (Nat.le_refl _) _
      have xt : wt.heap[w2.heap.size]? = some (.cells bgB 2) := by rw [hwt]; exact heap_alloc_new w2 _
      have st : w2.heap.size < wt.heap.size := (Array.getElem?_eq_some_iff.1 xt).1
      have HT : Hid (BG w g B E a n cap bs wt k t ad bi ao m c xs) := H3.out.below hbt
      have HWT : Hid (_ = _) := hwt
      clear hwt
      go_wp2_with fail
      have et : w2.alloc (.cells #[.int .i64 (-1), .int .i64 1, .int .i64 32, .int .i64 33] 2) = wt := HWT.out.symm
      rw [et]
      clear HWT et
      refine (below_any g a n cap bs 4 _ HT.out.rd (by decide)).mono ?_
      rintro e w5 ⟨y, rfl, hy0, hy1, hp5⟩
      obtain ⟨u, rfl⟩ := Int.eq_ofNat_of_zero_le hy0
      have hu : u < 4 := by omega
      have hui : (u : Int) < 4 := by omega
      obtain ⟨z, hz⟩ := bgB_get u hu
      have h1 := H3.out.gB
      have h2 := H3.out.BE
      have h3 := H3.out.Ew
      have h4 := H3.out.size
      have js : w5.cell? ⟨w2.heap.size, u, none⟩ = some (.int .i64 z) := (cell_of_row _ _ u _ 2 (0, 0) ((hp5.2.block _ st (.inr (by omega))).trans xt)).trans hz
      have hs5 := hp5.2.size
      have hl5 : w2.heap.size < w5.heap.size := by omega
      have H5 : Hid (BG w g B E a n cap bs w5 k t ad bi ao m c xs) := HT.out.rdp hp5
      clear hp5 hy1 hy0 xt hbt HT hz
      obtain ⟨⟨c0, c1, c2, c3, c4⟩, ⟨f0, f1, f2, f3, f4⟩, l0⟩ := H5.out.cells
      have H6 : Hid (BG w g B E a n cap bs (w5.setCell ⟨w.heap.size, 3, none⟩ (.int .i64 z)) k t ad z ao m c xs) := H5.out.put 3 (.int .i64 z) (heap_setCell_same w5 w.heap.size 3 _ 30 (.int .i64 z) H5.out.box)
      go_wp2_with (first | (refine wpList_load_row rfl 30 _ rfl w.heap.size rfl 30 #[.int .i64 k, .string t, .int .i64 ad, .int .i64 z, .slice ao m c] (0, 0) _ H6.out.box Tryz.underlying30 rfl infoSizeGn ?_) | (refine wpList_store_rowTo rfl 30 _ _ rfl rfl (w.heap.size + 1) #[.int .i64 k, .string t, .int .i64 ad, .int .i64 z, .slice ao m c] rfl rfl 30 #[.int .i64 0, .string ⟨#[]⟩, .int .i64 0, .int .i64 0, .slice none 0 0] H6.out.res infoSizeGn rfl (by simp [Value.oneCell']) ?_))
      try simp only [Exit.inBlock, Exit.then]
      obtain ⟨hb, hR⟩ := H6.out.fin (by omega) (by omega)
      exact bodyPost_ret (results_gn rfl _ (w.heap.size + 1) rfl _ _ _ _ _ _ hb) rfl hR
    have e3 : (v == 3) = false := beq_false_of_ne q3
    obtain ⟨⟨c0, c1, c2, c3, c4⟩, ⟨f0, f1, f2, f3, f4⟩, l0⟩ := H3.out.cells
    have hbnd := bend_any g B E a n cap bs ao m c xs w2 H3.out.rd H3.out.own HOE.out hm hgB hBE (by have := H3.out.Ew; have := H3.out.size; omega)
    unfold nmv at hbnd
    go_wp2_with fail
    refine hbnd.mono ?_
    rintro e w3 ⟨m2, cc, a2, ys, rfl, hm2, ho2, hn2, hr2, hb2⟩
    unfold nmv
    obtain ⟨h5, hbx⟩ := H3.out.name ho2 hn2 hr2 hb2
    have H5 : Hid (BG w g B E a n cap bs (w3.setCell ⟨w.heap.size, 4, none⟩ (.slice a2 m2 cc)) k t ad bi a2 m2 cc ys) := h5
    have hfz : w3.frozen? ⟨w.heap.size, 4, none⟩ = false := frozen_of_row w3 _ 4 _ 30 hbx
    have hc4 : w3.cell? ⟨w.heap.size, 4, none⟩ = some (.slice ao m c) := (cell_of_row _ _ 4 _ 30 (0, 0) hbx).trans rfl
    have hl4 : w.heap.size < w3.heap.size := (Array.getElem?_eq_some_iff.1 hbx).1
    clear h5 ho2 hn2 hr2 hb2 hbx hbnd H3 c0 c1 c2 c3 c4 f0 f1 f2 f3 f4 l0
    go_wp2_with (first | (refine wpList_load_row rfl 30 _ rfl w.heap.size rfl 30 #[.int .i64 k, .string t, .int .i64 ad, .int .i64 bi, .slice a2 m2 cc] (0, 0) _ H5.out.box Tryz.underlying30 rfl infoSizeGn ?_) | (refine wpList_store_rowTo rfl 30 _ _ rfl rfl (w.heap.size + 1) #[.int .i64 k, .string t, .int .i64 ad, .int .i64 bi, .slice a2 m2 cc] rfl rfl 30 #[.int .i64 0, .string ⟨#[]⟩, .int .i64 0, .int .i64 0, .slice none 0 0] H5.out.res infoSizeGn rfl (by simp [Value.oneCell']) ?_))
    try simp only [Exit.inBlock, Exit.then]
    obtain ⟨hb, hR⟩ := H5.out.fin (by omega) (by omega)
    exact bodyPost_ret (results_gn rfl _ (w.heap.size + 1) rfl _ _ _ _ _ _ hb) rfl hR

end Go.Proofs.YtoncodoimnideaaGreatDoor

