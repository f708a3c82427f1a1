import Derived.Test.YtmggaegjfkpjoaaTV5
import Derived.Test.YtmggaegjfkpjoaaTTD
namespace Go.Proofs.Ytmggaegjfkpjoaa
open Go.RowKit

theorem OwnU.mono {B B' : Nat} {w : World} {a : Option Addr} {n cap : Nat} {zs : List Int} (h : OwnU B w a n cap zs) (hB : B' ≤ B) : OwnU B' w a n cap zs :=
  ⟨⟨h.row.1, by rcases h.row.2 with h | ⟨g, cap, cur, hv, hb, r⟩; exact .inl h; exact .inr ⟨g, cap, cur, hv, by omega, r⟩⟩, h.rng⟩
theorem OwnU.set {B : Nat} {w : World} {a : Option Addr} {n cap : Nat} {zs : List Int} (h : OwnU B w a n cap zs) {g : Nat} (hg : g < B) (i : Nat) (v : Value) : OwnU B (w.setCell ⟨g, i, none⟩ v) a n cap zs := by
  refine ⟨⟨h.row.1, ?_⟩, h.rng⟩
  rcases h.row.2 with h | ⟨g', cap', cur, hv, hb, hh, r⟩
  · exact .inl h
  · exact .inr ⟨g', cap', cur, hv, hb, (Below.heap_setCell _ _ _ _ (by simp; omega)).trans hh, r⟩
theorem below_dnT {B : Nat} {w w' : World} (h : Below B w w') (n : Nat) : Below B w (w'.drewN n) := below_dn h n

set_option maxRecDepth 10000 in
set_option maxHeartbeats 400000 in
theorem toUint64S_any (a : Option Addr) (n cap : Nat) (zs : List Int) (w : World) (h : RowU w a n zs) (hn : n ≤ 1048576) :
    Calls Try.prog 52 #[.slice a n cap] w fun e w' => ∃ a', e = .returned (.slice a' n n) ∧ OwnU w.heap.size w' a' n n zs ∧ Below w.heap.size w w' := by
  obtain ⟨i0, hi, hz0, hz1, hz2⟩ := info_parts Try.infoU
  have HL : Hid (zs.length = n) := h.len
  have HRG : Hid (_) := h.rng
  go_enter Try.func52, Try.ntmps52
  go_wp2_with (first | (at_make; refine wpList_make_full _ rfl _ _ 26 rfl w.heap.size 22 i0 (.int .u64 0) 1 Try.underlying26 hi hz0 hz1 _ _ _ _ n rfl rfl rfl rfl (by rw [hz2]; omega) (by unfold maxLen; omega) (by exact Nat.le_refl _) ?_; intro w1 hown hgrow))
  have ho := madeU hown
  have hbl : Below w.heap.size w w1 := (Below.refl _ _).grown hgrow (Nat.le_refl _) (by simp)
  clear hown hgrow hi hz0 hz1 hz2
  have H0 : Hid (RowU w a n zs) := h
  clear h
  go_loopw [4] (fun i wr => ∃ k : Nat, k ≤ n ∧ i = .int .i64 k ∧ wr.ownsRow w.heap.size 22 1 (.slice (some ⟨w.heap.size, 0, none⟩) n n) n ((half zs k).map (Value.int .u64)) ∧ Below w.heap.size w wr) (fun i _ => n - (intOf i).toNat)
  case atStart => exact ⟨0, Nat.zero_le _, rfl, by rw [half_zero, HL.out]; exact ho, hbl⟩
  case round =>
    obtain ⟨k, hk, rfl, hor, hbr⟩ := hrel
    by_cases hlt : k < n
    · obtain ⟨b, off, rfl, hb, hc⟩ := H0.out.get k hlt
      have hcr : wr.cell? ⟨b, off + k, none⟩ = some (.int .u64 (zs.getD k 0)) := (hbr.cell (p := ⟨b, off + k, none⟩) hb).trans hc
      have hfr : wr.frozen? ⟨w.heap.size, k, none⟩ = false := hor.frozenAt k
      obtain ⟨y, hy⟩ : ∃ y, wr.cell? ⟨w.heap.size, k, none⟩ = some y := ⟨_, (hor.cellAt k (by omega)).trans (List.getElem?_eq_getElem (by simp [half_len zs k (by have := HL.out; omega), HL.out]; exact hlt))⟩
      have hs := (hor.stored k (.int .u64 (zs.getD k 0))).1
      rw [← List.map_set, half_set zs k (by have := HL.out; omega)] at hs
      have hb2 : Below w.heap.size w (wr.setCell ⟨w.heap.size, k, none⟩ (.int .u64 (zs.getD k 0))) := hbr.setCell (Nat.le_refl _) _
      clear hc hor hbr
      go_wp2
      go_roundw
      case rel => exact ⟨k + 1, by omega, by go_num, hs, hb2⟩
      case measure => simp [intOf]; omega
    · have hkn : k = n := by omega
      subst hkn
      rw [← HL.out, half_all] at hor
      have HF : Hid (OwnU w.heap.size wr (some ⟨w.heap.size, 0, none⟩) k k zs) := ⟨by rw [HL.out] at hor; exact hor, HRG.out⟩
      clear hor
      go_wp2
      go_ret
      exact ⟨_, rfl, HF.out, hbr⟩

set_option maxRecDepth 10000 in
set_option maxHeartbeats 400000 in
theorem eqUint64S_same (a b : Option Addr) (n ca cb : Nat) (zs : List Int) (w : World) (hx : RowU w a n zs) (hy : RowU w b n zs) (hn : n ≤ 9223372036854775807) :
    Calls Try.prog 45 #[.slice a n ca, .slice b n cb] w fun e w' => e = .returned (.bool true) ∧ Below w.heap.size w w' := by
  have HX : Hid (RowU w a n zs) := hx
  have HY : Hid (RowU w b n zs) := hy
  clear hx hy
  go_enter Try.func45, Try.ntmps45
  go_wp2
  go_loopw [5] (fun i wr => ∃ k : Nat, k ≤ n ∧ i = .int .i64 k ∧ Below w.heap.size w wr) (fun i _ => n - (intOf i).toNat)
  case atStart => exact ⟨0, Nat.zero_le _, rfl, Below.refl _ _⟩
  case round =>
    obtain ⟨k, hk, rfl, hbr⟩ := hrel
    by_cases hlt : k < n
    · obtain ⟨b1, off1, rfl, hb1, hc1⟩ := HX.out.get k hlt
      obtain ⟨b2, off2, rfl, hb2, hc2⟩ := HY.out.get k hlt
      have hr1 : wr.cell? ⟨b1, off1 + k, none⟩ = some (.int .u64 (zs.getD k 0)) := (hbr.cell (p := ⟨b1, off1 + k, none⟩) hb1).trans hc1
      have hr2 : wr.cell? ⟨b2, off2 + k, none⟩ = some (.int .u64 (zs.getD k 0)) := (hbr.cell (p := ⟨b2, off2 + k, none⟩) hb2).trans hc2
      clear hc1 hc2
      obtain ⟨z, hz⟩ : ∃ z, z = zs.getD k 0 := ⟨_, rfl⟩
      rw [← hz] at hr1 hr2
      clear hz
      go_wp2
      go_quiet (fail)
      go_wp2
      go_roundw
      case rel => exact ⟨k + 1, by omega, by go_num, below_dnT hbr nq⟩
      case measure => simp [intOf]; omega
    · go_wp2
      go_ret
      exact ⟨rfl, hbr⟩

set_option maxRecDepth 10000 in
set_option maxHeartbeats 400000 in
theorem szUint64S_any (a : Option Addr) (n c : Nat) (l : Int) (w : World) (hl : 0 ≤ l) (hl2 : l ≤ 1048576) (hn : n ≤ 9223372036854775807) :
    Calls Try.prog 48 #[.slice a n c, .int .i64 l] w fun e w' => e = .returned (.int .i64 (if (n : Int) ≤ l then l - n else -1)) ∧ w' = w := by
  by_cases h : (n : Int) ≤ l
  · rw [if_pos h]
    go_enter Try.func48, Try.ntmps48
    go_wp2
    go_ret
    exact ⟨rfl, rfl⟩
  · rw [if_neg h]
    go_enter Try.func48, Try.ntmps48
    go_wp2
    go_ret
    exact ⟨rfl, rfl⟩

set_option maxRecDepth 10000 in
set_option maxHeartbeats 1000000 in
theorem szTreeSig_any (leaf : Int) (ae : Option Addr) (ne ce : Nat) (ap : Option Addr) (np cp : Nat) (w : World) (hn : ne ≤ 9223372036854775807) (hn2 : np ≤ 9223372036854775807) :
    Calls Try.prog 18 #[tsv leaf ae ne ce ap np cp, .int .i64 1048576] w fun e w' => e = .returned (.int .i64 (if ne + np ≤ 1048576 then 1048576 - (ne + np : Nat) else -1)) ∧ Below w.heap.size w w' := by
  have hbb : Below w.heap.size w (w.alloc (.cells #[.int .i64 leaf, .slice ae ne ce, .slice ap np cp] 40)) := (Below.refl _ _).alloc (Nat.le_refl _) _
  rw [tsv]
  go_enter Try.func18, Try.ntmps18
  go_wp2_with fail
  refine (szUint64S_any ae ne ce 1048576 _ (by decide) (by decide) hn).mono ?_
  rintro e w2 ⟨rfl, hw⟩
  have hw2 := hw.symm
  subst hw2
  by_cases h1 : (ne : Int) ≤ 1048576
  · rw [if_pos h1]
    go_wp2_with fail
    refine (szUint64S_any ap np cp (1048576 - (ne : Int)) _ (by omega) (by omega) hn2).mono ?_
    rintro e w2 ⟨rfl, hw⟩
    have hw2 := hw.symm
    subst hw2
    by_cases h2 : (np : Int) ≤ 1048576 - (ne : Int)
    · rw [if_pos h2]
      go_wp2
      go_ret
      exact ⟨by show Ending.returned (Value.int .i64 (1048576 - (ne : Int) - (np : Int))) = _; congr 2; omega, hbb⟩
    · rw [if_neg h2]
      go_wp2
      go_ret
      exact ⟨rfl, hbb⟩
  · rw [if_neg h1]
    go_wp2
    go_ret
    exact ⟨rfl, hbb⟩

theorem results_ts {fn : Func} {t : Tmp} (h : fn.results = #[.cell t 28]) (tmps : Array Value) (g : Nat) (ht : tmps.getD t undef = .pointer (some ⟨g, 0, none⟩)) (w : World) (c0 c1 c2 : Value)
    (hb : w.heap[g]? = some (.cells #[c0, c1, c2] 28 (0, 0))) : (results fn tmps).run Try.prog w = .ok (.agg #[c0, c1, c2]) w := by
  have d0 : w.cell? ⟨g, 0, none⟩ = some c0 := (cell_of_row _ g 0 _ 28 (0, 0) hb).trans rfl
  have d1 : w.cell? ⟨g, 1, none⟩ = some c1 := (cell_of_row _ g 1 _ 28 (0, 0) hb).trans rfl
  have d2 : w.cell? ⟨g, 2, none⟩ = some c2 := (cell_of_row _ g 2 _ 28 (0, 0) hb).trans rfl
  clear hb
  have ht' : tmps[t]?.getD undef = .pointer (some ⟨g, 0, none⟩) := by rw [← ht]; simp
  simp [results, h, go_sem, ht', d0, d1, d2]

set_option maxRecDepth 10000 in
set_option maxHeartbeats 2000000 in
theorem toTreeSig_any (leaf : Int) (ae : Option Addr) (ne ce : Nat) (ez : List Int) (ap : Option Addr) (np cp : Nat) (pz : List Int) (w : World) (he : RowU w ae ne ez) (hp : RowU w ap np pz) (hn : ne + np ≤ 1048576) :
    Calls Try.prog 20 #[tsv leaf ae ne ce ap np cp] w fun e w' => ∃ a1 a2, e = .returned (tsv leaf a1 ne ne a2 np np) ∧ OwnU w.heap.size w' a1 ne ne ez ∧ OwnU w.heap.size w' a2 np np pz ∧ Below w.heap.size w w' := by
  obtain ⟨w1, hw1⟩ : ∃ w1, w1 = ((w.alloc (.cells #[.int .i64 leaf, .slice ae ne ce, .slice ap np cp] 40)).alloc (.cells #[.int .i64 0, .slice none 0 0, .slice none 0 0] 28)).alloc (.cells #[.int .i64 leaf, .slice none 0 0, .slice none 0 0] 28) := ⟨_, rfl⟩
  have hbb : Below w.heap.size w w1 := by rw [hw1]; exact (((Below.refl _ _).alloc (Nat.le_refl _) _).alloc (by simp) _).alloc (by simp; omega) _
  have s1 : (w.alloc (.cells #[.int .i64 leaf, .slice ae ne ce, .slice ap np cp] 40)).heap.size = w.heap.size + 1 := by simp
  have B0 : w1.heap[w.heap.size]? = some (.cells #[.int .i64 leaf, .slice ae ne ce, .slice ap np cp] 40) := by
    rw [hw1]
    exact (alloc_oldT _ _ _ (by simp; omega)).trans ((alloc_oldT _ _ _ (by simp)).trans (heap_alloc_new w _))
  have B1 : w1.heap[w.heap.size + 1]? = some (.cells #[.int .i64 0, .slice none 0 0, .slice none 0 0] 28) := by
    rw [hw1]
    exact (alloc_oldT _ _ _ (by simp)).trans (by rw [← s1]; exact heap_alloc_new _ _)
  have B2 : w1.heap[w.heap.size + 1 + 1]? = some (.cells #[.int .i64 leaf, .slice none 0 0, .slice none 0 0] 28) := by
    rw [hw1, ← s1]
    exact heap_alloc2_new _ _ _
  have HW : Hid (_ = _) := hw1
  have HE : Hid (_) := he
  have HP : Hid (_) := hp
  clear hw1 s1 he hp
  have l0 : w1.cell? ⟨w.heap.size, 1, none⟩ = some (.slice ae ne ce) := (cell_of_row _ _ 1 _ 40 (0, 0) B0).trans rfl
  rw [tsv]
  go_enter Try.func20, Try.ntmps20
  go_upto_region 3 with fail
  rw [← HW.out]
  clear HW
  go_wp2_with fail
  refine (toUint64S_any ae ne ce ez _ (HE.out.kept hbb) (by omega)).mono ?_
  rintro e w2 ⟨a1, rfl, hr1, hb2⟩
  clear l0
  have hsz := (Array.getElem?_eq_some_iff.1 B2).1
  have B02 := (hb2.block _ (by omega)).trans B0
  have B12 := (hb2.block _ (by omega)).trans B1
  have B22 := (hb2.block _ hsz).trans B2
  have x1 : w2.cell? ⟨w.heap.size + 1 + 1, 1, none⟩ = some (.slice none 0 0) := (cell_of_row _ _ 1 _ 28 (0, 0) B22).trans rfl
  have y1 : w2.frozen? ⟨w.heap.size + 1 + 1, 1, none⟩ = false := frozen_of_row w2 _ 1 _ 28 B22
  have l2 : w2.cell? ⟨w.heap.size, 2, none⟩ = some (.slice ap np cp) := (cell_of_row _ _ 2 _ 40 (0, 0) B02).trans rfl
  have C22 : (w2.setCell ⟨w.heap.size + 1 + 1, 1, none⟩ (.slice a1 ne ne)).heap[w.heap.size + 1 + 1]? = some (.cells #[.int .i64 leaf, .slice a1 ne ne, .slice none 0 0] 28 (0, 0)) := heap_setCell_same w2 (w.heap.size + 1 + 1) 1 _ 28 (.slice a1 ne ne) B22
  have C12 : (w2.setCell ⟨w.heap.size + 1 + 1, 1, none⟩ (.slice a1 ne ne)).heap[w.heap.size + 1]? = _ := (Below.heap_setCell _ _ _ _ (by simp)).trans B12
  have hl2 : (w2.setCell ⟨w.heap.size + 1 + 1, 1, none⟩ (.slice a1 ne ne)).cell? ⟨w.heap.size, 2, none⟩ = some (.slice ap np cp) := (World.cell?_of_block (a := ⟨w.heap.size, 2, none⟩) (Below.heap_setCell w2 _ _ w.heap.size (by simp; omega))).trans l2
  have hbs : Below w.heap.size w (w2.setCell ⟨w.heap.size + 1 + 1, 1, none⟩ (.slice a1 ne ne)) := (keepT hbb hb2).setCell (by simp; omega) _
  have hsz1 : w.heap.size + 1 + 1 < w1.heap.size := hsz
  have HR1 : Hid (OwnU w1.heap.size (w2.setCell ⟨w.heap.size + 1 + 1, 1, none⟩ (.slice a1 ne ne)) a1 ne ne ez) := hr1.set hsz1 _ _
  have hsz3 : (w2.setCell ⟨w.heap.size + 1 + 1, 1, none⟩ (.slice a1 ne ne)).heap.size = w2.heap.size := by simp
  have hsz2 := hb2.size
  obtain ⟨w3, hw3⟩ : ∃ w3, w3 = w2.setCell ⟨w.heap.size + 1 + 1, 1, none⟩ (.slice a1 ne ne) := ⟨_, rfl⟩
  have HW3 : Hid (w2.setCell ⟨w.heap.size + 1 + 1, 1, none⟩ (.slice a1 ne ne) = w3) := hw3.symm
  rw [← hw3] at C22 C12 hl2 hbs HR1 hsz3
  clear hw3 B02 B12 B22 B0 B1 B2 hr1 hl2
  go_wp2_with fail
  rw [HW3.out]
  clear HW3 x1 y1 l2
  refine (toUint64S_any ap np cp pz _ (HP.out.kept hbs) (by omega)).mono ?_
  rintro e w4 ⟨a2, rfl, hr2, hb4⟩
  have D2 := (hb4.block _ (by omega)).trans C22
  have D1 := (hb4.block _ (by omega)).trans C12
  have x2 : w4.cell? ⟨w.heap.size + 1 + 1, 2, none⟩ = some (.slice none 0 0) := (cell_of_row _ _ 2 _ 28 (0, 0) D2).trans rfl
  have y2 : w4.frozen? ⟨w.heap.size + 1 + 1, 2, none⟩ = false := frozen_of_row w4 _ 2 _ 28 D2
  have x0 : w4.cell? ⟨w.heap.size + 1 + 1, 0, none⟩ = some (.int .i64 leaf) := (cell_of_row _ _ 0 _ 28 (0, 0) D2).trans rfl
  have x1 : w4.cell? ⟨w.heap.size + 1 + 1, 1, none⟩ = some (.slice a1 ne ne) := (cell_of_row _ _ 1 _ 28 (0, 0) D2).trans rfl
  have r0 : w4.cell? ⟨w.heap.size + 1, 0, none⟩ = some (.int .i64 0) := (cell_of_row _ _ 0 _ 28 (0, 0) D1).trans rfl
  have r1 : w4.cell? ⟨w.heap.size + 1, 1, none⟩ = some (.slice none 0 0) := (cell_of_row _ _ 1 _ 28 (0, 0) D1).trans rfl
  have r2 : w4.cell? ⟨w.heap.size + 1, 2, none⟩ = some (.slice none 0 0) := (cell_of_row _ _ 2 _ 28 (0, 0) D1).trans rfl
  have f0 : w4.frozen? ⟨w.heap.size + 1, 0, none⟩ = false := frozen_of_row w4 _ 0 _ 28 D1
  have f1 : w4.frozen? ⟨w.heap.size + 1, 1, none⟩ = false := frozen_of_row w4 _ 1 _ 28 D1
  have f2 : w4.frozen? ⟨w.heap.size + 1, 2, none⟩ = false := frozen_of_row w4 _ 2 _ 28 D1
  have HD1 : Hid (_ = _) := D1
  have HR4 : Hid (OwnU w1.heap.size w4 a1 ne ne ez) := HR1.out.kept hb4
  have HR2 : Hid (OwnU w3.heap.size w4 a2 np np pz) := hr2
  have HB4 : Hid (Below w.heap.size w w4) := keepT hbs hb4
  have hB1 := hbb.size
  clear D1 D2 hr2 HR1 C22 C12
  go_wp2_with fail
  try simp only [Exit.inBlock, Exit.then]
  refine bodyPost_ret (results_ts rfl _ (w.heap.size + 1) rfl _ _ _ _ (heap_setCell_same _ _ 2 _ 28 _ (heap_setCell_same _ _ 1 _ 28 _ (heap_setCell_same _ _ 0 _ 28 _ ((Below.heap_setCell _ _ _ _ (by simp)).trans HD1.out))))) rfl ⟨_, _, rfl, ?_, ?_, ?_⟩
  · exact ((((HR4.out.set (by omega) _ _).set (by omega) _ _).set (by omega) _ _).set (by omega) _ _).mono hB1
  · exact ((((HR2.out.set (by omega) _ _).set (by omega) _ _).set (by omega) _ _).set (by omega) _ _).mono (by omega)
  · exact (((HB4.out.setCell (by simp; omega) _).setCell (by simp) _).setCell (by simp) _).setCell (by simp) _

end Go.Proofs.Ytmggaegjfkpjoaa
