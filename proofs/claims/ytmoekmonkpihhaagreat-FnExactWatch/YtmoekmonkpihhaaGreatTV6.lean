import Derived.Test.YtmoekmonkpihhaaGreatTV5
import Derived.Test.YtmoekmonkpihhaaGreatTTD
namespace Go.Proofs.YtmoekmonkpihhaaGreat
open Go.RowKit

theorem OwnU.mono {B B' : Nat} {w : World} {a : Option Addr} {n cap : Nat} {zs : List Int} (h : OwnU B w a n cap zs) (hB : B' ≤ B) : OwnU B' w a n cap zs :=
  ⟨⟨h.row.1, by rcases h.row.2 with h | ⟨g, cap, cur, hv, hb, r⟩; exact .inl h; exact .inr ⟨g, cap, cur, hv, by omega, r⟩⟩, h.rng⟩
theorem OwnU.set {B : Nat} {w : World} {a : Option Addr} {n cap : Nat} {zs : List Int} (h : OwnU B w a n cap zs) {g : Nat} (hg : g < B) (i : Nat) (v : Value) : OwnU B (w.setCell ⟨g, i, none⟩ v) a n cap zs := by
  refine ⟨⟨h.row.1, ?_⟩, h.rng⟩
  rcases h.row.2 with h | ⟨g', cap', cur, hv, hb, hh, r⟩
  · exact .inl h
  · exact .inr ⟨g', cap', cur, hv, hb, (Below.heap_setCell _ _ _ _ (by simp; omega)).trans hh, r⟩
theorem below_dnT {B : Nat} {w w' : World} (h : Below B w w') (n : Nat) : Below B w (w'.drewN n) := below_dn h n

set_option maxRecDepth 10000 in
set_option maxHeartbeats 400000 in
theorem toUint64S_any (a : Option Addr) (n cap : Nat) (zs : List Int) (w : World) (h : RowU w a n zs) (hn : n ≤ 1048576) :
    Calls Tryz.prog 8 #[.slice a n cap] w fun e w' => ∃ a', e = .returned (.slice a' n n) ∧ OwnU w.heap.size w' a' n n zs ∧ Below w.heap.size w w' := by
  obtain ⟨i0, hi, hz0, hz1, hz2⟩ := info_parts Tryz.infoU
  have HL : Hid (zs.length = n) := h.len
  have HRG : Hid (_) := h.rng
  go_enter Tryz.func8, Tryz.ntmps8
  go_wp2_with (first | (at_make; refine wpList_make_full _ rfl _ _ 28 rfl w.heap.size 22 i0 (.int .u64 0) 1 Tryz.underlying28 hi hz0 hz1 _ _ _ _ n rfl rfl rfl rfl (by rw [hz2]; omega) (by unfold maxLen; omega) (by exact Nat.le_refl _) ?_; intro w1 hown hgrow))
  have ho := madeU hown
  have hbl : Below w.heap.size w w1 := (Below.refl _ _).grown hgrow (Nat.le_refl _) (by simp)
  clear hown hgrow hi hz0 hz1 hz2
  have H0 : Hid (RowU w a n zs) := h
  clear h
  go_loopw [4] (fun i wr => ∃ k : Nat, k ≤ n ∧ i = .int .i64 k ∧ wr.ownsRow w.heap.size 22 1 (.slice (some ⟨w.heap.size, 0, none⟩) n n) n ((half zs k).map (Value.int .u64)) ∧ Below w.heap.size w wr) (fun i _ => n - (intOf i).toNat)
  case atStart => exact ⟨0, Nat.zero_le _, rfl, by rw [half_zero, HL.out]; exact ho, hbl⟩
  case round =>
    obtain ⟨k, hk, rfl, hor, hbr⟩ := hrel
    by_cases hlt : k < n
    · obtain ⟨b, off, rfl, hb, hc⟩ := H0.out.get k hlt
      have hcr : wr.cell? ⟨b, off + k, none⟩ = some (.int .u64 (zs.getD k 0)) := (hbr.cell (p := ⟨b, off + k, none⟩) hb).trans hc
      have hfr : wr.frozen? ⟨w.heap.size, k, none⟩ = false := hor.frozenAt k
      obtain ⟨y, hy⟩ : ∃ y, wr.cell? ⟨w.heap.size, k, none⟩ = some y := ⟨_, (hor.cellAt k (by omega)).trans (List.getElem?_eq_getElem (by simp [half_len zs k (by have := HL.out; omega), HL.out]; exact hlt))⟩
      have hs := (hor.stored k (.int .u64 (zs.getD k 0))).1
      rw [← List.map_set, half_set zs k (by have := HL.out; omega)] at hs
      have hb2 : Below w.heap.size w (wr.setCell ⟨w.heap.size, k, none⟩ (.int .u64 (zs.getD k 0))) := hbr.setCell (Nat.le_refl _) _
      clear hc hor hbr
      go_wp2
      go_roundw
      case rel => exact ⟨k + 1, by omega, by go_num, hs, hb2⟩
      case measure => simp [intOf]; omega
    · have hkn : k = n := by omega
      subst hkn
      rw [← HL.out, half_all] at hor
      have HF : Hid (OwnU w.heap.size wr (some ⟨w.heap.size, 0, none⟩) k k zs) := ⟨by rw [HL.out] at hor; exact hor, HRG.out⟩
      clear hor
      go_wp2
      go_ret
      exact ⟨_, rfl, HF.out, hbr⟩

set_option maxRecDepth 10000 in
set_option maxHeartbeats 400000 in
theorem eqUint64S_same (a b : Option Addr) (n ca cb : Nat) (zs : List Int) (w : World) (hx : RowU w a n zs) (hy : RowU w b n zs) (hn : n ≤ 9223372036854775807) :
    Calls Tryz.prog 16 #[.slice a n ca, .slice b n cb] w fun e w' => e = .returned (.bool true) ∧ Below w.heap.size w w' := by
  have HX : Hid (RowU w a n zs) := hx
  have HY : Hid (RowU w b n zs) := hy
  clear hx hy
  go_enter Tryz.func16, Tryz.ntmps16
  go_wp2
  go_loopw [5] (fun i wr => ∃ k : Nat, k ≤ n ∧ i = .int .i64 k ∧ Below w.heap.size w wr) (fun i _ => n - (intOf i).toNat)
  case atStart => exact ⟨0, Nat.zero_le _, rfl, Below.refl _ _⟩
  case round =>
    obtain ⟨k, hk, rfl, hbr⟩ := hrel
    by_cases hlt : k < n
    · obtain ⟨b1, off1, rfl, hb1, hc1⟩ := HX.out.get k hlt
      obtain ⟨b2, off2, rfl, hb2, hc2⟩ := HY.out.get k hlt
      have hr1 : wr.cell? ⟨b1, off1 + k, none⟩ = some (.int .u64 (zs.getD k 0)) := (hbr.cell (p := ⟨b1, off1 + k, none⟩) hb1).trans hc1
      have hr2 : wr.cell? ⟨b2, off2 + k, none⟩ = some (.int .u64 (zs.getD k 0)) := (hbr.cell (p := ⟨b2, off2 + k, none⟩) hb2).trans hc2
      clear hc1 hc2
      obtain ⟨z, hz⟩ : ∃ z, z = zs.getD k 0 := ⟨_, rfl⟩
      rw [← hz] at hr1 hr2
      clear hz
      go_wp2
      go_quiet (fail)
      go_wp2
      go_roundw
      case rel => exact ⟨k + 1, by omega, by go_num, below_dnT hbr nq⟩
      case measure => simp [intOf]; omega
    · go_wp2
      go_ret
      exact ⟨rfl, hbr⟩

theorem results_ts {fn : Func} {t : Tmp} (h : fn.results = #[.cell t 84]) (tmps : Array Value) (g : Nat) (ht : tmps.getD t undef = .pointer (some ⟨g, 0, none⟩)) (w : World) (c0 c1 c2 : Value)
    (hb : w.heap[g]? = some (.cells #[c0, c1, c2] 84 (0, 0))) : (results fn tmps).run Tryz.prog w = .ok (.agg #[c0, c1, c2]) w := by
  have d0 : w.cell? ⟨g, 0, none⟩ = some c0 := (cell_of_row _ g 0 _ 84 (0, 0) hb).trans rfl
  have d1 : w.cell? ⟨g, 1, none⟩ = some c1 := (cell_of_row _ g 1 _ 84 (0, 0) hb).trans rfl
  have d2 : w.cell? ⟨g, 2, none⟩ = some c2 := (cell_of_row _ g 2 _ 84 (0, 0) hb).trans rfl
  clear hb
  have ht' : tmps[t]?.getD undef = .pointer (some ⟨g, 0, none⟩) := by rw [← ht]; simp
  simp [results, h, go_sem, ht', d0, d1, d2]

end Go.Proofs.YtmoekmonkpihhaaGreat
