import Derived.Test.YtdkgilkjcndonaaPL8
import Derived.Deep.DeepCutAuto
namespace Go.Proofs.Ytdkgilkjcndonaa
open Go.RowKit

def walkV (ap : Option Addr) (np cp : Nat) (ac : Option Addr) (nc cc bm : Nat) : Value := .agg #[.slice ap np cp, .slice ac nc cc, .map (some bm)]
theorem results_wk {fn : Func} {t : Tmp} (h : fn.results = #[.cell t 61]) (tmps : Array Value) (g : Nat) (ht : tmps.getD t undef = .pointer (some ⟨g, 0, none⟩)) (w : World) (v0 v1 v2 : Value)
    (hb : w.heap[g]? = some (.cells #[v0, v1, v2] 61 (0, 0))) : (results fn tmps).run Try.prog w = .ok (.agg #[v0, v1, v2]) w := by
  have d0 : w.cell? ⟨g, 0, none⟩ = some v0 := (cell_of_row _ g 0 _ 61 (0, 0) hb).trans rfl
  have d1 : w.cell? ⟨g, 1, none⟩ = some v1 := (cell_of_row _ g 1 _ 61 (0, 0) hb).trans rfl
  have d2 : w.cell? ⟨g, 2, none⟩ = some v2 := (cell_of_row _ g 2 _ 61 (0, 0) hb).trans rfl
  clear hb
  have ht' : tmps[t]?.getD undef = .pointer (some ⟨g, 0, none⟩) := by rw [← ht]; simp
  simp [results, h, go_sem, ht', d0, d1, d2]

/-- What stands while the counters begin. -/
structure WB (w W : World) (b0 b1 b2 : Bool) (n k : Nat) : Prop where
  r : W.heap[w.heap.size + 1]? = some (.cells #[.slice none 0 0, .slice none 0 0, .map none] 61 (0, 0))
  f : W.heap[w.heap.size + 1 + 1]? = some (.cells (ini3 b0 b1 b2 n k) 86 (0, 0))
  below : Below w.heap.size w W
  size : W.heap.size = w.heap.size + 3

/-- What walkOf answers. -/
def WkR (w : World) (ap : Option Addr) (np cp : Nat) (T : Nat → Int × Int × Int) (e : Ending) (w' : World) : Prop :=
  ∃ ac cc bm, e = .returned (walkV ap np cp ac (np + 1) cc bm) ∧ Ctrs w' ac (np + 1) T ∧ w'.ownsMap (H := Unit) Try.prog 104 (plainElem Try.prog 2) bm 0 (.map []) ∧ w.heap.size ≤ bm ∧ Below w.heap.size w w'

set_option maxRecDepth 10000 in
set_option maxHeartbeats 4000000 in
theorem walkOf_any (ap : Option Addr) (np cp : Nat) (xs : List PC) (b0 b1 b2 : Bool) (w : World) (h : Pcs w ap np xs) (hp : pathP xs) :
    Calls Try.prog 33 #[.slice ap np cp, .agg #[.bool b0, .bool b1, .bool b2]] w (WkR w ap np cp (trip xs (ctr0 b0 np) (ctr0 b1 np) (ctr0 b2 np))) := by
  have H0 : Hid (Pcs w ap np xs) := h
  have HL : Hid (xs.length = np) := h.len
  have HP : Hid (pathP xs) := hp
  have hn8 : np ≤ 8 := by rw [← h.len]; exact hp.1.2
  have hn1 : 1 ≤ np := by rw [← h.len]; exact hp.1.1
  clear h hp
  obtain ⟨W0, hW0⟩ : ∃ W0, W0 = (((w.alloc (.cells #[.bool b0, .bool b1, .bool b2] 63)).alloc (.cells #[.slice none 0 0, .slice none 0 0, .map none] 61)).alloc (.cells #[.int .i64 0, .int .i64 0, .int .i64 0] 86)) := ⟨_, rfl⟩
  have hB0 : Below w.heap.size w W0 := by rw [hW0]; exact (((Below.refl _ _).alloc (Nat.le_refl _) _).alloc (by simp) _).alloc (by simp; omega) _
  have hS0 : W0.heap.size = w.heap.size + 3 := by rw [hW0]; simp
  obtain ⟨z0, z1, z2⟩ := three_blocksP w (.cells #[.bool b0, .bool b1, .bool b2] 63) (.cells #[.slice none 0 0, .slice none 0 0, .map none] 61) (.cells #[.int .i64 0, .int .i64 0, .int .i64 0] 86)
  rw [← hW0] at z0 z1 z2
  have HWB : Hid (WB w W0 b0 b1 b2 np 0) := ⟨z1, z2, hB0, hS0⟩
  have y0 : W0.cell? ⟨w.heap.size, 0, none⟩ = some (.bool b0) := (cell_of_row _ _ 0 _ 63 (0, 0) z0).trans rfl
  have y1 : W0.cell? ⟨w.heap.size, 1, none⟩ = some (.bool b1) := (cell_of_row _ _ 1 _ 63 (0, 0) z0).trans rfl
  have y2 : W0.cell? ⟨w.heap.size, 2, none⟩ = some (.bool b2) := (cell_of_row _ _ 2 _ 63 (0, 0) z0).trans rfl
  have HW0 : Hid (_ = _) := hW0
  clear hB0 hS0 z0 z1 z2 hW0
  go_enter Try.func33, Try.ntmps33
  go_upto_region 2 with fail
  rw [← HW0.out]
  clear HW0
  go_wp2
  go_loopw [12] (fun i wr => ∃ k : Nat, k ≤ 3 ∧ i = .int .i64 k ∧ Hid (WB w wr b0 b1 b2 np k)) (fun i _ => 3 - (intOf i).toNat)
  case atStart => exact ⟨0, Nat.zero_le _, rfl, HWB⟩
  case round =>
    obtain ⟨k, hk, rfl, HA⟩ := hrel
    clear HWB y0 y1 y2
    have l2 : w.heap.size + 1 + 1 < wr.heap.size := by rw [HA.out.size]; omega
    by_cases hlt : k < 3
    · obtain ⟨bk, hbk⟩ : ∃ bk, bk = [b0, b1, b2].getD k false := ⟨_, rfl⟩
      have hix := run_index3 wr b0 b1 b2 k hlt
      rw [← hbk] at hix
      have x0 : wr.cell? ⟨w.heap.size + 1 + 1, k, none⟩ = some (.int .i64 0) := (cell_of_row _ _ k _ 86 (0, 0) HA.out.f).trans (ini_get b0 b1 b2 np k hlt)
      have f0 : wr.frozen? ⟨w.heap.size + 1 + 1, k, none⟩ = false := frozen_of_row wr _ k _ 86 HA.out.f
      have hlti : (k : Int) < 3 := by omega
      have HBK : Hid (bk = [b0, b1, b2].getD k false) := hbk
      have wr1 : IntKind.i64.wrap ((np : Int) + 1) = (np : Int) + 1 := by rw [IntKind.wrap_i64]; omega
      clear hbk
      cases bk with
      | true =>
        have FIN : Hid (WB w wr b0 b1 b2 np (k + 1)) := ⟨HA.out.r, by rw [← ini_zero b0 b1 b2 np k hlt HBK.out.symm]; exact HA.out.f, HA.out.below, HA.out.size⟩
        clear HBK HA
        go_wp2
        go_roundw
        case rel => exact ⟨k + 1, by omega, by go_num, FIN⟩
        case measure => simp [intOf]; omega
      | false =>
        have FIN : Hid (WB w (wr.setCell ⟨w.heap.size + 1 + 1, k, none⟩ (.int .i64 ((np : Int) + 1))) b0 b1 b2 np (k + 1)) := ⟨(Below.heap_setCell _ _ _ _ (by show w.heap.size + 1 ≠ w.heap.size + 1 + 1; omega)).trans HA.out.r, by
          have e : ctr0 ([b0, b1, b2].getD k false) np = (np : Int) + 1 := by rw [← HBK.out]; rfl
          rw [← ini_set b0 b1 b2 np k hlt, e]
          exact heap_setCell_same wr _ k _ 86 _ HA.out.f, HA.out.below.setCell (by show w.heap.size ≤ w.heap.size + 1 + 1; omega) _, by simpa [World.setCell] using HA.out.size⟩
        clear HBK HA
        go_wp2
        go_roundw
        case rel => exact ⟨k + 1, by omega, by go_num, FIN⟩
        case measure => simp [intOf]; omega
    · obtain rfl : k = 3 := by omega
      obtain ⟨i0, hi, hz0, hz1, hz2⟩ := info_parts Try.infoCtr
      have hf := HA.out.f
      rw [ini_all] at hf
      have o0 : wr.cell? ⟨w.heap.size + 1 + 1, 0, none⟩ = some (.int .i64 (ctr0 b0 np)) := (cell_of_row _ _ 0 _ 86 (0, 0) hf).trans rfl
      have o1 : wr.cell? ⟨w.heap.size + 1 + 1, 1, none⟩ = some (.int .i64 (ctr0 b1 np)) := (cell_of_row _ _ 1 _ 86 (0, 0) hf).trans rfl
      have o2 : wr.cell? ⟨w.heap.size + 1 + 1, 2, none⟩ = some (.int .i64 (ctr0 b2 np)) := (cell_of_row _ _ 2 _ 86 (0, 0) hf).trans rfl
      have bq := ctr0_bounds b0 np hn8
      have bm := ctr0_bounds b1 np hn8
      have ba := ctr0_bounds b2 np hn8
      obtain ⟨q0, hq0⟩ : ∃ q, q = ctr0 b0 np := ⟨_, rfl⟩
      obtain ⟨m0, hm0⟩ : ∃ q, q = ctr0 b1 np := ⟨_, rfl⟩
      obtain ⟨a0, ha0⟩ : ∃ q, q = ctr0 b2 np := ⟨_, rfl⟩
      rw [← hq0] at o0 bq
      rw [← hm0] at o1 bm
      rw [← ha0] at o2 ba
      have HQ : Hid (q0 = ctr0 b0 np ∧ m0 = ctr0 b1 np ∧ a0 = ctr0 b2 np) := ⟨hq0, hm0, ha0⟩
      have HBD : Hid (∀ j, Bd3 (trip xs q0 m0 a0 j)) := fun j => trip_bd xs bq bm ba j
      clear hq0 hm0 ha0 hf bq bm ba
      obtain ⟨w4, hw4⟩ : ∃ w4, w4 = wr.alloc (.cells #[.int .i64 q0, .int .i64 m0, .int .i64 a0] 86) := ⟨_, rfl⟩
      have s4 : w4.heap.size = w.heap.size + 4 := by rw [hw4]; simp [HA.out.size]
      have HR4 : Hid (w4.heap[w.heap.size + 1]? = some (.cells #[.slice none 0 0, .slice none 0 0, .map none] 61 (0, 0))) := by
        show _ = _
        rw [hw4, alloc_oldP _ _ _ (by omega)]; exact HA.out.r
      have HB4 : Hid (Below w.heap.size w w4) := by
        show Below _ _ _
        rw [hw4]; exact HA.out.below.alloc HA.out.below.size _
      have HO4 : Hid (w4.ownsRow (w.heap.size + 3) 86 3 (.slice (some ⟨w.heap.size + 3, 0, none⟩) 1 1) 1 (flat3 ((List.range 1).map (trip xs q0 m0 a0)))) := by
        show World.ownsRow _ _ _ _ _ _ _
        have := World.ownsRow_lit (base := w.heap.size + 3) (e := 86) (size := 3) wr #[.int .i64 q0, .int .i64 m0, .int .i64 a0] 1 (Nat.le_of_eq HA.out.size.symm) (by unfold maxLen; omega) rfl
        rw [hw4]
        rw [HA.out.size] at this
        exact this
      have HW4 : Hid (_ = _) := hw4
      have HS : Hid (wr.heap.size = w.heap.size + 3) := HA.out.size
      clear HA hw4 l2
      have e3 : ((3 : Nat) : Int) = 3 := rfl
      simp only [e3]
      clear e3
      go_upto_region 9 with fail
      rw [← HW4.out, HS.out]
      clear HW4 HS
      go_wp2
      go_loopw [8, 28] (fun s i wr => ∃ (k cc : Nat) (ao : Option Addr), k ≤ np ∧ s = .slice ao (k + 1) cc ∧ i = .int .i64 k ∧ Hid (wr.ownsRow (w.heap.size + 3) 86 3 (.slice ao (k + 1) cc) (k + 1) (flat3 ((List.range (k + 1)).map (trip xs q0 m0 a0)))) ∧ Hid (wr.heap[w.heap.size + 1]? = some (.cells #[.slice none 0 0, .slice none 0 0, .map none] 61 (0, 0))) ∧ Hid (Below w.heap.size w wr) ∧ w.heap.size + 4 ≤ wr.heap.size) (fun _ i _ => np - (intOf i).toNat)
      case atStart => exact ⟨0, 1, _, Nat.zero_le _, rfl, rfl, HO4, HR4, HB4, by omega⟩
      case round =>
        obtain ⟨k, cc, ao, hk, rfl, rfl, HO, HR, HB, hsz⟩ := hrel
        clear HO4 HR4 HB4 s4
        by_cases hlt : k < np
        · obtain ⟨b, off, a1, n1, d1, a2, n2, d2, rfl, hlb, hc, hpc⟩ := (H0.out.kept HB.out).get k hlt
          obtain ⟨y, hy⟩ : ∃ y, y = xs.getD k default := ⟨_, rfl⟩
          rw [← hy] at hc
          have HLM : Hid (Lm3 y) := by show Lm3 y; rw [hy]; exact (HP.out.2 k (by rw [HL.out]; exact hlt)).lim
          obtain ⟨c0, c1, c2, c3, c4, c5⟩ := hc
          obtain ⟨T, hT⟩ : ∃ T, T = trip xs q0 m0 a0 k := ⟨_, rfl⟩
          obtain ⟨bo, oo, hao, hlo, t0, t1, t2⟩ := (ctrs_of_row HO.out (by omega)).get k (by omega)
          subst hao
          rw [← hT] at t0 t1 t2
          have HTT : Hid (nxt3 T y = trip xs q0 m0 a0 (k + 1)) := by show _ = _; rw [hT, hy]; exact trip_succ _ _ _ _ _
          have HBT : Hid (Bd3 T) := by show Bd3 T; rw [hT]; exact HBD.out k
          have hlti : (k : Int) < (np : Int) := by omega
          have hlt1 : (k : Int) < (k : Int) + 1 := by omega
          clear hy hT hpc
          obtain ⟨w5, hw5⟩ : ∃ w5, w5 = wr.alloc (.cells #[.slice a1 n1 d1, .slice a2 n2 d2, .bool y.self, .int .i64 y.need, .int .i64 y.nomap, .int .i64 y.noany] 41) := ⟨_, rfl⟩
          have HW5 : Hid (_ = _) := hw5
          have v5 : w5.heap[wr.heap.size]? = some (.cells #[.slice a1 n1 d1, .slice a2 n2 d2, .bool y.self, .int .i64 y.need, .int .i64 y.nomap, .int .i64 y.noany] 41 (0, 0)) := by rw [hw5]; exact heap_alloc_new _ _
          have HK5 : Hid (Below wr.heap.size wr w5) := by show Below _ _ _; rw [hw5]; exact (Below.refl _ _).alloc (Nat.le_refl _) _
          clear hw5
          go_upto_region 12 with fail
          rw [← HW5.out]
          clear HW5 c0 c1 c2 c3 c4 c5
          obtain ⟨N, hN⟩ : ∃ N, N = trip xs q0 m0 a0 (k + 1) := ⟨_, rfl⟩
          rw [← hN] at HTT
          have HN : Hid (N = trip xs q0 m0 a0 (k + 1)) := hN
          have CALL : Hid (∀ W, Calls Try.prog 56 #[.agg #[.int .i64 T.1, .int .i64 T.2.1, .int .i64 T.2.2], .agg #[.slice a1 n1 d1, .slice a2 n2 d2, .bool y.self, .int .i64 y.need, .int .i64 y.nomap, .int .i64 y.noany]] W fun e w' => e = .returned (.agg #[.int .i64 N.1, .int .i64 N.2.1, .int .i64 N.2.2]) ∧ Below W.heap.size W w') := fun W => by
            have := behind_any T a1 n1 d1 a2 n2 d2 y W HBT.out HLM.out
            rw [HTT.out] at this
            exact this
          have g5 := HK5.out.size
          have x5 : wr.heap.size < w5.heap.size := (Array.getElem?_eq_some_iff.1 v5).1
          have KC : Hid (KeptC wr w5) := KeptC.of_below HK5.out
          have t0' : w5.cell? ⟨bo, oo + k * 3, none⟩ = some (.int .i64 T.1) := KC.out.2 _ _ _ t0
          have t1' : w5.cell? ⟨bo, oo + k * 3 + 1, none⟩ = some (.int .i64 T.2.1) := KC.out.2 _ _ _ t1
          have t2' : w5.cell? ⟨bo, oo + k * 3 + 2, none⟩ = some (.int .i64 T.2.2) := KC.out.2 _ _ _ t2
          have t0d : w5.drew.cell? ⟨bo, oo + k * 3, none⟩ = some (.int .i64 T.1) := t0'
          have t1d : w5.drew.cell? ⟨bo, oo + k * 3 + 1, none⟩ = some (.int .i64 T.2.1) := t1'
          have t2d : w5.drew.cell? ⟨bo, oo + k * 3 + 2, none⟩ = some (.int .i64 T.2.2) := t2'
          have e0 : w5.cell? ⟨wr.heap.size, 0, none⟩ = some (.slice a1 n1 d1) := (cell_of_row _ _ 0 _ 41 (0, 0) v5).trans rfl
          have e1 : w5.cell? ⟨wr.heap.size, 1, none⟩ = some (.slice a2 n2 d2) := (cell_of_row _ _ 1 _ 41 (0, 0) v5).trans rfl
          have e2 : w5.cell? ⟨wr.heap.size, 2, none⟩ = some (.bool y.self) := (cell_of_row _ _ 2 _ 41 (0, 0) v5).trans rfl
          have e3 : w5.cell? ⟨wr.heap.size, 3, none⟩ = some (.int .i64 y.need) := (cell_of_row _ _ 3 _ 41 (0, 0) v5).trans rfl
          have e4 : w5.cell? ⟨wr.heap.size, 4, none⟩ = some (.int .i64 y.nomap) := (cell_of_row _ _ 4 _ 41 (0, 0) v5).trans rfl
          have e5 : w5.cell? ⟨wr.heap.size, 5, none⟩ = some (.int .i64 y.noany) := (cell_of_row _ _ 5 _ 41 (0, 0) v5).trans rfl
          have d0 : w5.drew.cell? ⟨wr.heap.size, 0, none⟩ = some (.slice a1 n1 d1) := e0
          have d1' : w5.drew.cell? ⟨wr.heap.size, 1, none⟩ = some (.slice a2 n2 d2) := e1
          have d2' : w5.drew.cell? ⟨wr.heap.size, 2, none⟩ = some (.bool y.self) := e2
          have d3 : w5.drew.cell? ⟨wr.heap.size, 3, none⟩ = some (.int .i64 y.need) := e3
          have d4 : w5.drew.cell? ⟨wr.heap.size, 4, none⟩ = some (.int .i64 y.nomap) := e4
          have d5 : w5.drew.cell? ⟨wr.heap.size, 5, none⟩ = some (.int .i64 y.noany) := e5
          have hbo : bo < w5.heap.size := by omega
          clear t0 t1 t2 v5 hN KC
          go_region_law
            (first
              | (go_simp; go_at_call 56; refine (CALL.out _).mono ?_; rintro e w6 ⟨rfl, hb6⟩; have B6 : Below wr.heap.size wr w6 := keepP HK5.out.drew hb6; have hor3 := (ownsRow_below HO.out B6).alloc (.cells #[.int .i64 N.1, .int .i64 N.2.1, .int .i64 N.2.2] 86); have hcl : ∀ jj uu, ([.int .i64 N.1, .int .i64 N.2.1, .int .i64 N.2.2] : List Value)[jj]? = some uu → (w6.alloc (.cells #[.int .i64 N.1, .int .i64 N.2.1, .int .i64 N.2.2] 86)).cell? ((⟨w6.heap.size, 0, none⟩ : Addr).add jj) = some uu := (by intro jj uu hju; rw [Addr.add_lit, Nat.zero_add, cell_of_row _ w6.heap.size jj _ 86 _ (heap_alloc_new w6 _), ← hju]; simp); have h1c : ∀ u ∈ ([.int .i64 N.1, .int .i64 N.2.1, .int .i64 N.2.2] : List Value), u.oneCell' = true := (by intro u hu; simp at hu; rcases hu with rfl | rfl | rfl; exact rfl; exact rfl; exact rfl); have hs6 := B6.size; have hb3 : w.heap.size + 3 ≤ (w6.alloc (.cells #[.int .i64 N.1, .int .i64 N.2.1, .int .i64 N.2.2] 86)).heap.size := (Nat.le_trans (by omega) ((Below.refl w6.heap.size w6).alloc (Nat.le_refl _) _).size); have HB6 : Hid (Below wr.heap.size wr w6) := B6; clear hb6 B6)
              | (refine step_append_ownP rfl (.tmp 33) (.tmp 40) 58 rfl (w.heap.size + 3) 86 i0 _ 3 24 Try.underlying58 hi hz0 hz1 hz2 rfl (by decide) _ (k + 1) _ (by simp [Act.eval]) hor3 ⟨w6.heap.size, 0, none⟩ 1 1 [.int .i64 N.1, .int .i64 N.2.1, .int .i64 N.2.2] (by simp [Act.eval]) rfl hcl h1c (by unfold maxLen; omega) (by omega) hb3 ?_; intro v7 w7 hv7 hg7; obtain ⟨a7, c7, rfl⟩ := owns_shapeP hv7; have HV7 : Hid (_) := hv7; have HG7 : Hid (Below (w.heap.size + 3) w6 w7) := (((Below.refl (w.heap.size + 3) w6).alloc (by omega) _).grown hg7 hb3 (fun l hl => (hor3.lt l hl).1)); clear hv7 hg7))
          all_goals
            have HO7 : Hid (w7.ownsRow (w.heap.size + 3) 86 3 (.slice a7 (k + 1 + 1) c7) (k + 1 + 1) (flat3 ((List.range (k + 1 + 1)).map (trip xs q0 m0 a0)))) := by
              show World.ownsRow _ _ _ _ _ _ _
              rw [List.range_succ, List.map_append, List.map_singleton, ← HN.out, flat3_snoc]
              exact HV7.out
            have s7 := HG7.out.size
            have HB7 : Hid (Below w.heap.size w w7) := (HB.out.trans (HB6.out.mono (by omega))).trans (HG7.out.mono (by omega))
            have HR7 : Hid (w7.heap[w.heap.size + 1]? = some (.cells #[.slice none 0 0, .slice none 0 0, .map none] 61 (0, 0))) := (HG7.out.block _ (by omega)).trans ((HB6.out.block _ (by omega)).trans HR.out)
            go_wp2
            go_roundw
            case rel => exact ⟨k + 1, c7, a7, by omega, rfl, by go_num, HO7, HR7, HB7, by omega⟩
            case measure => simp [intOf]; omega
        · obtain rfl : k = np := by omega
          have hge : ¬ ((k : Int) < (k : Int)) := by omega
          have r0 : wr.cell? ⟨w.heap.size + 1, 0, none⟩ = some (.slice none 0 0) := (cell_of_row _ _ 0 _ 61 (0, 0) HR.out).trans rfl
          have r1 : wr.cell? ⟨w.heap.size + 1, 1, none⟩ = some (.slice none 0 0) := (cell_of_row _ _ 1 _ 61 (0, 0) HR.out).trans rfl
          have r2 : wr.cell? ⟨w.heap.size + 1, 2, none⟩ = some (.map none) := (cell_of_row _ _ 2 _ 61 (0, 0) HR.out).trans rfl
          have f0 : wr.frozen? ⟨w.heap.size + 1, 0, none⟩ = false := frozen_of_row wr _ 0 _ 61 HR.out
          have f1 : wr.frozen? ⟨w.heap.size + 1, 1, none⟩ = false := frozen_of_row wr _ 1 _ 61 HR.out
          have f2 : wr.frozen? ⟨w.heap.size + 1, 2, none⟩ = false := frozen_of_row wr _ 2 _ 61 HR.out
          have hl1 : w.heap.size + 1 < wr.heap.size := by omega
          have hmm := @run_makeMap Try.prog
          go_wp2
          try simp only [Exit.inBlock, Exit.then]
          obtain ⟨w9, hw9⟩ : ∃ w9, w9 = ((wr.setCell ⟨w.heap.size + 1, 0, none⟩ (.slice ap k cp)).setCell ⟨w.heap.size + 1, 1, none⟩ (.slice ao (k + 1) cc)).setCell ⟨w.heap.size + 1, 2, none⟩ (.map (some wr.heap.size)) := ⟨_, rfl⟩
          rw [← hw9]
          have q9 : w9.heap[w.heap.size + 1]? = some (.cells #[.slice ap k cp, .slice ao (k + 1) cc, .map (some wr.heap.size)] 61 (0, 0)) := by
            rw [hw9]
            exact heap_setCell_same _ _ 2 _ 61 _ (heap_setCell_same _ _ 1 _ 61 _ (heap_setCell_same wr _ 0 _ 61 _ HR.out))
          have s9 : w9.heap.size = wr.heap.size := by rw [hw9]; simp
          have fo : ∀ l, w.heap.size + 2 ≤ l → w9.heap[l]? = wr.heap[l]? := fun l hl => by
            rw [hw9]
            exact (Below.heap_setCell _ _ _ _ (by show l ≠ w.heap.size + 1; omega)).trans ((Below.heap_setCell _ _ _ _ (by show l ≠ w.heap.size + 1; omega)).trans (Below.heap_setCell _ _ _ _ (by show l ≠ w.heap.size + 1; omega)))
          have B9 : Below w.heap.size w w9 := by
            rw [hw9]
            exact ((HB.out.setCell (by show w.heap.size ≤ w.heap.size + 1; omega) _).setCell (by show w.heap.size ≤ w.heap.size + 1; omega) _).setCell (by show w.heap.size ≤ w.heap.size + 1; omega) _
          clear hw9
          have K9 : Ctrs w9 ao (k + 1) (trip xs q0 m0 a0) := ctrs_of_row (stab_row (B := w.heap.size + 2) (by omega) _ _ (fun l hl _ => fo l hl) HO.out) (by omega)
          have hm := World.ownsMap_made (H := Unit) w9 Try.prog 104 (plainElem Try.prog 2)
          rw [s9] at hm
          have BA : Below w9.heap.size w9 (w9.alloc (.map #[] 0)) := (Below.refl _ _).alloc (Nat.le_refl _) _
          rw [← HQ.out.1, ← HQ.out.2.1, ← HQ.out.2.2]
          exact bodyPost_ret (results_wk rfl _ (w.heap.size + 1) rfl _ _ _ _ ((alloc_oldP _ _ _ (by omega)).trans q9)) rfl ⟨ao, cc, wr.heap.size, rfl, K9.keptC (KeptC.of_below BA), hm, by omega, B9.trans (BA.mono B9.size)⟩

end Go.Proofs.Ytdkgilkjcndonaa
