import Derived.Test.YtpnaopmpiobemaaC1
import Derived.Laws.Tables
import Derived.Laws.CopyOwn
import Derived.Deep.Cut
namespace Go.Proofs.Ytpnaopmpiobemaa
open Go.RowKit

theorem Try.info2 : (Try.prog.info? 79).map (·.size) = some 2 := by kernel_rfl
def arP (p0 p1 : Int) (k : Nat) : Array Value := #[.int .i64 (if 0 < k then p0 else 0), .int .i64 (if 1 < k then p1 else 0)]
theorem arP_set (p0 p1 : Int) (k : Nat) (h : k < 2) (p : Int) (hp : p = if k = 0 then p0 else p1) : (arP p0 p1 k).setIfInBounds k (.int .i64 p) = arP p0 p1 (k + 1) := by
  subst hp
  match k, h with
  | 0, _ => rfl
  | 1, _ => rfl
theorem arP_get (p0 p1 : Int) (k : Nat) (h : k < 2) : ∃ z, (arP p0 p1 k)[k]? = some z := by
  match k, h with
  | 0, _ => exact ⟨_, rfl⟩
  | 1, _ => exact ⟨_, rfl⟩

set_option maxRecDepth 10000 in
set_option maxHeartbeats 4000000 in
theorem rowPlaces_any (i m x : Int) (w : World) (hx : 0 ≤ x ∧ x ≤ 18446744073709551615) (hl : i ≤ 9223372036854775807) (hm0 : 0 < m) (hm1 : m ≤ 9223372036854775807) :
    Calls Try.prog 53 #[.int .i64 i, .int .i64 m, .int .u64 x] w fun e w' => e = .returned (.agg #[.int .i64 (plP i 0 x m), .int .i64 (plP i 1 x m)]) ∧ Below w.heap.size w w' := by
  obtain ⟨p0, hp0⟩ : ∃ p, p = plP i 0 x m := ⟨_, rfl⟩
  obtain ⟨p1, hp1⟩ : ∃ p, p = plP i 1 x m := ⟨_, rfl⟩
  have HP0 : Hid (p0 = plP i 0 x m) := hp0
  have HP1 : Hid (p1 = plP i 1 x m) := hp1
  rw [← hp0, ← hp1]
  clear hp0 hp1
  obtain ⟨wb, hwb⟩ : ∃ wb, wb = (w.alloc (.cells #[.int .i64 0, .int .i64 0] 79)).alloc (.cells #[.int .i64 0, .int .i64 0] 79) := ⟨_, rfl⟩
  have HG1 : Hid (wb.heap[w.heap.size + 1]? = some (.cells #[.int .i64 0, .int .i64 0] 79)) := by show _ = _; rw [hwb]; have := heap_alloc_new (w.alloc (.cells #[.int .i64 0, .int .i64 0] 79)) (.cells #[.int .i64 0, .int .i64 0] 79 (0, 0)); simpa using this
  have HG0 : Hid (wb.heap[w.heap.size]? = some (.cells #[.int .i64 0, .int .i64 0] 79)) := by show _ = _; rw [hwb]; exact (((Below.refl _ _).alloc (Nat.le_refl _) _).block w.heap.size (by simp)).trans (heap_alloc_new w _)
  have HB1 : Hid (Below w.heap.size w wb) := by rw [hwb]; exact ((Below.refl _ _).alloc (Nat.le_refl _) _).alloc (by simp) _
  have HWB : Hid (_ = _) := hwb
  clear hwb
  go_enter Try.func53, Try.ntmps53
  go_wp2
  rw [← HWB.out]
  clear HWB
  go_loopw [10] (fun j wr => ∃ k : Nat, k ≤ 2 ∧ j = .int .i64 k ∧ Hid (wr.heap[w.heap.size + 1]? = some (.cells (arP p0 p1 k) 79)) ∧ Hid (wr.heap[w.heap.size]? = some (.cells #[.int .i64 0, .int .i64 0] 79)) ∧ Hid (Below w.heap.size w wr)) (fun j _ => (2 - (intOf j)).toNat)
  case atStart => exact ⟨0, by decide, rfl, HG1, HG0, HB1⟩
  case round =>
    obtain ⟨k, hk, rfl, HA, HZ, HB⟩ := hrel
    clear HG1 HG0 HB1
    by_cases hlt : k < 2
    · have hcv := Lib.run_convert_bytes_const (P := Try.prog) wr 41 5 #[.int .u8 112, .int .u8 108, .int .u8 97, .int .u8 99, .int .u8 101] 5 5 Try.underlying41 Try.underlying5
      have hrw : Row (wr.alloc (.cells #[.int .u8 112, .int .u8 108, .int .u8 97, .int .u8 99, .int .u8 101] 5 (5, 6))) (some ⟨wr.heap.size, 0, none⟩) 5 plW := row_word wr plW (5, 6) plW_byte
      have hb0 : Below wr.heap.size wr (wr.alloc (.cells #[.int .u8 112, .int .u8 108, .int .u8 97, .int .u8 99, .int .u8 101] 5 (5, 6))) := (Below.refl _ _).alloc (Nat.le_refl _) _
      have hki : (k : Int) ≤ 9223372036854775807 := by omega
      have HT : Hid (_ ≤ _) := pl_total i k x hl hki
      have HWR : Hid (Below w.heap.size w wr) := HB
      go_wp2_with fail
      clear hcv
      obtain ⟨w0, hw0⟩ : ∃ w0, w0 = wr.alloc (.cells #[.int .u8 112, .int .u8 108, .int .u8 97, .int .u8 99, .int .u8 101] 5 (5, 6)) := ⟨_, rfl⟩
      rw [← hw0] at hrw hb0 ⊢
      clear hw0
      refine (implPutNum_any i _ hl).mono ?_
      rintro e w1 ⟨a1, c1, rfl, ho1, hb1⟩
      obtain ⟨n1, hn1⟩ : ∃ n1, n1 = (putI i).length := ⟨_, rfl⟩
      rw [← hn1] at ho1 ⊢
      clear hn1
      go_wp2_with fail
      refine (implPutNum_any k _ hki).mono ?_
      rintro e w2 ⟨a2, c2, rfl, ho2, hb2⟩
      obtain ⟨n2, hn2⟩ : ∃ n2, n2 = (putI k).length := ⟨_, rfl⟩
      rw [← hn2] at ho2 ⊢
      clear hn2
      go_wp2_with fail
      refine (digestBytes_any x _ hx.1 hx.2).mono ?_
      rintro e w3 ⟨g3, rfl, hr3, _, hb3⟩
      have D3 : Below w1.heap.size w1 w3 := keepT hb2 hb3
      have B3 : Below w0.heap.size w0 w3 := keepT hb1 D3
      have B3' : Below wr.heap.size wr w3 := keepT hb0 B3
      have HRS : Hid (Rows2 (w3.alloc (.cells #[.slice (some ⟨wr.heap.size, 0, none⟩) 5 5, .slice a1 n1 c1, .slice a2 n2 c2, .slice (some ⟨g3, 0, none⟩) 8 8] 41)) (some ⟨w3.heap.size, 0, none⟩) 4 [plW, putI i, putI k, eightI x]) := by
        refine rows2_lit w3 [(some ⟨wr.heap.size, 0, none⟩, 5, 5, plW), (a1, n1, c1, putI i), (a2, n2, c2, putI k), (some ⟨g3, 0, none⟩, 8, 8, eightI x)] 41 ?_
        intro p hp
        simp only [List.mem_cons, List.not_mem_nil, or_false] at hp
        rcases hp with rfl | rfl | rfl | rfl
        · exact ⟨hrw.kept B3, fun h => by cases h⟩
        · exact ⟨(ho1.kept D3).toRow, ho1.nil⟩
        · exact ⟨(ho2.kept hb3).toRow, ho2.nil⟩
        · exact ⟨hr3, fun h => by cases h⟩
      have B4 : Below wr.heap.size wr (w3.alloc (.cells #[.slice (some ⟨wr.heap.size, 0, none⟩) 5 5, .slice a1 n1 c1, .slice a2 n2 c2, .slice (some ⟨g3, 0, none⟩) 8 8] 41)) := B3'.alloc B3'.size _
      clear ho1 ho2 hr3 hrw
      go_wp2_with fail
      refine (implHashParts_any _ 4 4 [plW, putI i, putI k, eightI x] _ HRS.out (by decide) HT.out).mono ?_
      rintro e w4 ⟨rfl, hb4⟩
      obtain ⟨hh, hhe⟩ : ∃ hh, hh = hashL (partsL [plW, putI i, putI k, eightI x]) := ⟨_, rfl⟩
      have hbd := hashL_bd (partsL [plW, putI i, putI k, eightI x])
      have HE : Hid (hh % m = plP i k x m) := by show _ = _; rw [hhe]; rfl
      rw [← hhe] at hbd ⊢
      clear hhe
      obtain ⟨hh0, hh1⟩ := hbd
      have hr0 : 0 ≤ hh % m := Int.emod_nonneg _ (by omega)
      have hr1 : hh % m < m := Int.emod_lt_of_pos _ hm0
      have BB : Below wr.heap.size wr w4 := keepT B4 hb4
      have G0 := (BB.block _ (Array.getElem?_eq_some_iff.1 HZ.out).1).trans HZ.out
      have G1 := (BB.block _ (Array.getElem?_eq_some_iff.1 HA.out).1).trans HA.out
      obtain ⟨z, hz⟩ := arP_get p0 p1 k hlt
      have kq : w4.cell? ⟨w.heap.size + 1, k, none⟩ = some z := (cell_of_row _ _ k _ 79 (0, 0) G1).trans hz
      have fq : w4.frozen? ⟨w.heap.size + 1, k, none⟩ = false := frozen_of_row w4 _ k _ 79 G1
      have HW : Hid (Below w.heap.size w w4) := keepT HB.out BB
      have HG0 : Hid (_ = _) := G0
      have HG1 : Hid (_ = _) := G1
      clear G0 G1 HA HZ HB BB B4 B3 B3' D3 hb0 hb1 hb2 hb3 hb4 HRS HT HWR hz
      go_wp2
      go_roundw
      case rel =>
        have hs := heap_setCell_same w4 (w.heap.size + 1) k _ 79 (.int .i64 (hh % m)) HG1.out
        have hp : hh % m = if k = 0 then p0 else p1 := by
          rw [HE.out]
          by_cases e : k = 0
          · subst e; rw [if_pos rfl, HP0.out]; rfl
          · obtain rfl : k = 1 := by omega
            rw [if_neg (by decide), HP1.out]; rfl
        rw [arP_set p0 p1 k hlt _ hp] at hs
        exact ⟨k + 1, by omega, by go_num, hs, (Below.heap_setCell _ _ _ _ (by simp)).trans HG0.out, HW.out.setCell (by simp) _⟩
      case measure => simp [intOf]; omega
    · obtain rfl : k = 2 := by omega
      go_upto_region 8 with fail
      rename_i K0 hK0
      apply wp_region_lit
      refine wpList_load_row rfl 79 _ rfl (w.heap.size + 1) rfl 79 _ (0, 0) _ HA.out Try.underlying79 rfl Try.info2 ?_
      refine wpList_store_row rfl 79 _ _ rfl w.heap.size #[.int .i64 p0, .int .i64 p1] rfl rfl 79 _ HZ.out Try.info2 rfl (by simp [Value.oneCell']) ?_
      apply wpList_nil
      refine hK0 _ _ ?_
      have hf := setRow_heap wr w.heap.size _ #[.int .i64 p0, .int .i64 p1] 79 _ HZ.out
      have hB := HB.out
      go_wp2
      try simp only [Exit.inBlock, Exit.then]
      exact bodyPost_ret (results_cell_row rfl _ _ w.heap.size 79 #[.int .i64 p0, .int .i64 p1] (0, 0) _ rfl hf Try.underlying79 rfl Try.info2) rfl ⟨rfl, below_setRow hB (Nat.le_refl _) _⟩

end Go.Proofs.Ytpnaopmpiobemaa
