import Derived.Test.YtkngnmnfkedfcaaGreatTV1
namespace Go.Proofs.YtkngnmnfkedfcaaGreat
open Go.RowKit

theorem cell_one64 (w : World) (x : Int) : ∀ jj uu, ([x].map (Value.int .i64))[jj]? = some uu → (w.alloc (.cells #[.int .i64 x] 2)).cell? ((⟨w.heap.size, 0, none⟩ : Addr).add jj) = some uu := by
  intro jj uu hju
  rw [Addr.add_lit, Nat.zero_add, cell_of_row _ w.heap.size jj _ 2 _ (heap_alloc_new w _), ← hju]
  simp
theorem cell_two64 (w : World) (x y : Int) : ∀ jj uu, ([x, y].map (Value.int .i64))[jj]? = some uu → (w.alloc (.cells #[.int .i64 x, .int .i64 y] 2)).cell? ((⟨w.heap.size, 0, none⟩ : Addr).add jj) = some uu := by
  intro jj uu hju
  rw [Addr.add_lit, Nat.zero_add, cell_of_row _ w.heap.size jj _ 2 _ (heap_alloc_new w _), ← hju]
  simp
theorem slice_of_owns {B : Nat} {w : World} {v : Value} {n : Nat} {xs : List Value} {t : TypeId} (h : w.ownsRow B t 1 v n xs) : ∃ a cap, v = .slice a n cap := by
  rcases h.2 with ⟨rfl, rfl⟩ | ⟨g, cap, cur, rfl, _⟩
  · exact ⟨_, _, rfl⟩
  · exact ⟨_, _, rfl⟩
theorem row64_of_owns {B : Nat} {w : World} {a : Option Addr} {n cap : Nat} {zs : List Int} (h : w.ownsRow B 2 1 (.slice a n cap) n (zs.map (Value.int .i64))) : Row64 w a n zs := by
  have hl : zs.length = n := by simpa using h.1
  refine ⟨hl, fun k hk => ?_⟩
  rcases h.2 with ⟨_, h0⟩ | ⟨g, cap', cur, hv, hb, hg, r⟩
  · omega
  · simp only [Value.slice.injEq] at hv
    obtain ⟨rfl, _, rfl⟩ := hv
    refine ⟨g, 0, rfl, (Array.getElem?_eq_some_iff.1 hg).1, ?_⟩
    rw [Nat.zero_add, World.ownsRow.cellAt h k (by omega)]
    simp [show k < zs.length by omega]
theorem pow_16 (k : Nat) : (2 : Int) ^ (4 * k) = (16 : Int) ^ k := by rw [Int.pow_mul]; rfl

set_option maxRecDepth 10000 in
set_option maxHeartbeats 4000000 in
theorem l8Digits_any (a : Option Addr) (n c : Nat) (bs : List Int) (w : World) (hr : Row w a n bs) (hn : n ≤ 1000000000000) :
    Calls Tryz.prog 72 #[.slice a n c] w fun e w' => ∃ ad cd, e = .returned (.slice ad 18 cd) ∧ Row64 w' ad 18 (diL (hashL bs)) ∧ Below w.heap.size w w' := by
  obtain ⟨i0, hi, hz0, hz1, hz2⟩ := info_parts Tryz.info2
  have hU := hashL_bd bs
  obtain ⟨h, hh⟩ : ∃ h, h = hashL bs := ⟨_, rfl⟩
  have HH : Hid (hashL bs = h) := hh.symm
  rw [← hh] at hU ⊢
  clear hh
  have hoe : (w.alloc (.cells #[] 2)).ownsRow w.heap.size 2 1 (.slice (some ⟨w.heap.size, 0, none⟩) 0 0) 0 [] := World.ownsRow_lit w #[] 0 (Nat.le_refl _) (Nat.zero_le _) rfl
  have hbe : Below w.heap.size w (w.alloc (.cells #[] 2)) := (Below.refl _ _).alloc (Nat.le_refl _) _
  go_enter Tryz.func72, Tryz.ntmps72
  go_upto_region 1 with fail
  go_wp2_with fail
  refine (specHash_any a n c bs _ hr hn).mono ?_
  rintro e w1 ⟨rfl, hw1⟩
  have hw2 := hw1.symm
  subst hw2
  rw [HH.out]
  clear hr HH
  go_wp2
  go_loopw [4, 5, 6, 7] (fun o s i _ wr => ∃ (ao : Option Addr) (q len cap : Nat) (y : Int), q ≤ 16 ∧ len = 16 - q ∧ i = .int .i64 ((q : Int) - 1) ∧ o = .slice ao len cap ∧ s = .int .i64 y ∧ Hid (y = sumU h (16 - q)) ∧ wr.ownsRow w.heap.size 2 1 (.slice ao len cap) len (((diL h).take (16 - q)).map (Value.int .i64)) ∧ Below w.heap.size w wr) (fun _ _ i _ _ => ((intOf i) + 1).toNat)
  case atStart => exact ⟨_, 16, 0, 0, 0, Nat.le_refl _, rfl, rfl, rfl, rfl, rfl, hoe, hbe⟩
  case round =>
    obtain ⟨ao, q, len, cap, y, hq, hle, rfl, rfl, rfl, HY, hor, hbr⟩ := hrel
    have HLe : Hid (len = 16 - q) := hle
    clear hle hoe hbe
    have hws : w.heap.size ≤ wr.heap.size := hbr.size
    rcases q with _ | q
    · obtain rfl : len = 16 := HLe.out
      have hy := sumU_bd h 16
      have HY2 : Hid (y = sumF h 16) := by show _ = _; rw [HY.out, ← sum_same h]
      rw [← show y = sumU h 16 from HY.out] at hy
      obtain ⟨hy0, hy1⟩ := hy
      have hal : Below wr.heap.size wr (wr.alloc (.cells #[.int .i64 (y / 16), .int .i64 (y % 16)] 2)) := (Below.refl _ _).alloc (Nat.le_refl _) _
      have hor4 := ownsRow_below hor hal
      have hbr4 := keepT hbr hal
      have hcl := cell_two64 wr (y / 16) (y % 16)
      have t1 : y.tdiv 16 = y / 16 := Int.tdiv_eq_ediv_of_nonneg hy0
      have t2 : y.tmod 16 = y % 16 := Int.tmod_eq_emod_of_nonneg hy0
      clear hal
      go_wp2_with (first | (at_builtin; refine wpList_append_own _ rfl (.tmp 30) (.tmp 35) 29 rfl w.heap.size 2 i0 _ 1 8 Tryz.underlying29 hi hz0 hz1 hz2 rfl (by decide) _ 16 _ rfl hor4 ⟨wr.heap.size, 0, none⟩ 2 2 ([y / 16, y % 16].map (Value.int .i64)) rfl rfl hcl (ints_oneCell .i64 [y / 16, y % 16]) (by unfold maxLen; omega) (by omega) (by have := hbr4.size; exact this) ?_; intro v5 w5 hv5 hg5 _))
      have hbr5 : Below w.heap.size w w5 := hbr4.grown hg5 hbr4.size (fun k hk => (hor4.lt k hk).1)
      have e1 : ((diL h).take (16 - 0)).map (Value.int .i64) ++ [y / 16, y % 16].map (Value.int .i64) = (diL h).map (Value.int .i64) := by
        rw [← List.map_append]
        congr 1
        rw [HY2.out]
        rfl
      rw [e1] at hv5
      obtain ⟨a5, c5, rfl⟩ := slice_of_owns hv5
      go_wp2
      go_ret
      exact ⟨a5, ⟨c5, rfl⟩, row64_of_owns hv5, hbr5⟩
    · have e1 : ((q + 1 : Nat) : Int) - 1 = (q : Int) := by omega
      rw [e1]
      clear e1
      have hq16 : q < 16 := by omega
      have hl9 : len ≤ 18 := by have := HLe.out; omega
      have hx0 : 0 ≤ h / 2 ^ (4 * q) := Int.ediv_nonneg hU.1 (Int.le_of_lt (Int.pow_pos (by decide)))
      have hx1 : h / 2 ^ (4 * q) ≤ 18446744073709551615 := Int.le_trans (Int.ediv_le_self _ hU.1) hU.2
      have ha := and15 _ hx0 hx1
      have hdd : h / 2 ^ (4 * q) % 16 = digI h (15 - q) := by unfold digI; rw [show 15 - (15 - q) = q by omega, pow_16]
      obtain ⟨d, hd⟩ : ∃ d, d = digI h (15 - q) := ⟨_, rfl⟩
      have hdb := digI_bd h (15 - q)
      rw [hdd, ← hd] at ha
      rw [← hd] at hdb
      obtain ⟨hd0, hd1⟩ := hdb
      have HD : Hid (d = digI h (15 - q)) := hd
      clear hd hdd hx0 hx1
      have hyb := sumU_bd h (16 - (q + 1))
      rw [← show y = sumU h (16 - (q + 1)) from HY.out] at hyb
      obtain ⟨hy0, hy1⟩ := hyb
      have hy2 : y ≤ 1000 := by omega
      clear hy1
      have hal : Below wr.heap.size wr (wr.alloc (.cells #[.int .i64 d] 2)) := (Below.refl _ _).alloc (Nat.le_refl _) _
      have hor4 := ownsRow_below hor hal
      have hbr4 := keepT hbr hal
      have hcl := cell_one64 wr d
      clear hal hor
      go_wp2_with (first | (at_builtin; refine wpList_append_own _ rfl (.tmp 22) (.tmp 24) 29 rfl w.heap.size 2 i0 _ 1 8 Tryz.underlying29 hi hz0 hz1 hz2 rfl (by decide) _ len _ rfl hor4 ⟨wr.heap.size, 0, none⟩ 1 1 ([d].map (Value.int .i64)) rfl rfl hcl (ints_oneCell .i64 [d]) (by unfold maxLen; omega) (by omega) (by have := hbr4.size; exact this) ?_; intro v5 w5 hv5 hg5 _))
      have hbr5 : Below w.heap.size w w5 := hbr4.grown hg5 hbr4.size (fun k hk => (hor4.lt k hk).1)
      have e1 : ((diL h).take (16 - (q + 1))).map (Value.int .i64) ++ [d].map (Value.int .i64) = ((diL h).take (16 - q)).map (Value.int .i64) := by
        rw [← List.map_append]
        congr 1
        have hg : (diL h).getD (16 - (q + 1)) 0 = d := by rw [HD.out, show 16 - (q + 1) = 15 - q by omega, List.getD_eq_getElem?_getD, diL, List.getElem?_append_left (by simp; omega), List.getElem?_map, List.getElem?_range (by omega)]; rfl
        rw [show 16 - q = 16 - (q + 1) + 1 by omega, take_snoc _ _ (by rw [diL_len]; omega), hg]
      rw [e1] at hv5
      obtain ⟨a5, c5, rfl⟩ := slice_of_owns hv5
      clear hor4 hbr4 hcl hg5
      go_roundw
      case rel => exact ⟨a5, q, len + 1, c5, _, by omega, by have := HLe.out; omega, rfl, rfl, rfl, by show _ = _; rw [HY.out, show 16 - q = 16 - (q + 1) + 1 by omega, sumU, HD.out, show 16 - (q + 1) = 15 - q by omega]; omega, hv5, hbr5⟩
      case measure => simp [intOf]

end Go.Proofs.YtkngnmnfkedfcaaGreat
