import Derived.Test.YtkngnmnfkedfcaaGreatTV6
namespace Go.Proofs.YtkngnmnfkedfcaaGreat
open Go.RowKit

theorem or8 (m x : Int) (hm : 0 ≤ m) (hm' : m < 72057594037927936) (hx : 0 ≤ x) (hx' : x < 256) : bits .or .u64 (m * 256) x = m * 256 + x :=
  bits_join .u64 64 (by decide) wraps_u64' 8 (m * 256) x (by omega) (by omega) (by omega) hx hx' (by omega)
/-- The number of the first k of the bytes from a place on, the highest first. -/
def wdK (bs : List Int) (off : Nat) : Nat → Int
  | 0 => 0
  | k + 1 => wdK bs off k * 256 + bs.getD (off + k) 0
theorem wdK_bd (bs : List Int) (hb : ∀ k, 0 ≤ bs.getD k 0 ∧ bs.getD k 0 ≤ 255) (off k : Nat) : 0 ≤ wdK bs off k ∧ wdK bs off k < (256 : Int) ^ k := by
  induction k with
  | zero => simp [wdK]
  | succ k ih =>
    have := hb (off + k)
    rw [wdK, Int.pow_succ]
    omega
theorem wdK_8 (bs : List Int) (hb : ∀ k, 0 ≤ bs.getD k 0 ∧ bs.getD k 0 ≤ 255) (off : Nat) : U64 (wdK bs off 8) := by
  have := wdK_bd bs hb off 8
  unfold U64
  omega
theorem wdK_lt (bs : List Int) (hb : ∀ k, 0 ≤ bs.getD k 0 ∧ bs.getD k 0 ≤ 255) (off k : Nat) (hk : k < 8) : 0 ≤ wdK bs off k ∧ wdK bs off k < 72057594037927936 := by
  have h1 := wdK_bd bs hb off k
  refine ⟨h1.1, ?_⟩
  have h2 : (256 : Int) ^ k ≤ 72057594037927936 := by
    match k, hk with
    | 0, _ | 1, _ | 2, _ | 3, _ | 4, _ | 5, _ | 6, _ | 7, _ => decide
  omega

set_option maxRecDepth 10000 in
set_option maxHeartbeats 1000000 in
theorem l8Word_any (a : Option Addr) (n c : Nat) (bs : List Int) (w : World) (h : Row w a n bs) (hn : 8 ≤ n) (hn2 : n ≤ 9223372036854775807) :
    Calls Tryz.prog 49 #[.slice a n c] w fun e w' => e = .returned (.int .u64 (wdK bs 0 8)) ∧ w' = w := by
  have H0 : Hid (Row w a n bs) := h
  clear h
  go_enter Tryz.func49, Tryz.ntmps49
  go_wp2
  go_loop [3, 4] (fun x i => ∃ (k : Nat) (y : Int), k ≤ 8 ∧ i = .int .i64 k ∧ x = .int .u64 y ∧ Hid (y = wdK bs 0 k)) (fun _ i => 8 - (intOf i).toNat)
  case atStart => exact ⟨0, 0, by decide, rfl, rfl, rfl⟩
  case round =>
    obtain ⟨k, y, hk, rfl, rfl, HY⟩ := hrel
    by_cases hlt : k < 8
    · have hlti : (k : Int) < 8 := by omega
      have hlt2 : (k : Int) < (n : Int) := by omega
      obtain ⟨b, off, rfl, hlb, hc⟩ := H0.out.get k (by omega)
      have hxb := H0.out.byte k
      obtain ⟨x, hx⟩ : ∃ x, x = bs.getD k 0 := ⟨_, rfl⟩
      rw [← hx] at hc hxb
      obtain ⟨hx0, hx1⟩ := hxb
      have hy := wdK_lt bs H0.out.byte 0 k hlt
      rw [← show y = wdK bs 0 k from HY.out] at hy
      obtain ⟨hy0, hy1⟩ := hy
      have hor := or8 y x hy0 hy1 hx0 (by omega)
      have HN : Hid (y * 256 + x = wdK bs 0 (k + 1)) := by show _ = _; rw [wdK, HY.out, hx, Nat.zero_add]
      clear hx
      go_wp2
      refine ⟨⟨k + 1, y * 256 + x, by omega, by go_num, rfl, HN⟩, by simp [intOf]; omega⟩
    · obtain rfl : k = 8 := by omega
      go_wp2
      go_ret
      exact ⟨by rw [HY.out]; rfl, rfl⟩

def dgs (bs : List Int) (n : Nat) : List Int := (List.range n).map fun i => wdK bs (8 * i) 8
theorem dgs_len (bs : List Int) (n : Nat) : (dgs bs n).length = n := by simp [dgs]
theorem dgs_get (bs : List Int) (n i : Nat) (h : i < n) : (dgs bs n).getD i 0 = wdK bs (8 * i) 8 := by simp [dgs, h]
theorem dgs_bd (bs : List Int) (hb : ∀ k, 0 ≤ bs.getD k 0 ∧ bs.getD k 0 ≤ 255) (n : Nat) : ∀ k, U64 ((dgs bs n).getD k 0) := by
  intro k
  by_cases h : k < n
  · rw [dgs_get bs n k h]; exact wdK_8 bs hb _
  · rw [List.getD_eq_getElem?_getD, List.getElem?_eq_none (by rw [dgs_len]; omega)]; simp [U64]

theorem half_keep (zs : List Int) (k : Nat) (hk : k < zs.length) : (half zs k).set k 0 = half zs k := by
  apply List.ext_getElem?
  intro i
  rw [List.getElem?_set]
  by_cases e : k = i
  · subst e
    rw [if_pos rfl]
    unfold half
    rw [List.getElem?_append_right (by simp; omega), List.getElem?_replicate]
    simp [List.length_take, Nat.min_eq_left (Nat.le_of_lt hk)]
  · rw [if_neg e]

set_option maxRecDepth 10000 in
set_option maxHeartbeats 4000000 in
theorem readDigests_any (a : Option Addr) (n c : Nat) (bs : List Int) (w : World) (h : Row w a n bs) (hn : n ≤ 1000000) (hc : n ≤ c) :
    Calls Tryz.prog 128 #[.slice a n c] w fun e w' => ∃ ar, e = .returned (.slice ar (n / 8) (n / 8)) ∧ OwnU w.heap.size w' ar (n / 8) (n / 8) (dgs bs (n / 8)) ∧ Below w.heap.size w w' := by
  obtain ⟨i0, hi, hz0, hz1, hz2⟩ := info_parts Tryz.infoU
  have H0 : Hid (Row w a n bs) := h
  have HL : Hid (bs.length = n) := h.len
  clear h
  obtain ⟨m, hm⟩ : ∃ m, m = n / 8 := ⟨_, rfl⟩
  have HM : Hid (m = n / 8) := hm
  have hmi : (n : Int) / 8 = (m : Int) := by omega
  have hm8 : 8 * m ≤ n := by omega
  rw [← hm]
  clear hm
  have t1 : (n : Int).tdiv 8 = (m : Int) := by rw [Int.tdiv_eq_ediv_of_nonneg (by omega)]; exact hmi
  go_enter Tryz.func128, Tryz.ntmps128
  go_wp2_with (first | (at_make; refine wpList_make_full _ rfl _ _ 87 rfl w.heap.size 48 i0 _ 1 Tryz.underlying87 hi hz0 hz1 _ _ _ _ m rfl rfl rfl rfl (by rw [hz2]; omega) (by unfold maxLen; omega) (by exact Nat.le_refl _) ?_; intro w2 hown hgrow))
  have hbl : Below w.heap.size w w2 := (Below.refl _ _).grown hgrow (Nat.le_refl _) (by simp)
  have HST : Hid (OwnU w.heap.size w2 (some ⟨w.heap.size, 0, none⟩) m m (half (dgs bs m) 0)) := by
    show OwnU _ _ _ _ _ _
    rw [half_zero, dgs_len]
    exact ⟨madeU hown, u64_rep m⟩
  clear hgrow hown
  go_loopw [4, 6, 13] (fun _ _ i wr => ∃ k : Nat, k ≤ m ∧ i = .int .i64 k ∧ Hid (OwnU w.heap.size wr (some ⟨w.heap.size, 0, none⟩) m m (half (dgs bs m) k)) ∧ Below w.heap.size w wr) (fun _ _ i _ => m - (intOf i).toNat)
  case atStart => exact ⟨0, Nat.zero_le _, rfl, HST, hbl⟩
  case round =>
    obtain ⟨k, hk, rfl, HO, hbr⟩ := hrel
    clear HST hbl
    by_cases hlt : k < m
    · have hlti : (k : Int) < (m : Int) := by omega
      have h8k : 8 * k + 8 ≤ n := by omega
      have e8 : 8 * ((k : Int) + 1) = 8 * (k : Int) + 8 := by omega
      have u1 : (8 * (k : Int)).toNat = 8 * k := by omega
      have u2 : (8 * (k : Int) + 8).toNat = 8 * k + 8 := by omega
      have hb0 : 0 ≤ 8 * (k : Int) := by omega
      have hb1 : 8 * (k : Int) + 8 ≤ (n : Int) := by omega
      have hb2 : 8 * (k : Int) + 8 ≤ (c : Int) := by omega
      obtain ⟨b, off, rfl, hlb, _⟩ := H0.out.get (8 * k) (by omega)
      go_upto_region 5 with fail
      have hHL : k < (dgs bs m).length := by rw [dgs_len]; exact hlt
      have HI : Hid (OwnU w.heap.size wr (some ⟨w.heap.size, 0, none⟩) m m ((half (dgs bs m) k).set k (wdK bs (8 * k) 0))) := by
        show OwnU _ _ _ _ _ _
        rw [wdK, half_keep _ _ hHL]
        exact HO.out
      have HBR : Hid (Below w.heap.size w wr) := hbr
      clear HO hbr
      go_wp2
      go_loopw [6, 24] (fun _ i wx => ∃ j : Nat, j ≤ 8 ∧ i = .int .i64 j ∧ Hid (OwnU w.heap.size wx (some ⟨w.heap.size, 0, none⟩) m m ((half (dgs bs m) k).set k (wdK bs (8 * k) j))) ∧ Below w.heap.size w wx) (fun _ i _ => 8 - (intOf i).toNat)
      case atStart => exact ⟨0, by decide, rfl, HI, HBR.out⟩
      case round =>
        obtain ⟨j, hj, rfl, HJ, hbx⟩ := hrel
        clear HI HBR
        by_cases hjl : j < 8
        · have hjli : (j : Int) < 8 := by omega
          obtain ⟨b', off', hbe, hlb', hc0⟩ := H0.out.get (8 * k + j) (by omega)
          simp only [Option.some.injEq, Addr.mk.injEq, and_true] at hbe
          obtain ⟨rfl, rfl⟩ := hbe
          have hcx : wr.cell? ⟨b, off + 8 * k + j, none⟩ = some (.int .u8 (bs.getD (8 * k + j) 0)) := by rw [Nat.add_assoc]; exact (hbx.cell (p := ⟨b, off + (8 * k + j), none⟩) hlb).trans hc0
          have hxb := H0.out.byte (8 * k + j)
          obtain ⟨x, hx⟩ : ∃ x, x = bs.getD (8 * k + j) 0 := ⟨_, rfl⟩
          rw [← hx] at hcx hxb
          obtain ⟨hx0, hx1⟩ := hxb
          have hy := wdK_lt bs H0.out.byte (8 * k) j hjl
          have hlen : (half (dgs bs m) k).length = m := by rw [half_len _ _ (by omega), dgs_len]
          obtain ⟨y, hyy⟩ : ∃ y, y = wdK bs (8 * k) j := ⟨_, rfl⟩
          have HN : Hid (y * 256 + x = wdK bs (8 * k) (j + 1)) := by show _ = _; rw [wdK, ← hyy, hx]
          have hcy : wr.cell? ⟨w.heap.size, k, none⟩ = some (.int .u64 y) := by
            rw [HJ.out.row.cellAt k (by omega), ← hyy, List.getElem?_map, List.getElem?_set]
            simp [hlen, hlt]
          rw [← hyy] at hy
          obtain ⟨hy0, hy1⟩ := hy
          have hor := or8 y x hy0 hy1 hx0 (by omega)
          have hfr : wr.frozen? ⟨w.heap.size, k, none⟩ = false := HJ.out.row.frozenAt k
          have hs := (HJ.out.row.stored k (.int .u64 (y * 256 + x))).1
          rw [← List.map_set, List.set_set, HN.out] at hs
          have hrg := u64_set (u64_half (dgs_bd bs H0.out.byte m) k) k (x := wdK bs (8 * k) (j + 1)) (by have h1 := wdK_bd bs H0.out.byte (8 * k) (j + 1); rw [← HN.out] at h1 ⊢; unfold U64; omega)
          have HNX : Hid (OwnU w.heap.size (wr.setCell ⟨w.heap.size, k, none⟩ (.int .u64 (y * 256 + x))) (some ⟨w.heap.size, 0, none⟩) m m ((half (dgs bs m) k).set k (wdK bs (8 * k) (j + 1)))) := ⟨by rw [HN.out]; exact hs, hrg⟩
          have HBN : Hid (Below w.heap.size w (wr.setCell ⟨w.heap.size, k, none⟩ (.int .u64 (y * 256 + x)))) := hbx.setCell (Nat.le_refl _) _
          clear hs hrg HJ hbx hx hyy hc0 hlb'
          go_wp2
          refine ⟨⟨j + 1, by omega, by go_num, HNX, HBN.out⟩, by simp [intOf]; omega⟩
        · obtain rfl : j = 8 := by omega
          have HNX : Hid (OwnU w.heap.size wr (some ⟨w.heap.size, 0, none⟩) m m (half (dgs bs m) (k + 1))) := by
            have := HJ.out
            rw [← dgs_get bs m k hlt, half_set _ _ hHL] at this
            exact this
          clear HJ
          go_wp2
          refine ⟨⟨k + 1, by omega, by go_num, HNX, hbx⟩, by simp [intOf]; omega⟩
    · obtain rfl : k = m := by omega
      have HR : Hid (OwnU w.heap.size wr (some ⟨w.heap.size, 0, none⟩) k k (dgs bs k)) := by
        have := HO.out
        have e := half_all (dgs bs k)
        rw [dgs_len] at e
        rwa [e] at this
      go_wp2
      go_ret
      exact ⟨_, rfl, HR.out, hbr⟩

end Go.Proofs.YtkngnmnfkedfcaaGreat
