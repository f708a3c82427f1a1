import Derived.Test.YtmoekmonkpihhaaGreatTV6
import Derived.Test.YtmoekmonkpihhaaGreatTT4
import Derived.Test.YtmoekmonkpihhaaGreatTTD
import Derived.Test.YtmoekmonkpihhaaGreatTTE
import Derived.Test.YtmoekmonkpihhaaGreatW2
import Derived.Test.YtmoekmonkpihhaaGreatGH2
import Derived.Deep.RegionHeldLaw
import Derived.Test.YtmoekmonkpihhaaGreatTV7
import Derived.Test.YtmoekmonkpihhaaGreatTV5
namespace Go.Proofs.YtmoekmonkpihhaaGreat
open Go.RowKit

theorem or8 (m x : Int) (hm : 0 ≤ m) (hm' : m < 72057594037927936) (hx : 0 ≤ x) (hx' : x < 256) : bits .or .u64 (m * 256) x = m * 256 + x :=
  bits_join .u64 64 (by decide) wraps_u64' 8 (m * 256) x (by omega) (by omega) (by omega) hx hx' (by omega)
/-- The number of the first k of the bytes from a place on, the highest first. -/
def wdK (bs : List Int) (off : Nat) : Nat → Int
  | 0 => 0
  | k + 1 => wdK bs off k * 256 + bs.getD (off + k) 0
theorem wdK_bd (bs : List Int) (hb : ∀ k, 0 ≤ bs.getD k 0 ∧ bs.getD k 0 ≤ 255) (off k : Nat) : 0 ≤ wdK bs off k ∧ wdK bs off k < (256 : Int) ^ k := by
  induction k with
  | zero => simp [wdK]
  | succ k ih =>
    have := hb (off + k)
    rw [wdK, Int.pow_succ]
    omega
theorem wdK_8 (bs : List Int) (hb : ∀ k, 0 ≤ bs.getD k 0 ∧ bs.getD k 0 ≤ 255) (off : Nat) : U64 (wdK bs off 8) := by
  have := wdK_bd bs hb off 8
  unfold U64
  omega
theorem wdK_lt (bs : List Int) (hb : ∀ k, 0 ≤ bs.getD k 0 ∧ bs.getD k 0 ≤ 255) (off k : Nat) (hk : k < 8) : 0 ≤ wdK bs off k ∧ wdK bs off k < 72057594037927936 := by
  have h1 := wdK_bd bs hb off k
  refine ⟨h1.1, ?_⟩
  have h2 : (256 : Int) ^ k ≤ 72057594037927936 := by
    match k, hk with
    | 0, _ | 1, _ | 2, _ | 3, _ | 4, _ | 5, _ | 6, _ | 7, _ => decide
  omega

set_option maxRecDepth 10000 in
set_option maxHeartbeats 1000000 in
theorem l8Word_any (a : Option Addr) (n c : Nat) (bs : List Int) (w : World) (h : Row w a n bs) (hn : 8 ≤ n) (hn2 : n ≤ 9223372036854775807) :
    Calls Tryz.prog 68 #[.slice a n c] w fun e w' => e = .returned (.int .u64 (wdK bs 0 8)) ∧ w' = w := by
  have H0 : Hid (Row w a n bs) := h
  clear h
  go_enter Tryz.func68, Tryz.ntmps68
  go_wp2
  go_loop [3, 4] (fun x i => ∃ (k : Nat) (y : Int), k ≤ 8 ∧ i = .int .i64 k ∧ x = .int .u64 y ∧ Hid (y = wdK bs 0 k)) (fun _ i => 8 - (intOf i).toNat)
  case atStart => exact ⟨0, 0, by decide, rfl, rfl, rfl⟩
  case round =>
    obtain ⟨k, y, hk, rfl, rfl, HY⟩ := hrel
    by_cases hlt : k < 8
    · have hlti : (k : Int) < 8 := by omega
      have hlt2 : (k : Int) < (n : Int) := by omega
      obtain ⟨b, off, rfl, hlb, hc⟩ := H0.out.get k (by omega)
      have hxb := H0.out.byte k
      obtain ⟨x, hx⟩ : ∃ x, x = bs.getD k 0 := ⟨_, rfl⟩
      rw [← hx] at hc hxb
      obtain ⟨hx0, hx1⟩ := hxb
      have hy := wdK_lt bs H0.out.byte 0 k hlt
      rw [← show y = wdK bs 0 k from HY.out] at hy
      obtain ⟨hy0, hy1⟩ := hy
      have hor := or8 y x hy0 hy1 hx0 (by omega)
      have HN : Hid (y * 256 + x = wdK bs 0 (k + 1)) := by show _ = _; rw [wdK, HY.out, hx, Nat.zero_add]
      clear hx
      go_wp2
      refine ⟨⟨k + 1, y * 256 + x, by omega, by go_num, rfl, HN⟩, by simp [intOf]; omega⟩
    · obtain rfl : k = 8 := by omega
      go_wp2
      go_ret
      exact ⟨by rw [HY.out]; rfl, rfl⟩

def dgs (bs : List Int) (n : Nat) : List Int := (List.range n).map fun i => wdK bs (8 * i) 8
theorem dgs_len (bs : List Int) (n : Nat) : (dgs bs n).length = n := by simp [dgs]
theorem dgs_get (bs : List Int) (n i : Nat) (h : i < n) : (dgs bs n).getD i 0 = wdK bs (8 * i) 8 := by simp [dgs, h]
theorem dgs_bd (bs : List Int) (hb : ∀ k, 0 ≤ bs.getD k 0 ∧ bs.getD k 0 ≤ 255) (n : Nat) : ∀ k, U64 ((dgs bs n).getD k 0) := by
  intro k
  by_cases h : k < n
  · rw [dgs_get bs n k h]; exact wdK_8 bs hb _
  · rw [List.getD_eq_getElem?_getD, List.getElem?_eq_none (by rw [dgs_len]; omega)]; simp [U64]

theorem half_keep (zs : List Int) (k : Nat) (hk : k < zs.length) : (half zs k).set k 0 = half zs k := by
  apply List.ext_getElem?
  intro i
  rw [List.getElem?_set]
  by_cases e : k = i
  · subst e
    rw [if_pos rfl]
    unfold half
    rw [List.getElem?_append_right (by simp; omega), List.getElem?_replicate]
    simp [List.length_take, Nat.min_eq_left (Nat.le_of_lt hk)]
  · rw [if_neg e]

set_option maxRecDepth 10000 in
set_option maxHeartbeats 4000000 in
theorem readDigests_any (a : Option Addr) (n c : Nat) (bs : List Int) (w : World) (h : Row w a n bs) (hn : n ≤ 1000000) (hc : n ≤ c) :
    Calls Tryz.prog 160 #[.slice a n c] w fun e w' => ∃ ar, e = .returned (.slice ar (n / 8) (n / 8)) ∧ OwnU w.heap.size w' ar (n / 8) (n / 8) (dgs bs (n / 8)) ∧ Below w.heap.size w w' := by
  obtain ⟨i0, hi, hz0, hz1, hz2⟩ := info_parts Tryz.infoU
  have H0 : Hid (Row w a n bs) := h
  have HL : Hid (bs.length = n) := h.len
  clear h
  obtain ⟨m, hm⟩ : ∃ m, m = n / 8 := ⟨_, rfl⟩
  have HM : Hid (m = n / 8) := hm
  have hmi : (n : Int) / 8 = (m : Int) := by omega
  have hm8 : 8 * m ≤ n := by omega
  rw [← hm]
  clear hm
  have t1 : (n : Int).tdiv 8 = (m : Int) := by rw [Int.tdiv_eq_ediv_of_nonneg (by omega)]; exact hmi
  go_enter Tryz.func160, Tryz.ntmps160
  go_wp2_with (first | (at_make; refine wpList_make_full _ rfl _ _ 28 rfl w.heap.size 22 i0 _ 1 Tryz.underlying28 hi hz0 hz1 _ _ _ _ m rfl rfl rfl rfl (by rw [hz2]; omega) (by unfold maxLen; omega) (by exact Nat.le_refl _) ?_; intro w2 hown hgrow))
  have hbl : Below w.heap.size w w2 := (Below.refl _ _).grown hgrow (Nat.le_refl _) (by simp)
  have HST : Hid (OwnU w.heap.size w2 (some ⟨w.heap.size, 0, none⟩) m m (half (dgs bs m) 0)) := by
    show OwnU _ _ _ _ _ _
    rw [half_zero, dgs_len]
    exact ⟨madeU hown, u64_rep m⟩
  clear hgrow hown
  go_loopw [4, 6, 13] (fun _ _ i wr => ∃ k : Nat, k ≤ m ∧ i = .int .i64 k ∧ Hid (OwnU w.heap.size wr (some ⟨w.heap.size, 0, none⟩) m m (half (dgs bs m) k)) ∧ Below w.heap.size w wr) (fun _ _ i _ => m - (intOf i).toNat)
  case atStart => exact ⟨0, Nat.zero_le _, rfl, HST, hbl⟩
  case round =>
    obtain ⟨k, hk, rfl, HO, hbr⟩ := hrel
    clear HST hbl
    by_cases hlt : k < m
    · have hlti : (k : Int) < (m : Int) := by omega
      have h8k : 8 * k + 8 ≤ n := by omega
      have e8 : 8 * ((k : Int) + 1) = 8 * (k : Int) + 8 := by omega
      have u1 : (8 * (k : Int)).toNat = 8 * k := by omega
      have u2 : (8 * (k : Int) + 8).toNat = 8 * k + 8 := by omega
      have hb0 : 0 ≤ 8 * (k : Int) := by omega
      have hb1 : 8 * (k : Int) + 8 ≤ (n : Int) := by omega
      have hb2 : 8 * (k : Int) + 8 ≤ (c : Int) := by omega
      obtain ⟨b, off, rfl, hlb, _⟩ := H0.out.get (8 * k) (by omega)
      go_upto_region 5 with fail
      have hHL : k < (dgs bs m).length := by rw [dgs_len]; exact hlt
      have HI : Hid (OwnU w.heap.size wr (some ⟨w.heap.size, 0, none⟩) m m ((half (dgs bs m) k).set k (wdK bs (8 * k) 0))) := by
        show OwnU _ _ _ _ _ _
        rw [wdK, half_keep _ _ hHL]
        exact HO.out
      have HBR : Hid (Below w.heap.size w wr) := hbr
      clear HO hbr
      go_wp2
      go_loopw [6, 24] (fun _ i wx => ∃ j : Nat, j ≤ 8 ∧ i = .int .i64 j ∧ Hid (OwnU w.heap.size wx (some ⟨w.heap.size, 0, none⟩) m m ((half (dgs bs m) k).set k (wdK bs (8 * k) j))) ∧ Below w.heap.size w wx) (fun _ i _ => 8 - (intOf i).toNat)
      case atStart => exact ⟨0, by decide, rfl, HI, HBR.out⟩
      case round =>
        obtain ⟨j, hj, rfl, HJ, hbx⟩ := hrel
        clear HI HBR
        by_cases hjl : j < 8
        · have hjli : (j : Int) < 8 := by omega
          obtain ⟨b', off', hbe, hlb', hc0⟩ := H0.out.get (8 * k + j) (by omega)
          simp only [Option.some.injEq, Addr.mk.injEq, and_true] at hbe
          obtain ⟨rfl, rfl⟩ := hbe
          have hcx : wr.cell? ⟨b, off + 8 * k + j, none⟩ = some (.int .u8 (bs.getD (8 * k + j) 0)) := by rw [Nat.add_assoc]; exact (hbx.cell (p := ⟨b, off + (8 * k + j), none⟩) hlb).trans hc0
          have hxb := H0.out.byte (8 * k + j)
          obtain ⟨x, hx⟩ : ∃ x, x = bs.getD (8 * k + j) 0 := ⟨_, rfl⟩
          rw [← hx] at hcx hxb
          obtain ⟨hx0, hx1⟩ := hxb
          have hy := wdK_lt bs H0.out.byte (8 * k) j hjl
          have hlen : (half (dgs bs m) k).length = m := by rw [half_len _ _ (by omega), dgs_len]
          obtain ⟨y, hyy⟩ : ∃ y, y = wdK bs (8 * k) j := ⟨_, rfl⟩
          have HN : Hid (y * 256 + x = wdK bs (8 * k) (j + 1)) := by show _ = _; rw [wdK, ← hyy, hx]
          have hcy : wr.cell? ⟨w.heap.size, k, none⟩ = some (.int .u64 y) := by
            rw [HJ.out.row.cellAt k (by omega), ← hyy, List.getElem?_map, List.getElem?_set]
            simp [hlen, hlt]
          rw [← hyy] at hy
          obtain ⟨hy0, hy1⟩ := hy
          have hor := or8 y x hy0 hy1 hx0 (by omega)
          have hfr : wr.frozen? ⟨w.heap.size, k, none⟩ = false := HJ.out.row.frozenAt k
          have hs := (HJ.out.row.stored k (.int .u64 (y * 256 + x))).1
          rw [← List.map_set, List.set_set, HN.out] at hs
          have hrg := u64_set (u64_half (dgs_bd bs H0.out.byte m) k) k (x := wdK bs (8 * k) (j + 1)) (by have h1 := wdK_bd bs H0.out.byte (8 * k) (j + 1); rw [← HN.out] at h1 ⊢; unfold U64; omega)
          have HNX : Hid (OwnU w.heap.size (wr.setCell ⟨w.heap.size, k, none⟩ (.int .u64 (y * 256 + x))) (some ⟨w.heap.size, 0, none⟩) m m ((half (dgs bs m) k).set k (wdK bs (8 * k) (j + 1)))) := ⟨by rw [HN.out]; exact hs, hrg⟩
          have HBN : Hid (Below w.heap.size w (wr.setCell ⟨w.heap.size, k, none⟩ (.int .u64 (y * 256 + x)))) := hbx.setCell (Nat.le_refl _) _
          clear hs hrg HJ hbx hx hyy hc0 hlb'
          go_wp2
          refine ⟨⟨j + 1, by omega, by go_num, HNX, HBN.out⟩, by simp [intOf]; omega⟩
        · obtain rfl : j = 8 := by omega
          have HNX : Hid (OwnU w.heap.size wr (some ⟨w.heap.size, 0, none⟩) m m (half (dgs bs m) (k + 1))) := by
            have := HJ.out
            rw [← dgs_get bs m k hlt, half_set _ _ hHL] at this
            exact this
          clear HJ
          go_wp2
          refine ⟨⟨k + 1, by omega, by go_num, HNX, hbx⟩, by simp [intOf]; omega⟩
    · obtain rfl : k = m := by omega
      have HR : Hid (OwnU w.heap.size wr (some ⟨w.heap.size, 0, none⟩) k k (dgs bs k)) := by
        have := HO.out
        have e := half_all (dgs bs k)
        rw [dgs_len] at e
        rwa [e] at this
      go_wp2
      go_ret
      exact ⟨_, rfl, HR.out, hbr⟩

end Go.Proofs.YtmoekmonkpihhaaGreat

namespace Go.Proofs.YtmoekmonkpihhaaGreat
open Go.RowKit

def kyW : List Int := [107, 101, 121]
theorem kyW_byte : ∀ k, 0 ≤ kyW.getD k 0 ∧ kyW.getD k 0 ≤ 255 := bytes_of_all (by decide)
def kidN (sc y h : Int) : Int := hashL (partsL [kyW, putI sc, eightI y, putI h])
theorem kid_total (sc y h : Int) (hl : sc ≤ 9223372036854775807) (hd : h ≤ 9223372036854775807) : total [kyW, putI sc, eightI y, putI h] ≤ 2097152 := by
  have h1 := putI_len sc hl
  have h2 := putI_len h hd
  simp [total, kyW, eightI_len]
  omega
def kpv (sc y h : Int) : Value := .agg #[.int .i64 sc, .int .u64 y, .int .i64 h]
/-- The world in which the row at g bears the run-time's mark behind its third cell. -/
def frz (W : World) (g : Nat) : World := W.freeze ⟨g, 3, none⟩ 1
theorem frz_size (W : World) (g : Nat) : (frz W g).heap.size = W.heap.size := by simp [frz, World.freeze]
theorem frz_other (W : World) (g k : Nat) (h : k ≠ g) : (frz W g).heap[k]? = W.heap[k]? := by
  simp only [frz, World.freeze]
  rw [if_neg (by decide)]
  simp only [Array.getElem?_modify]
  rw [if_neg (fun e => h e.symm)]
theorem frz_cell (W : World) (g : Nat) (a : Addr) : (frz W g).cell? a = W.cell? a := by
  by_cases h : a.block = g
  · subst h
    simp only [frz, World.freeze, World.cell?]
    rw [if_neg (by decide)]
    simp only [Array.getElem?_modify]
    rw [if_pos trivial]
    cases hb : W.heap[a.block]? with
    | none => rfl
    | some o =>
      cases o <;> rfl
  · exact World.cell?_of_block (frz_other W g a.block h)
theorem run_conv_any (W : World) (g : Nat) (hg : W.heap[g]? = some (.cells #[.int .u8 107, .int .u8 101, .int .u8 121] 5)) : (convert 25 25 (.slice (some ⟨g, 0, none⟩) 3 3)).run Tryz.prog W = .ok (.slice (some ⟨g, 0, none⟩) 3 3) (frz W g) := by
  have hsh : W.shape? g = some (5, 3) := by unfold World.shape?; rw [hg]; rfl
  simp [convert, run_underlying Tryz.underlying25, run_underlying Tryz.underlying5, markStringish, hsh]
  rfl
structure Grow (B : Nat) (W W' : World) : Prop where
  b : Below B W W'
  lo : B ≤ W.heap.size
  size : W.heap.size ≤ W'.heap.size
  cell : ∀ x : Addr, x.block < W.heap.size → W'.cell? x = W.cell? x
theorem Grow.refl {B : Nat} {W : World} (h : B ≤ W.heap.size) : Grow B W W := ⟨Below.refl _ _, h, Nat.le_refl _, fun _ _ => rfl⟩
theorem Grow.then_below {B : Nat} {W X Y : World} (h : Grow B W X) (k : Below X.heap.size X Y) : Grow B W Y :=
  ⟨h.b.trans (k.mono (Nat.le_trans h.lo h.size)), h.lo, Nat.le_trans h.size k.size, fun x hx => (k.cell (p := x) (Nat.lt_of_lt_of_le hx h.size)).trans (h.cell x hx)⟩
theorem Grow.then_alloc {B : Nat} {W X : World} (h : Grow B W X) (o : Obj) : Grow B W (X.alloc o) := h.then_below ((Below.refl _ _).alloc (Nat.le_refl _) o)
theorem Grow.then_drew {B : Nat} {W X : World} (h : Grow B W X) : Grow B W X.drew := h.then_below ((Below.refl _ _).drew)
theorem Grow.then_frz {B : Nat} {W X : World} (h : Grow B W X) (g : Nat) (hg : B ≤ g) : Grow B W (frz X g) := by
  refine ⟨h.b.trans ⟨rfl, rfl, rfl, by rw [frz_size]; exact Nat.le_refl _, fun k hk => frz_other X g k (by omega)⟩, h.lo, by rw [frz_size]; exact h.size, fun x hx => (frz_cell X g x).trans (h.cell x hx)⟩
theorem Row.grew {B : Nat} {W W' : World} {a : Option Addr} {n : Nat} {bs : List Int} (h : Row W a n bs) (g : Grow B W W') : Row W' a n bs := by
  refine ⟨h.len, fun k hk => ?_, h.byte⟩
  obtain ⟨b, off, ha, hb, hc⟩ := h.get k hk
  exact ⟨b, off, ha, Nat.lt_of_lt_of_le hb g.size, (g.cell ⟨b, off + k, none⟩ hb).trans hc⟩

theorem kid_rows (X : World) (k : Nat) (a1 : Option Addr) (n1 c1 : Nat) (a2 : Option Addr) (c2 : Nat) (a3 : Option Addr) (n3 c3 : Nat) (p1 p2 p3 : List Int) (hk : Row X (some ⟨k, 0, none⟩) 3 kyW) (h1 : Row X a1 n1 p1) (e1 : a1 = none → c1 = 0) (h2 : Row X a2 8 p2) (e2 : a2 = none → c2 = 0) (h3 : Row X a3 n3 p3) (e3 : a3 = none → c3 = 0) :
    Rows2 (X.alloc (.cells #[.slice (some ⟨k, 0, none⟩) 3 3, .slice a1 n1 c1, .slice a2 8 c2, .slice a3 n3 c3] 25)) (some ⟨X.heap.size, 0, none⟩) 4 [kyW, p1, p2, p3] := by
  refine rows2_lit X [(some ⟨k, 0, none⟩, 3, 3, kyW), (a1, n1, c1, p1), (a2, 8, c2, p2), (a3, n3, c3, p3)] 25 ?_
  intro p hp
  simp only [List.mem_cons, List.not_mem_nil, or_false] at hp
  rcases hp with rfl | rfl | rfl | rfl
  · exact ⟨hk, fun h => by cases h⟩
  · exact ⟨h1, e1⟩
  · exact ⟨h2, e2⟩
  · exact ⟨h3, e3⟩

set_option maxRecDepth 10000 in
set_option maxHeartbeats 8000000 in
theorem implKeyId_any (sc y h : Int) (w : World) (hx : U64 y) (hl : sc ≤ 9223372036854775807) (hd : h ≤ 9223372036854775807) :
    Calls Tryz.prog 60 #[kpv sc y h] w fun e w' => e = .returned (.int .u64 (kidN sc y h)) ∧ Below w.heap.size w w' := by
  have HT : Hid (_ ≤ _) := kid_total sc y h hl hd
  obtain ⟨wb, hwb⟩ : ∃ wb, wb = w.alloc (.cells #[.int .i64 sc, .int .u64 y, .int .i64 h] 44) := ⟨_, rfl⟩
  have hbb : Below w.heap.size w wb := by rw [hwb]; exact (Below.refl _ _).alloc (Nat.le_refl _) _
  have s0 : w.heap.size ≤ wb.heap.size := hbb.size
  have hlw : w.heap.size < wb.heap.size := by rw [hwb]; simp
  have hbx : wb.heap[w.heap.size]? = some (.cells #[.int .i64 sc, .int .u64 y, .int .i64 h] 44) := by rw [hwb]; exact heap_alloc_new w _
  have HXG : ∀ W, Grow w.heap.size wb W → W.cell? ⟨w.heap.size, 0, none⟩ = some (.int .i64 sc) ∧ W.cell? ⟨w.heap.size, 1, none⟩ = some (.int .u64 y) ∧ W.cell? ⟨w.heap.size, 2, none⟩ = some (.int .i64 h) := by
    intro W g
    exact ⟨(g.cell ⟨w.heap.size, 0, none⟩ hlw).trans ((cell_of_row _ w.heap.size 0 _ 44 (0, 0) hbx).trans rfl), (g.cell ⟨w.heap.size, 1, none⟩ hlw).trans ((cell_of_row _ w.heap.size 1 _ 44 (0, 0) hbx).trans rfl), (g.cell ⟨w.heap.size, 2, none⟩ hlw).trans ((cell_of_row _ w.heap.size 2 _ 44 (0, 0) hbx).trans rfl)⟩
  have HWB : Hid (_ = _) := hwb
  clear hwb hbx
  have hn0 : (wb.alloc (.cells #[.int .u8 107, .int .u8 101, .int .u8 121] 5)).drew.heap[wb.heap.size]? = some (.cells #[.int .u8 107, .int .u8 101, .int .u8 121] 5) := heap_alloc_new wb _
  have hc0 := run_conv_any _ _ hn0
  have t0 : w.heap.size ≤ (wb.alloc (.cells #[.int .u8 107, .int .u8 101, .int .u8 121] 5)).heap.size := by simp; omega
  unfold kpv
  go_enter Tryz.func60, Tryz.ntmps60
  go_upto_region 1 with fail
  rw [← HWB.out]
  clear HWB
  go_region_held_law (fun W => W.cell? ⟨w.heap.size, 0, none⟩ = some (.int .i64 sc) ∧ W.cell? ⟨w.heap.size, 1, none⟩ = some (.int .u64 y) ∧ W.cell? ⟨w.heap.size, 2, none⟩ = some (.int .i64 h)) (first | assumption | (refine HXG _ ?_; (repeat (first | exact Grow.refl t0 | exact Grow.refl t1 | exact Grow.refl t2 | exact Grow.refl t3 | exact Grow.refl s0 | exact Grow.refl s1 | exact Grow.refl s2 | exact Grow.refl s3 | refine Grow.then_below ?_ hb1 | refine Grow.then_below ?_ hb2 | refine Grow.then_below ?_ hb3 | refine Grow.then_drew ?_ | refine Grow.then_alloc ?_ _ | refine Grow.then_frz ?_ _ (by first | exact s0 | exact s1 | exact s2 | exact s3)))))
    (first
      | (go_at_call_of 92 sc; refine (implPutNum_any sc _ hl).mono ?_; rintro e w1 ⟨a1, c1, rfl, ho1, hb1⟩; have s1 : w.heap.size ≤ w1.heap.size := Nat.le_trans s0 (Grow.size (B := w.heap.size) (W := wb) (by (repeat (first | exact Grow.refl t0 | exact Grow.refl t1 | exact Grow.refl t2 | exact Grow.refl t3 | exact Grow.refl s0 | exact Grow.refl s1 | exact Grow.refl s2 | exact Grow.refl s3 | refine Grow.then_below ?_ hb1 | refine Grow.then_below ?_ hb2 | refine Grow.then_below ?_ hb3 | refine Grow.then_drew ?_ | refine Grow.then_alloc ?_ _ | refine Grow.then_frz ?_ _ (by first | exact s0 | exact s1 | exact s2 | exact s3))))); have hr1 := ho1.toRow; have hl1 := ho1.nil; have hn1 : (w1.alloc (.cells #[.int .u8 107, .int .u8 101, .int .u8 121] 5)).heap[w1.heap.size]? = some (.cells #[.int .u8 107, .int .u8 101, .int .u8 121] 5) := heap_alloc_new w1 _; have hc1 := run_conv_any _ _ hn1; have t1 : w.heap.size ≤ (w1.alloc (.cells #[.int .u8 107, .int .u8 101, .int .u8 121] 5)).heap.size := (by simp; omega); (try (have kb := (hb1.block _ (Array.getElem?_eq_some_iff.1 hn0).1).trans hn0; have hck := run_conv_any _ _ kb)); skip)
      | (go_at_call 93; refine (digestBytes_any y _ hx.1 hx.2).mono ?_; rintro e w2 ⟨g2, rfl, hr2, _, hb2⟩; have hl2 : (some (⟨g2, 0, none⟩ : Addr)) = none → 8 = 0 := (fun h => by cases h); have s2 : w.heap.size ≤ w2.heap.size := Nat.le_trans s0 (Grow.size (B := w.heap.size) (W := wb) (by (repeat (first | exact Grow.refl t0 | exact Grow.refl t1 | exact Grow.refl t2 | exact Grow.refl t3 | exact Grow.refl s0 | exact Grow.refl s1 | exact Grow.refl s2 | exact Grow.refl s3 | refine Grow.then_below ?_ hb1 | refine Grow.then_below ?_ hb2 | refine Grow.then_below ?_ hb3 | refine Grow.then_drew ?_ | refine Grow.then_alloc ?_ _ | refine Grow.then_frz ?_ _ (by first | exact s0 | exact s1 | exact s2 | exact s3))))); have hn2 : (w2.alloc (.cells #[.int .u8 107, .int .u8 101, .int .u8 121] 5)).heap[w2.heap.size]? = some (.cells #[.int .u8 107, .int .u8 101, .int .u8 121] 5) := heap_alloc_new w2 _; have hc2 := run_conv_any _ _ hn2; have t2 : w.heap.size ≤ (w2.alloc (.cells #[.int .u8 107, .int .u8 101, .int .u8 121] 5)).heap.size := (by simp; omega); (try (have kb := (hb2.block _ (Array.getElem?_eq_some_iff.1 hn0).1).trans hn0; have hck := run_conv_any _ _ kb)); (try (have kb := (hb2.block _ (Array.getElem?_eq_some_iff.1 hn1).1).trans hn1; have hck := run_conv_any _ _ kb)); (try (have kb := (hb2.block _ (Array.getElem?_eq_some_iff.1 kb).1).trans kb; have hck := run_conv_any _ _ kb)); skip)
      | (go_at_call_of 92 h; refine (implPutNum_any h _ hd).mono ?_; rintro e w3 ⟨a3, c3, rfl, ho3, hb3⟩; have s3 : w.heap.size ≤ w3.heap.size := Nat.le_trans s0 (Grow.size (B := w.heap.size) (W := wb) (by (repeat (first | exact Grow.refl t0 | exact Grow.refl t1 | exact Grow.refl t2 | exact Grow.refl t3 | exact Grow.refl s0 | exact Grow.refl s1 | exact Grow.refl s2 | exact Grow.refl s3 | refine Grow.then_below ?_ hb1 | refine Grow.then_below ?_ hb2 | refine Grow.then_below ?_ hb3 | refine Grow.then_drew ?_ | refine Grow.then_alloc ?_ _ | refine Grow.then_frz ?_ _ (by first | exact s0 | exact s1 | exact s2 | exact s3))))); have hr3 := ho3.toRow; have hl3 := ho3.nil; have hn3 : (w3.alloc (.cells #[.int .u8 107, .int .u8 101, .int .u8 121] 5)).heap[w3.heap.size]? = some (.cells #[.int .u8 107, .int .u8 101, .int .u8 121] 5) := heap_alloc_new w3 _; have hc3 := run_conv_any _ _ hn3; have t3 : w.heap.size ≤ (w3.alloc (.cells #[.int .u8 107, .int .u8 101, .int .u8 121] 5)).heap.size := (by simp; omega); (try (have kb := (hb3.block _ (Array.getElem?_eq_some_iff.1 hn0).1).trans hn0; have hck := run_conv_any _ _ kb)); (try (have kb := (hb3.block _ (Array.getElem?_eq_some_iff.1 hn1).1).trans hn1; have hck := run_conv_any _ _ kb)); (try (have kb := (hb3.block _ (Array.getElem?_eq_some_iff.1 hn2).1).trans hn2; have hck := run_conv_any _ _ kb)); (try (have kb := (hb3.block _ (Array.getElem?_eq_some_iff.1 kb).1).trans kb; have hck := run_conv_any _ _ kb)); skip)
      | (go_at_call 91; refine (implHashParts_any _ 4 4 [kyW, putI sc, eightI y, putI h] _ (kid_rows _ _ _ _ _ _ _ _ _ _ _ _ _ (by first | exact (row_word wb kyW (0, 0) kyW_byte).grew (B := w.heap.size) (by (repeat (first | exact Grow.refl t0 | exact Grow.refl t1 | exact Grow.refl t2 | exact Grow.refl t3 | exact Grow.refl s0 | exact Grow.refl s1 | exact Grow.refl s2 | exact Grow.refl s3 | refine Grow.then_below ?_ hb1 | refine Grow.then_below ?_ hb2 | refine Grow.then_below ?_ hb3 | refine Grow.then_drew ?_ | refine Grow.then_alloc ?_ _ | refine Grow.then_frz ?_ _ (by first | exact s0 | exact s1 | exact s2 | exact s3))); done) | exact (row_word w1 kyW (0, 0) kyW_byte).grew (B := w.heap.size) (by (repeat (first | exact Grow.refl t0 | exact Grow.refl t1 | exact Grow.refl t2 | exact Grow.refl t3 | exact Grow.refl s0 | exact Grow.refl s1 | exact Grow.refl s2 | exact Grow.refl s3 | refine Grow.then_below ?_ hb1 | refine Grow.then_below ?_ hb2 | refine Grow.then_below ?_ hb3 | refine Grow.then_drew ?_ | refine Grow.then_alloc ?_ _ | refine Grow.then_frz ?_ _ (by first | exact s0 | exact s1 | exact s2 | exact s3))); done) | exact (row_word w2 kyW (0, 0) kyW_byte).grew (B := w.heap.size) (by (repeat (first | exact Grow.refl t0 | exact Grow.refl t1 | exact Grow.refl t2 | exact Grow.refl t3 | exact Grow.refl s0 | exact Grow.refl s1 | exact Grow.refl s2 | exact Grow.refl s3 | refine Grow.then_below ?_ hb1 | refine Grow.then_below ?_ hb2 | refine Grow.then_below ?_ hb3 | refine Grow.then_drew ?_ | refine Grow.then_alloc ?_ _ | refine Grow.then_frz ?_ _ (by first | exact s0 | exact s1 | exact s2 | exact s3))); done) | exact (row_word w3 kyW (0, 0) kyW_byte).grew (B := w.heap.size) (by (repeat (first | exact Grow.refl t0 | exact Grow.refl t1 | exact Grow.refl t2 | exact Grow.refl t3 | exact Grow.refl s0 | exact Grow.refl s1 | exact Grow.refl s2 | exact Grow.refl s3 | refine Grow.then_below ?_ hb1 | refine Grow.then_below ?_ hb2 | refine Grow.then_below ?_ hb3 | refine Grow.then_drew ?_ | refine Grow.then_alloc ?_ _ | refine Grow.then_frz ?_ _ (by first | exact s0 | exact s1 | exact s2 | exact s3))); done)) (hr1.grew (B := w.heap.size) (by (repeat (first | exact Grow.refl t0 | exact Grow.refl t1 | exact Grow.refl t2 | exact Grow.refl t3 | exact Grow.refl s0 | exact Grow.refl s1 | exact Grow.refl s2 | exact Grow.refl s3 | refine Grow.then_below ?_ hb1 | refine Grow.then_below ?_ hb2 | refine Grow.then_below ?_ hb3 | refine Grow.then_drew ?_ | refine Grow.then_alloc ?_ _ | refine Grow.then_frz ?_ _ (by first | exact s0 | exact s1 | exact s2 | exact s3))))) hl1 (hr2.grew (B := w.heap.size) (by (repeat (first | exact Grow.refl t0 | exact Grow.refl t1 | exact Grow.refl t2 | exact Grow.refl t3 | exact Grow.refl s0 | exact Grow.refl s1 | exact Grow.refl s2 | exact Grow.refl s3 | refine Grow.then_below ?_ hb1 | refine Grow.then_below ?_ hb2 | refine Grow.then_below ?_ hb3 | refine Grow.then_drew ?_ | refine Grow.then_alloc ?_ _ | refine Grow.then_frz ?_ _ (by first | exact s0 | exact s1 | exact s2 | exact s3))))) hl2 (hr3.grew (B := w.heap.size) (by (repeat (first | exact Grow.refl t0 | exact Grow.refl t1 | exact Grow.refl t2 | exact Grow.refl t3 | exact Grow.refl s0 | exact Grow.refl s1 | exact Grow.refl s2 | exact Grow.refl s3 | refine Grow.then_below ?_ hb1 | refine Grow.then_below ?_ hb2 | refine Grow.then_below ?_ hb3 | refine Grow.then_drew ?_ | refine Grow.then_alloc ?_ _ | refine Grow.then_frz ?_ _ (by first | exact s0 | exact s1 | exact s2 | exact s3))))) hl3) (by decide) HT.out).mono ?_; rintro e w4 ⟨rfl, hb4⟩; have G4 : Grow w.heap.size wb w4 := (by refine Grow.then_below ?_ hb4; (repeat (first | exact Grow.refl t0 | exact Grow.refl t1 | exact Grow.refl t2 | exact Grow.refl t3 | exact Grow.refl s0 | exact Grow.refl s1 | exact Grow.refl s2 | exact Grow.refl s3 | refine Grow.then_below ?_ hb1 | refine Grow.then_below ?_ hb2 | refine Grow.then_below ?_ hb3 | refine Grow.then_drew ?_ | refine Grow.then_alloc ?_ _ | refine Grow.then_frz ?_ _ (by first | exact s0 | exact s1 | exact s2 | exact s3)))); have SS4 := HXG _ G4))
  all_goals
    go_wp2
    go_ret
    exact ⟨rfl, hbb.trans G4.b⟩

set_option maxRecDepth 10000 in
set_option maxHeartbeats 8000000 in
theorem specKeyId_any (sc y h : Int) (w : World) (hx : U64 y) (hl : sc ≤ 9223372036854775807) (hd : h ≤ 9223372036854775807) :
    Calls Tryz.prog 29 #[kpv sc y h] w fun e w' => e = .returned (.int .u64 (kidN sc y h)) ∧ Below w.heap.size w w' := by
  have HT : Hid (_ ≤ _) := kid_total sc y h hl hd
  obtain ⟨wb, hwb⟩ : ∃ wb, wb = w.alloc (.cells #[.int .i64 sc, .int .u64 y, .int .i64 h] 44) := ⟨_, rfl⟩
  have hbb : Below w.heap.size w wb := by rw [hwb]; exact (Below.refl _ _).alloc (Nat.le_refl _) _
  have s0 : w.heap.size ≤ wb.heap.size := hbb.size
  have hlw : w.heap.size < wb.heap.size := by rw [hwb]; simp
  have hbx : wb.heap[w.heap.size]? = some (.cells #[.int .i64 sc, .int .u64 y, .int .i64 h] 44) := by rw [hwb]; exact heap_alloc_new w _
  have HXG : ∀ W, Grow w.heap.size wb W → W.cell? ⟨w.heap.size, 0, none⟩ = some (.int .i64 sc) ∧ W.cell? ⟨w.heap.size, 1, none⟩ = some (.int .u64 y) ∧ W.cell? ⟨w.heap.size, 2, none⟩ = some (.int .i64 h) := by
    intro W g
    exact ⟨(g.cell ⟨w.heap.size, 0, none⟩ hlw).trans ((cell_of_row _ w.heap.size 0 _ 44 (0, 0) hbx).trans rfl), (g.cell ⟨w.heap.size, 1, none⟩ hlw).trans ((cell_of_row _ w.heap.size 1 _ 44 (0, 0) hbx).trans rfl), (g.cell ⟨w.heap.size, 2, none⟩ hlw).trans ((cell_of_row _ w.heap.size 2 _ 44 (0, 0) hbx).trans rfl)⟩
  have HWB : Hid (_ = _) := hwb
  clear hwb hbx
  have hn0 : (wb.alloc (.cells #[.int .u8 107, .int .u8 101, .int .u8 121] 5)).drew.heap[wb.heap.size]? = some (.cells #[.int .u8 107, .int .u8 101, .int .u8 121] 5) := heap_alloc_new wb _
  have hc0 := run_conv_any _ _ hn0
  have t0 : w.heap.size ≤ (wb.alloc (.cells #[.int .u8 107, .int .u8 101, .int .u8 121] 5)).heap.size := by simp; omega
  unfold kpv
  go_enter Tryz.func29, Tryz.ntmps29
  go_upto_region 1 with fail
  rw [← HWB.out]
  clear HWB
  go_region_held_law (fun W => W.cell? ⟨w.heap.size, 0, none⟩ = some (.int .i64 sc) ∧ W.cell? ⟨w.heap.size, 1, none⟩ = some (.int .u64 y) ∧ W.cell? ⟨w.heap.size, 2, none⟩ = some (.int .i64 h)) (first | assumption | (refine HXG _ ?_; (repeat (first | exact Grow.refl t0 | exact Grow.refl t1 | exact Grow.refl t2 | exact Grow.refl t3 | exact Grow.refl s0 | exact Grow.refl s1 | exact Grow.refl s2 | exact Grow.refl s3 | refine Grow.then_below ?_ hb1 | refine Grow.then_below ?_ hb2 | refine Grow.then_below ?_ hb3 | refine Grow.then_drew ?_ | refine Grow.then_alloc ?_ _ | refine Grow.then_frz ?_ _ (by first | exact s0 | exact s1 | exact s2 | exact s3)))))
    (first
      | (go_at_call_of 42 sc; refine (specPutNum_any sc _ hl).mono ?_; rintro e w1 ⟨a1, c1, rfl, ho1, hb1⟩; have s1 : w.heap.size ≤ w1.heap.size := Nat.le_trans s0 (Grow.size (B := w.heap.size) (W := wb) (by (repeat (first | exact Grow.refl t0 | exact Grow.refl t1 | exact Grow.refl t2 | exact Grow.refl t3 | exact Grow.refl s0 | exact Grow.refl s1 | exact Grow.refl s2 | exact Grow.refl s3 | refine Grow.then_below ?_ hb1 | refine Grow.then_below ?_ hb2 | refine Grow.then_below ?_ hb3 | refine Grow.then_drew ?_ | refine Grow.then_alloc ?_ _ | refine Grow.then_frz ?_ _ (by first | exact s0 | exact s1 | exact s2 | exact s3))))); have hr1 := ho1.toRow; have hl1 := ho1.nil; have hn1 : (w1.alloc (.cells #[.int .u8 107, .int .u8 101, .int .u8 121] 5)).heap[w1.heap.size]? = some (.cells #[.int .u8 107, .int .u8 101, .int .u8 121] 5) := heap_alloc_new w1 _; have hc1 := run_conv_any _ _ hn1; have t1 : w.heap.size ≤ (w1.alloc (.cells #[.int .u8 107, .int .u8 101, .int .u8 121] 5)).heap.size := (by simp; omega); (try (have kb := (hb1.block _ (Array.getElem?_eq_some_iff.1 hn0).1).trans hn0; have hck := run_conv_any _ _ kb)); skip)
      | (go_at_call 50; refine (l1Eight_any y _ hx.1 hx.2).mono ?_; rintro e w2 ⟨a2, c2, rfl, ho2, hb2⟩; have hr2 := ho2.toRow; have hl2 := ho2.nil; have s2 : w.heap.size ≤ w2.heap.size := Nat.le_trans s0 (Grow.size (B := w.heap.size) (W := wb) (by (repeat (first | exact Grow.refl t0 | exact Grow.refl t1 | exact Grow.refl t2 | exact Grow.refl t3 | exact Grow.refl s0 | exact Grow.refl s1 | exact Grow.refl s2 | exact Grow.refl s3 | refine Grow.then_below ?_ hb1 | refine Grow.then_below ?_ hb2 | refine Grow.then_below ?_ hb3 | refine Grow.then_drew ?_ | refine Grow.then_alloc ?_ _ | refine Grow.then_frz ?_ _ (by first | exact s0 | exact s1 | exact s2 | exact s3))))); have hn2 : (w2.alloc (.cells #[.int .u8 107, .int .u8 101, .int .u8 121] 5)).heap[w2.heap.size]? = some (.cells #[.int .u8 107, .int .u8 101, .int .u8 121] 5) := heap_alloc_new w2 _; have hc2 := run_conv_any _ _ hn2; have t2 : w.heap.size ≤ (w2.alloc (.cells #[.int .u8 107, .int .u8 101, .int .u8 121] 5)).heap.size := (by simp; omega); (try (have kb := (hb2.block _ (Array.getElem?_eq_some_iff.1 hn0).1).trans hn0; have hck := run_conv_any _ _ kb)); (try (have kb := (hb2.block _ (Array.getElem?_eq_some_iff.1 hn1).1).trans hn1; have hck := run_conv_any _ _ kb)); (try (have kb := (hb2.block _ (Array.getElem?_eq_some_iff.1 kb).1).trans kb; have hck := run_conv_any _ _ kb)); skip)
      | (go_at_call_of 42 h; refine (specPutNum_any h _ hd).mono ?_; rintro e w3 ⟨a3, c3, rfl, ho3, hb3⟩; have s3 : w.heap.size ≤ w3.heap.size := Nat.le_trans s0 (Grow.size (B := w.heap.size) (W := wb) (by (repeat (first | exact Grow.refl t0 | exact Grow.refl t1 | exact Grow.refl t2 | exact Grow.refl t3 | exact Grow.refl s0 | exact Grow.refl s1 | exact Grow.refl s2 | exact Grow.refl s3 | refine Grow.then_below ?_ hb1 | refine Grow.then_below ?_ hb2 | refine Grow.then_below ?_ hb3 | refine Grow.then_drew ?_ | refine Grow.then_alloc ?_ _ | refine Grow.then_frz ?_ _ (by first | exact s0 | exact s1 | exact s2 | exact s3))))); have hr3 := ho3.toRow; have hl3 := ho3.nil; have hn3 : (w3.alloc (.cells #[.int .u8 107, .int .u8 101, .int .u8 121] 5)).heap[w3.heap.size]? = some (.cells #[.int .u8 107, .int .u8 101, .int .u8 121] 5) := heap_alloc_new w3 _; have hc3 := run_conv_any _ _ hn3; have t3 : w.heap.size ≤ (w3.alloc (.cells #[.int .u8 107, .int .u8 101, .int .u8 121] 5)).heap.size := (by simp; omega); (try (have kb := (hb3.block _ (Array.getElem?_eq_some_iff.1 hn0).1).trans hn0; have hck := run_conv_any _ _ kb)); (try (have kb := (hb3.block _ (Array.getElem?_eq_some_iff.1 hn1).1).trans hn1; have hck := run_conv_any _ _ kb)); (try (have kb := (hb3.block _ (Array.getElem?_eq_some_iff.1 hn2).1).trans hn2; have hck := run_conv_any _ _ kb)); (try (have kb := (hb3.block _ (Array.getElem?_eq_some_iff.1 kb).1).trans kb; have hck := run_conv_any _ _ kb)); skip)
      | (go_at_call 53; refine (specHashAll_any _ 4 4 [kyW, putI sc, eightI y, putI h] _ (kid_rows _ _ _ _ _ _ _ _ _ _ _ _ _ (by first | exact (row_word wb kyW (0, 0) kyW_byte).grew (B := w.heap.size) (by (repeat (first | exact Grow.refl t0 | exact Grow.refl t1 | exact Grow.refl t2 | exact Grow.refl t3 | exact Grow.refl s0 | exact Grow.refl s1 | exact Grow.refl s2 | exact Grow.refl s3 | refine Grow.then_below ?_ hb1 | refine Grow.then_below ?_ hb2 | refine Grow.then_below ?_ hb3 | refine Grow.then_drew ?_ | refine Grow.then_alloc ?_ _ | refine Grow.then_frz ?_ _ (by first | exact s0 | exact s1 | exact s2 | exact s3))); done) | exact (row_word w1 kyW (0, 0) kyW_byte).grew (B := w.heap.size) (by (repeat (first | exact Grow.refl t0 | exact Grow.refl t1 | exact Grow.refl t2 | exact Grow.refl t3 | exact Grow.refl s0 | exact Grow.refl s1 | exact Grow.refl s2 | exact Grow.refl s3 | refine Grow.then_below ?_ hb1 | refine Grow.then_below ?_ hb2 | refine Grow.then_below ?_ hb3 | refine Grow.then_drew ?_ | refine Grow.then_alloc ?_ _ | refine Grow.then_frz ?_ _ (by first | exact s0 | exact s1 | exact s2 | exact s3))); done) | exact (row_word w2 kyW (0, 0) kyW_byte).grew (B := w.heap.size) (by (repeat (first | exact Grow.refl t0 | exact Grow.refl t1 | exact Grow.refl t2 | exact Grow.refl t3 | exact Grow.refl s0 | exact Grow.refl s1 | exact Grow.refl s2 | exact Grow.refl s3 | refine Grow.then_below ?_ hb1 | refine Grow.then_below ?_ hb2 | refine Grow.then_below ?_ hb3 | refine Grow.then_drew ?_ | refine Grow.then_alloc ?_ _ | refine Grow.then_frz ?_ _ (by first | exact s0 | exact s1 | exact s2 | exact s3))); done) | exact (row_word w3 kyW (0, 0) kyW_byte).grew (B := w.heap.size) (by (repeat (first | exact Grow.refl t0 | exact Grow.refl t1 | exact Grow.refl t2 | exact Grow.refl t3 | exact Grow.refl s0 | exact Grow.refl s1 | exact Grow.refl s2 | exact Grow.refl s3 | refine Grow.then_below ?_ hb1 | refine Grow.then_below ?_ hb2 | refine Grow.then_below ?_ hb3 | refine Grow.then_drew ?_ | refine Grow.then_alloc ?_ _ | refine Grow.then_frz ?_ _ (by first | exact s0 | exact s1 | exact s2 | exact s3))); done)) (hr1.grew (B := w.heap.size) (by (repeat (first | exact Grow.refl t0 | exact Grow.refl t1 | exact Grow.refl t2 | exact Grow.refl t3 | exact Grow.refl s0 | exact Grow.refl s1 | exact Grow.refl s2 | exact Grow.refl s3 | refine Grow.then_below ?_ hb1 | refine Grow.then_below ?_ hb2 | refine Grow.then_below ?_ hb3 | refine Grow.then_drew ?_ | refine Grow.then_alloc ?_ _ | refine Grow.then_frz ?_ _ (by first | exact s0 | exact s1 | exact s2 | exact s3))))) hl1 (hr2.grew (B := w.heap.size) (by (repeat (first | exact Grow.refl t0 | exact Grow.refl t1 | exact Grow.refl t2 | exact Grow.refl t3 | exact Grow.refl s0 | exact Grow.refl s1 | exact Grow.refl s2 | exact Grow.refl s3 | refine Grow.then_below ?_ hb1 | refine Grow.then_below ?_ hb2 | refine Grow.then_below ?_ hb3 | refine Grow.then_drew ?_ | refine Grow.then_alloc ?_ _ | refine Grow.then_frz ?_ _ (by first | exact s0 | exact s1 | exact s2 | exact s3))))) hl2 (hr3.grew (B := w.heap.size) (by (repeat (first | exact Grow.refl t0 | exact Grow.refl t1 | exact Grow.refl t2 | exact Grow.refl t3 | exact Grow.refl s0 | exact Grow.refl s1 | exact Grow.refl s2 | exact Grow.refl s3 | refine Grow.then_below ?_ hb1 | refine Grow.then_below ?_ hb2 | refine Grow.then_below ?_ hb3 | refine Grow.then_drew ?_ | refine Grow.then_alloc ?_ _ | refine Grow.then_frz ?_ _ (by first | exact s0 | exact s1 | exact s2 | exact s3))))) hl3) (by decide) HT.out).mono ?_; rintro e w4 ⟨rfl, hb4⟩; have G4 : Grow w.heap.size wb w4 := (by refine Grow.then_below ?_ hb4; (repeat (first | exact Grow.refl t0 | exact Grow.refl t1 | exact Grow.refl t2 | exact Grow.refl t3 | exact Grow.refl s0 | exact Grow.refl s1 | exact Grow.refl s2 | exact Grow.refl s3 | refine Grow.then_below ?_ hb1 | refine Grow.then_below ?_ hb2 | refine Grow.then_below ?_ hb3 | refine Grow.then_drew ?_ | refine Grow.then_alloc ?_ _ | refine Grow.then_frz ?_ _ (by first | exact s0 | exact s1 | exact s2 | exact s3)))); have SS4 := HXG _ G4))
  all_goals
    go_wp2
    go_ret
    exact ⟨rfl, hbb.trans G4.b⟩

end Go.Proofs.YtmoekmonkpihhaaGreat

namespace Go.Proofs.YtmoekmonkpihhaaGreat
open Go.RowKit

theorem results_kp {fn : Func} {t : Tmp} (h : fn.results = #[.cell t 44]) (tmps : Array Value) (g : Nat) (ht : tmps.getD t undef = .pointer (some ⟨g, 0, none⟩)) (w : World) (c0 c1 c2 : Value)
    (hb : w.heap[g]? = some (.cells #[c0, c1, c2] 44 (0, 0))) : (results fn tmps).run Tryz.prog w = .ok (.agg #[c0, c1, c2]) w := by
  have d0 : w.cell? ⟨g, 0, none⟩ = some c0 := (cell_of_row _ g 0 _ 44 (0, 0) hb).trans rfl
  have d1 : w.cell? ⟨g, 1, none⟩ = some c1 := (cell_of_row _ g 1 _ 44 (0, 0) hb).trans rfl
  have d2 : w.cell? ⟨g, 2, none⟩ = some c2 := (cell_of_row _ g 2 _ 44 (0, 0) hb).trans rfl
  clear hb
  have ht' : tmps[t]?.getD undef = .pointer (some ⟨g, 0, none⟩) := by rw [← ht]; simp
  simp [results, h, go_sem, ht', d0, d1, d2]

set_option maxRecDepth 10000 in
set_option maxHeartbeats 1000000 in
theorem toPub_any (a b c : Int) (w : World) :
    Calls Tryz.prog 9 #[kpv a b c] w fun e w' => e = .returned (kpv a b c) ∧ Below w.heap.size w w' := by
  have b1 : ((((w.alloc (.cells #[.int .i64 a, .int .u64 b, .int .i64 c] 30)).alloc (.cells #[.int .i64 a, .int .u64 b, .int .i64 c] 44)).alloc (.cells #[.int .i64 a, .int .u64 b, .int .i64 c] 44))).heap[w.heap.size + 1]? = some (.cells #[.int .i64 a, .int .u64 b, .int .i64 c] 44) := by
    have s1 : (w.alloc (.cells #[.int .i64 a, .int .u64 b, .int .i64 c] 30)).heap.size = w.heap.size + 1 := by simp
    exact (alloc_oldT _ _ _ (by simp)).trans (by rw [← s1]; exact heap_alloc_new _ _)
  have HB1 : Hid (_ = _) := b1
  clear b1
  unfold kpv
  go_enter Tryz.func9, Tryz.ntmps9
  go_wp2
  try simp only [Exit.inBlock, Exit.then]
  exact bodyPost_ret (results_kp rfl _ (w.heap.size + 1) rfl _ _ _ _ HB1.out) rfl ⟨rfl, (((Below.refl _ _).alloc (Nat.le_refl _) _).alloc (by simp) _).alloc (by simp; omega) _⟩

end Go.Proofs.YtmoekmonkpihhaaGreat

namespace Go.Proofs.YtmoekmonkpihhaaGreat
open Go.RowKit

def gkP (y h : Int) : Prop := keyP y ∧ h = 0
instance (y h : Int) : Decidable (gkP y h) := by unfold gkP; infer_instance
def hbP (h : Int) : Prop := 0 ≤ h ∧ h ≤ 5
instance (h : Int) : Decidable (hbP h) := by unfold hbP; infer_instance
def pubP (sc y h : Int) : Prop := (sc = 1 ∧ gkP y h) ∨ (sc = 2 ∧ hbP h)
instance (sc y h : Int) : Decidable (pubP sc y h) := by unfold pubP; infer_instance
def ifvP (sc : Int) : Value := if sc = 1 then .iface 154 (.agg #[]) else if sc = 2 then .iface 155 (.agg #[]) else .nilIface
theorem keyP_lt {y : Int} (h : keyP y) : 2 ≤ y ∧ y ≤ 1000000006 := by
  have h1 := h.1.1
  have h2 := h.2
  omega

set_option maxRecDepth 10000 in
set_option maxHeartbeats 2000000 in
theorem groupPubOk_any (sc y h : Int) (w : World) (hy : U64 y) :
    Calls Tryz.prog 133 #[.agg #[], kpv sc y h] w fun e w' => e = .returned (.bool (decide (gkP y h))) ∧ Below w.heap.size w w' := by
  have hbb : Below w.heap.size w ((w.alloc (.cells #[] 154)).alloc (.cells #[.int .i64 sc, .int .u64 y, .int .i64 h] 44)) := two_below _ _ _
  obtain ⟨hx0, hx1⟩ := hy
  unfold kpv
  by_cases hs : keyP y
  · have hxs : y ≤ 9223372036854775807 := by have := (keyP_lt hs).2; omega
    by_cases h1 : h = 0
    · have HV : Hid (decide (gkP y h) = true) := decide_eq_true ⟨hs, h1⟩
      have z1 : (h == 0) = true := beq_iff_eq.2 h1
      clear h1
      go_enter Tryz.func133, Tryz.ntmps133
      go_wp2_with fail
      refine (isKey_any y _).mono ?_
      rintro e w2 ⟨rfl, rfl⟩
      rw [decide_eq_true hs]
      go_wp2
      go_ret
      exact ⟨by rw [HV.out]; rfl, hbb⟩
    · have HV : Hid (decide (gkP y h) = false) := decide_eq_false (fun hh => h1 hh.2)
      have z1 : (h == 0) = false := beq_false_of_ne h1
      clear h1
      go_enter Tryz.func133, Tryz.ntmps133
      go_wp2_with fail
      refine (isKey_any y _).mono ?_
      rintro e w2 ⟨rfl, rfl⟩
      rw [decide_eq_true hs]
      go_wp2
      go_ret
      exact ⟨by rw [HV.out]; rfl, hbb⟩
  · have HV : Hid (decide (gkP y h) = false) := decide_eq_false (fun hh => hs hh.1)
    by_cases hxs : y ≤ 9223372036854775807
    · go_enter Tryz.func133, Tryz.ntmps133
      go_wp2_with fail
      refine (isKey_any y _).mono ?_
      rintro e w2 ⟨rfl, rfl⟩
      rw [decide_eq_false hs]
      go_wp2
      go_ret
      exact ⟨by rw [HV.out]; rfl, hbb⟩
    · have hwr := wrap_big ⟨hx0, hx1⟩ hxs
      have hs2 : ¬ keyP (wrap64 y) := by rw [hwr]; intro hh; have := (keyP_lt hh).1; omega
      clear hwr
      go_enter Tryz.func133, Tryz.ntmps133
      go_wp2_with fail
      refine (isKey_any (wrap64 y) _).mono ?_
      rintro e w2 ⟨rfl, rfl⟩
      rw [decide_eq_false hs2]
      go_wp2
      go_ret
      exact ⟨by rw [HV.out]; rfl, hbb⟩

set_option maxRecDepth 10000 in
set_option maxHeartbeats 2000000 in
theorem treePubOk_any (sc y h : Int) (w : World) :
    Calls Tryz.prog 151 #[.agg #[], kpv sc y h] w fun e w' => e = .returned (.bool (decide (hbP h))) ∧ Below w.heap.size w w' := by
  have hbb : Below w.heap.size w ((w.alloc (.cells #[] 155)).alloc (.cells #[.int .i64 sc, .int .u64 y, .int .i64 h] 44)) := two_below _ _ _
  unfold kpv
  by_cases h1 : 0 ≤ h ∧ h ≤ 5
  · have HV : Hid (decide (hbP h) = true) := decide_eq_true h1
    go_enter Tryz.func151, Tryz.ntmps151
    go_wp2_with fail
    refine (inBounds_t h 0 5 _ h1).mono ?_
    rintro e w2 ⟨rfl, rfl⟩
    go_wp2
    go_ret
    exact ⟨by rw [HV.out]; rfl, hbb⟩
  · have HV : Hid (decide (hbP h) = false) := decide_eq_false h1
    go_enter Tryz.func151, Tryz.ntmps151
    go_wp2_with fail
    refine (inBounds_f h 0 5 _ h1).mono ?_
    rintro e w2 ⟨rfl, rfl⟩
    go_wp2
    go_ret
    exact ⟨by rw [HV.out]; rfl, hbb⟩

set_option maxRecDepth 10000 in
set_option maxHeartbeats 2000000 in
theorem pubScheme_any (sc y h : Int) (w : World) (hy : U64 y) :
    Calls Tryz.prog 102 #[kpv sc y h] w fun e w' => e = .returned (.tuple #[ifvP sc, .bool (decide (pubP sc y h))]) ∧ Below w.heap.size w w' := by
  have hbb : Below w.heap.size w (w.alloc (.cells #[.int .i64 sc, .int .u64 y, .int .i64 h] 44)) := (Below.refl _ _).alloc (Nat.le_refl _) _
  by_cases h1 : sc = 1
  · subst h1
    have HV : Hid (decide (pubP 1 y h) = decide (gkP y h)) := by
      show _ = _
      exact decide_eq_decide.2 ⟨fun hh => hh.elim (fun a => a.2) (fun a => absurd a.1 (by decide)), fun hh => .inl ⟨rfl, hh⟩⟩
    have HI : Hid (ifvP 1 = .iface 154 (.agg #[])) := rfl
    rw [HI.out, kpv]
    go_enter Tryz.func102, Tryz.ntmps102
    go_wp2_with fail
    refine (schemeOf_1 _).mono ?_
    rintro e w2 ⟨rfl, rfl⟩
    go_wp2_with fail
    refine (groupPubOk_any 1 y h _ hy).mono ?_
    rintro e w3 ⟨rfl, hb3⟩
    go_wp2
    go_ret2
    exact ⟨by rw [HV.out]; rfl, keepT hbb hb3⟩
  by_cases h2 : sc = 2
  · subst h2
    have HV : Hid (decide (pubP 2 y h) = decide (hbP h)) := by
      show _ = _
      exact decide_eq_decide.2 ⟨fun hh => hh.elim (fun a => absurd a.1 (by decide)) (fun a => a.2), fun hh => .inr ⟨rfl, hh⟩⟩
    have HI : Hid (ifvP 2 = .iface 155 (.agg #[])) := rfl
    rw [HI.out, kpv]
    go_enter Tryz.func102, Tryz.ntmps102
    go_wp2_with fail
    refine (schemeOf_2 _).mono ?_
    rintro e w2 ⟨rfl, rfl⟩
    go_wp2_with fail
    refine (treePubOk_any 2 y h _).mono ?_
    rintro e w3 ⟨rfl, hb3⟩
    go_wp2
    go_ret2
    exact ⟨by rw [HV.out]; rfl, keepT hbb hb3⟩
  · have HV : Hid (decide (pubP sc y h) = false) := decide_eq_false (fun hh => hh.elim (fun a => h1 a.1) (fun a => h2 a.1))
    have HI : Hid (ifvP sc = .nilIface) := by show _ = _; unfold ifvP; rw [if_neg h1, if_neg h2]
    rw [HI.out, kpv]
    go_enter Tryz.func102, Tryz.ntmps102
    go_wp2_with fail
    refine (schemeOf_o sc _ h1 h2).mono ?_
    rintro e w2 ⟨rfl, rfl⟩
    go_wp2
    go_ret2
    exact ⟨by rw [HV.out]; rfl, hbb⟩

set_option maxRecDepth 10000 in
set_option maxHeartbeats 2000000 in
theorem l8PubOk_any (sc y h : Int) (w : World) (hy : U64 y) :
    Calls Tryz.prog 65 #[kpv sc y h] w fun e w' => e = .returned (.bool (decide (pubP sc y h))) ∧ Below w.heap.size w w' := by
  have hbb : Below w.heap.size w (w.alloc (.cells #[.int .i64 sc, .int .u64 y, .int .i64 h] 44)) := (Below.refl _ _).alloc (Nat.le_refl _) _
  obtain ⟨hy0, hy1⟩ := hy
  unfold kpv
  by_cases h1 : sc = 1
  · subst h1
    have HV : Hid (decide (pubP 1 y h) = decide (gkP y h)) := by
      show _ = _
      exact decide_eq_decide.2 ⟨fun hh => hh.elim (fun a => a.2) (fun a => absurd a.1 (by decide)), fun hh => .inl ⟨rfl, hh⟩⟩
    by_cases hh : h = 0
    · have z1 : (h == 0) = true := beq_iff_eq.2 hh
      by_cases hy2 : 1 < y ∧ y < 1000000007
      · obtain ⟨hy3, hy4⟩ := hy2
        have HK : Hid (decide (gkP y h) = decide (memP y)) := by
          show _ = _
          exact decide_eq_decide.2 ⟨fun a => a.1.1, fun a => ⟨⟨a, by omega⟩, hh⟩⟩
        clear hh
        go_enter Tryz.func65, Tryz.ntmps65
        go_wp2_with fail
        refine (l7Member_any y _).mono ?_
        rintro e w2 ⟨rfl, rfl⟩
        go_wp2
        go_ret
        exact ⟨by rw [HV.out, HK.out]; rfl, hbb⟩
      · have HK : Hid (decide (gkP y h) = false) := decide_eq_false (fun a => hy2 (by have := keyP_lt a.1; omega))
        by_cases hy3 : 1 < y
        · have hy4 : ¬ (y < 1000000007) := fun a => hy2 ⟨hy3, a⟩
          clear hh hy2
          go_enter Tryz.func65, Tryz.ntmps65
          go_wp2
          go_ret
          exact ⟨by rw [HV.out, HK.out]; rfl, hbb⟩
        · clear hh hy2
          go_enter Tryz.func65, Tryz.ntmps65
          go_wp2
          go_ret
          exact ⟨by rw [HV.out, HK.out]; rfl, hbb⟩
    · have z1 : (h == 0) = false := beq_false_of_ne hh
      have HK : Hid (decide (gkP y h) = false) := decide_eq_false (fun a => hh a.2)
      clear hh
      go_enter Tryz.func65, Tryz.ntmps65
      go_wp2
      go_ret
      exact ⟨by rw [HV.out, HK.out]; rfl, hbb⟩
  · have z0 : (sc == 1) = false := beq_false_of_ne h1
    by_cases h2 : sc = 2
    · have z2 : (sc == 2) = true := beq_iff_eq.2 h2
      by_cases h3 : 0 ≤ h ∧ h ≤ 5
      · have HV : Hid (decide (pubP sc y h) = true) := decide_eq_true (.inr ⟨h2, h3⟩)
        clear h1 h2
        go_enter Tryz.func65, Tryz.ntmps65
        go_wp2_with fail
        refine (l1In_t h 0 5 _ h3).mono ?_
        rintro e w2 ⟨rfl, rfl⟩
        go_wp2
        go_ret
        exact ⟨by rw [HV.out]; rfl, hbb⟩
      · have HV : Hid (decide (pubP sc y h) = false) := decide_eq_false (fun hh => hh.elim (fun a => h1 a.1) (fun a => h3 a.2))
        clear h1 h2
        go_enter Tryz.func65, Tryz.ntmps65
        go_wp2_with fail
        refine (l1In_f h 0 5 _ h3).mono ?_
        rintro e w2 ⟨rfl, rfl⟩
        go_wp2
        go_ret
        exact ⟨by rw [HV.out]; rfl, hbb⟩
    · have z2 : (sc == 2) = false := beq_false_of_ne h2
      have HV : Hid (decide (pubP sc y h) = false) := decide_eq_false (fun hh => hh.elim (fun a => h1 a.1) (fun a => h2 a.1))
      clear h1 h2
      go_enter Tryz.func65, Tryz.ntmps65
      go_wp2
      go_ret
      exact ⟨by rw [HV.out]; rfl, hbb⟩

end Go.Proofs.YtmoekmonkpihhaaGreat

namespace Go.Proofs.YtmoekmonkpihhaaGreat
open Go.RowKit

theorem wraps_i64 (n : Int) (h₀ : 0 ≤ n) (h₁ : n < 2 ^ 63) : IntKind.i64.wrap n = n := by rw [IntKind.wrap_i64]; omega
theorem or7 (m x : Int) (hm : 0 ≤ m) (hm' : m < 72057594037927936) (hx : 0 ≤ x) (hx' : x < 128) : bits .or .i64 (m * 128) x = m * 128 + x :=
  bits_join .i64 63 (by decide) wraps_i64 7 (m * 128) x (by omega) (by omega) (by omega) hx hx' (by omega)
theorem and7 (x : Int) (hx : 0 ≤ x) (hx' : x ≤ 255) : bits .and .u8 x 127 = x % 128 := bits_mask .u8 8 (by decide) wraps_u8 7 (by decide) x hx (by omega)

/-- The number in groups that begins the row, with m read ahead of it, at the place p. -/
def getL : List Int → Int → Int → Int × Int × Int
  | [], _, _ => (0, 0, 1)
  | x :: r, m, p => if 72057594037927936 ≤ m then (0, 0, 2) else if x < 128 then (m * 128 + x % 128, p + 1, 0) else getL r (m * 128 + x % 128) (p + 1)
def getN (bs : List Int) (p : Int) : Int × Int × Int :=
  if p < 0 ∨ (bs.length : Int) < p then (0, 0, 3) else if (bs.getD p.toNat 0) = 128 then (0, 0, 2) else getL (bs.drop p.toNat) 0 p

theorem drop_cons {bs : List Int} {k : Nat} (h : k < bs.length) : bs.drop k = bs.getD k 0 :: bs.drop (k + 1) := by
  rw [List.drop_eq_getElem_cons h]; simp [h]
theorem getL_big {bs : List Int} {k : Nat} (h : k < bs.length) {m p : Int} (hm : 72057594037927936 ≤ m) : getL (bs.drop k) m p = (0, 0, 2) := by
  rw [drop_cons h, getL, if_pos hm]
theorem getL_last {bs : List Int} {k : Nat} (h : k < bs.length) {m p : Int} (hm : ¬ 72057594037927936 ≤ m) (hx : bs.getD k 0 < 128) : getL (bs.drop k) m p = (m * 128 + bs.getD k 0 % 128, p + 1, 0) := by
  rw [drop_cons h, getL, if_neg hm, if_pos hx]
theorem getL_next {bs : List Int} {k : Nat} (h : k < bs.length) {m p : Int} (hm : ¬ 72057594037927936 ≤ m) (hx : ¬ bs.getD k 0 < 128) : getL (bs.drop k) m p = getL (bs.drop (k + 1)) (m * 128 + bs.getD k 0 % 128) (p + 1) := by
  rw [drop_cons h, getL, if_neg hm, if_neg hx]
theorem getL_end {bs : List Int} {k : Nat} (h : bs.length ≤ k) {m p : Int} : getL (bs.drop k) m p = (0, 0, 1) := by
  rw [List.drop_eq_nil_of_le h, getL]

def trip (t : Int × Int × Int) : Value := .tuple #[.int .i64 t.1, .int .i64 t.2.1, .int .i64 t.2.2]

set_option maxRecDepth 10000 in
set_option maxHeartbeats 1000000 in
theorem specGetNum_any (a : Option Addr) (n cap : Nat) (bs : List Int) (p : Int) (w : World) (h : Row w a n bs) (hn : n ≤ 1000000000000) :
    Calls Tryz.prog 66 #[.slice a n cap, .int .i64 p] w fun e w' => e = .returned (trip (getN bs p)) ∧ w' = w := by
  have H0 : Hid (Row w a n bs) := h
  have hby := h.byte
  have HL : Hid (bs.length = n) := h.len
  clear h
  by_cases hp : p < 0
  · have hf : Hid (getN bs p = (0, 0, 3)) := by show _ = _; rw [getN, if_pos (.inl hp)]
    go_enter Tryz.func66, Tryz.ntmps66
    go_wp2
    go_ret3
    exact ⟨by rw [hf.out]; rfl, rfl⟩
  · by_cases hpn : (n : Int) < p
    · have hf : Hid (getN bs p = (0, 0, 3)) := by show _ = _; rw [getN, if_pos (.inr (by rw [HL.out]; exact hpn))]
      go_enter Tryz.func66, Tryz.ntmps66
      go_wp2
      go_ret3
      exact ⟨by rw [hf.out]; rfl, rfl⟩
    · obtain ⟨s, rfl⟩ := Int.eq_ofNat_of_zero_le (show 0 ≤ p by omega)
      have hG : getN bs (s : Int) = if (bs.getD s 0) = 128 then (0, 0, 2) else getL (bs.drop s) 0 s := by
        rw [getN, if_neg (by rw [HL.out]; omega), Int.toNat_natCast]
      have HG : Hid (getN bs (s : Int) = if (bs.getD s 0) = 128 then (0, 0, 2) else getL (bs.drop s) 0 s) := hG
      clear hG
      go_enter Tryz.func66, Tryz.ntmps66
      go_wp2
      go_loop [7, 8] (fun m i => ∃ (k : Nat) (mm : Int), s ≤ k ∧ k ≤ n ∧ i = .int .i64 k ∧ m = .int .i64 mm ∧ 0 ≤ mm ∧ mm ≤ 9223372036854775807 ∧ (k = s → mm = 0) ∧ (s < k → bs.getD s 0 ≠ 128) ∧ getL (bs.drop s) 0 s = getL (bs.drop k) mm k) (fun _ i => n + 1 - (intOf i).toNat)
      case atStart => exact ⟨s, 0, by omega, by omega, rfl, rfl, by omega, by omega, fun _ => rfl, fun h => absurd h (Nat.lt_irrefl _), rfl⟩
      case round =>
        obtain ⟨k, mm, hsk, hkn, rfl, rfl, hm0, hm1, hz, hf, hg⟩ := hrel
        have HG2 : Hid (getL (bs.drop s) 0 s = getL (bs.drop k) mm k) := hg
        have HZ : Hid (k = s → mm = 0) := hz
        have HF : Hid (s < k → bs.getD s 0 ≠ 128) := hf
        clear hg hz hf
        by_cases hlt : k < n
        · have hlb : k < bs.length := by have := HL.out; omega
          obtain ⟨b, off, rfl, hb, hc⟩ := H0.out.get k hlt
          obtain ⟨x, hx⟩ : ∃ x, x = bs.getD k 0 := ⟨_, rfl⟩
          have hxb := hby k
          rw [← hx] at hc hxb
          obtain ⟨hx0, hx1⟩ := hxb
          have HX : Hid (x = bs.getD k 0) := hx
          clear hx
          have hand : bits .and .u8 x 127 = x % 128 := and7 x hx0 hx1
          by_cases hc1 : k = s ∧ x = 128
          · obtain ⟨hks, h128⟩ := hc1
            have hfin : Hid (getN bs (s : Int) = (0, 0, 2)) := by show _ = _; rw [HG.out, ← hks, if_pos (by rw [← HX.out]; exact h128)]
            have e1 : ((k : Int) == (s : Int)) = true := by simp [hks]
            have e2 : (x == 128) = true := by simp [h128]
            clear hks h128
            go_wp2
            go_ret3
            exact ⟨by rw [hfin.out]; rfl, rfl⟩
          · have hgn : Hid (getN bs (s : Int) = getL (bs.drop k) mm k) := by
              show _ = _
              rw [HG.out, if_neg ?_, HG2.out]
              by_cases hks : k = s
              · subst hks
                intro e; exact hc1 ⟨rfl, by rw [HX.out]; exact e⟩
              · exact HF.out (by omega)
            have hfirst : Hid (bs.getD s 0 ≠ 128) := by
              show _ ≠ _
              by_cases hks : k = s
              · subst hks
                intro e; exact hc1 ⟨rfl, by rw [HX.out]; exact e⟩
              · exact HF.out (by omega)
            have hcase : (((k : Int) == (s : Int)) = true ∧ (x == 128) = false ∧ mm ≤ 0) ∨ ((k : Int) == (s : Int)) = false := by
              by_cases hks : k = s
              · left
                refine ⟨by simp [hks], ?_, by have := HZ.out hks; omega⟩
                simp; intro e; exact hc1 ⟨hks, e⟩
              · right; simp; omega
            clear hc1
            by_cases hbig : 72057594037927936 ≤ mm
            · have hfin : Hid (getN bs (s : Int) = (0, 0, 2)) := by show _ = _; rw [hgn.out, getL_big hlb hbig]
              have e1 : ((k : Int) == (s : Int)) = false := by
                rcases hcase with ⟨_, _, h0⟩ | h0
                · omega
                · exact h0
              clear hcase
              go_wp2
              go_ret3
              exact ⟨by rw [hfin.out]; rfl, rfl⟩
            · have hor : bits .or .i64 (mm * 128) (x % 128) = mm * 128 + x % 128 := or7 mm (x % 128) hm0 (by omega) (by omega) (by omega)
              by_cases hx128 : x < 128
              · have hfin : Hid (getN bs (s : Int) = (mm * 128 + x % 128, (k : Int) + 1, 0)) := by show _ = _; rw [hgn.out, getL_last hlb hbig (by rw [← HX.out]; exact hx128), ← HX.out]
                rcases hcase with ⟨e1, e2, e3⟩ | e1
                all_goals
                  go_wp2
                  go_ret3
                  exact ⟨by rw [hfin.out]; rfl, rfl⟩
              · have hnext : Hid (getL (bs.drop s) 0 s = getL (bs.drop (k + 1)) (mm * 128 + x % 128) ((k : Int) + 1)) := by
                  show _ = _; rw [HG2.out, getL_next hlb hbig (by rw [← HX.out]; exact hx128), ← HX.out]
                rcases hcase with ⟨e1, e2, e3⟩ | e1
                all_goals
                  go_wp2
                  go_round
                  case rel => exact ⟨k + 1, mm * 128 + x % 128, by omega, by omega, by go_num, rfl, by omega, by omega, fun e => by omega, fun _ => hfirst.out, by rw [hnext.out]; rfl⟩
                  case measure => simp [intOf]; omega
        · have hkn' : k = n := by omega
          subst hkn'
          have hfin : Hid (getN bs (s : Int) = (0, 0, 1)) := by
            show _ = _
            rw [HG.out]
            have hl := HL.out
            rw [if_neg ?_, HG2.out, getL_end (by omega)]
            by_cases hsk' : s < k
            · exact HF.out hsk'
            · rw [List.getD_eq_getElem?_getD, List.getElem?_eq_none (by omega)]; simp
          go_wp2
          go_ret3
          exact ⟨by rw [hfin.out]; rfl, rfl⟩

set_option maxRecDepth 10000 in
set_option maxHeartbeats 1000000 in
theorem implGetNum_any (a : Option Addr) (n cap : Nat) (bs : List Int) (p : Int) (w : World) (h : Row w a n bs) (hn : n ≤ 1000000000000) :
    Calls Tryz.prog 141 #[.slice a n cap, .int .i64 p] w fun e w' => e = .returned (trip (getN bs p)) ∧ w' = w := by
  have H0 : Hid (Row w a n bs) := h
  have hby := h.byte
  have HL : Hid (bs.length = n) := h.len
  clear h
  by_cases hp : p < 0
  · have hf : Hid (getN bs p = (0, 0, 3)) := by show _ = _; rw [getN, if_pos (.inl hp)]
    go_enter Tryz.func141, Tryz.ntmps141
    go_wp2
    go_ret3
    exact ⟨by rw [hf.out]; rfl, rfl⟩
  · by_cases hpn : (n : Int) < p
    · have hf : Hid (getN bs p = (0, 0, 3)) := by show _ = _; rw [getN, if_pos (.inr (by rw [HL.out]; exact hpn))]
      go_enter Tryz.func141, Tryz.ntmps141
      go_wp2
      go_ret3
      exact ⟨by rw [hf.out]; rfl, rfl⟩
    · obtain ⟨s, rfl⟩ := Int.eq_ofNat_of_zero_le (show 0 ≤ p by omega)
      have hG : getN bs (s : Int) = if (bs.getD s 0) = 128 then (0, 0, 2) else getL (bs.drop s) 0 s := by
        rw [getN, if_neg (by rw [HL.out]; omega), Int.toNat_natCast]
      have HG : Hid (getN bs (s : Int) = if (bs.getD s 0) = 128 then (0, 0, 2) else getL (bs.drop s) 0 s) := hG
      clear hG
      by_cases hc1 : s < n ∧ bs.getD s 0 = 128
      · obtain ⟨hsn, h128⟩ := hc1
        obtain ⟨b, off, rfl, hb, hc⟩ := H0.out.get s hsn
        rw [h128] at hc
        have hfin : Hid (getN bs (s : Int) = (0, 0, 2)) := by show _ = _; rw [HG.out, if_pos h128]
        clear h128
        go_enter Tryz.func141, Tryz.ntmps141
        go_wp2
        go_ret3
        exact ⟨by rw [hfin.out]; rfl, rfl⟩
      · have hgn : Hid (getN bs (s : Int) = getL (bs.drop s) 0 s) := by
          show _ = _
          rw [HG.out, if_neg ?_]
          intro e
          by_cases hsn : s < n
          · exact hc1 ⟨hsn, e⟩
          · rw [List.getD_eq_getElem?_getD, List.getElem?_eq_none (by have := HL.out; omega)] at e; simp at e
        have hsx : s < n → ∃ b off x, a = some ⟨b, off, none⟩ ∧ w.cell? ⟨b, off + s, none⟩ = some (.int .u8 x) ∧ (x == 128) = false := by
          intro hsn
          obtain ⟨b, off, ha, _, hc⟩ := H0.out.get s hsn
          exact ⟨b, off, _, ha, hc, by simp only [beq_eq_false_iff_ne]; exact fun e => hc1 ⟨hsn, e⟩⟩
        have HSX : Hid (s < n → ∃ b off x, a = some ⟨b, off, none⟩ ∧ w.cell? ⟨b, off + s, none⟩ = some (.int .u8 x) ∧ (x == 128) = false) := hsx
        clear hsx hc1
        by_cases hsn : s < n
        · obtain ⟨b0, off0, x0, rfl, hx0c, hx0n⟩ := HSX.out hsn
          go_enter Tryz.func141, Tryz.ntmps141
          go_wp2
          go_loop [8, 9] (fun m i => ∃ (k : Nat) (mm : Int), k ≤ n ∧ i = .int .i64 k ∧ m = .int .i64 mm ∧ 0 ≤ mm ∧ mm ≤ 9223372036854775807 ∧ getL (bs.drop s) 0 s = getL (bs.drop k) mm k) (fun _ i => n + 1 - (intOf i).toNat)
          case atStart => exact ⟨s, 0, by omega, rfl, rfl, by omega, by omega, rfl⟩
          case round =>
            obtain ⟨k, mm, hkn, rfl, rfl, hm0, hm1, hg⟩ := hrel
            have HG2 : Hid (getL (bs.drop s) 0 s = getL (bs.drop k) mm k) := hg
            clear hg
            by_cases hlt : k < n
            · have hlb : k < bs.length := by have := HL.out; omega
              obtain ⟨b, off, ha, hb, hc⟩ := H0.out.get k hlt
              simp only [Option.some.injEq, Addr.mk.injEq, and_true] at ha
              obtain ⟨rfl, rfl⟩ := ha
              obtain ⟨x, hx⟩ : ∃ x, x = bs.getD k 0 := ⟨_, rfl⟩
              have hxb := hby k
              rw [← hx] at hc hxb
              obtain ⟨hx0, hx1⟩ := hxb
              have HX : Hid (x = bs.getD k 0) := hx
              clear hx
              have hand : bits .and .u8 x 127 = x % 128 := and7 x hx0 hx1
              by_cases hbig : 72057594037927936 ≤ mm
              · have hfin : Hid (getN bs (s : Int) = (0, 0, 2)) := by show _ = _; rw [hgn.out, HG2.out, getL_big hlb hbig]
                go_wp2
                go_ret3
                exact ⟨by rw [hfin.out]; rfl, rfl⟩
              · have hor : bits .or .i64 (mm * 128) (x % 128) = mm * 128 + x % 128 := or7 mm (x % 128) hm0 (by omega) (by omega) (by omega)
                by_cases hx128 : x < 128
                · have hfin : Hid (getN bs (s : Int) = (mm * 128 + x % 128, (k : Int) + 1, 0)) := by show _ = _; rw [hgn.out, HG2.out, getL_last hlb hbig (by rw [← HX.out]; exact hx128), ← HX.out]
                  go_wp2
                  go_ret3
                  exact ⟨by rw [hfin.out]; rfl, rfl⟩
                · have hnext : Hid (getL (bs.drop s) 0 s = getL (bs.drop (k + 1)) (mm * 128 + x % 128) ((k : Int) + 1)) := by
                    show _ = _; rw [HG2.out, getL_next hlb hbig (by rw [← HX.out]; exact hx128), ← HX.out]
                  go_wp2
                  go_round
                  case rel => exact ⟨k + 1, mm * 128 + x % 128, by omega, by go_num, rfl, by omega, by omega, by rw [hnext.out]; rfl⟩
                  case measure => simp [intOf]; omega
            · have hfin : Hid (getN bs (s : Int) = (0, 0, 1)) := by
                show _ = _
                rw [hgn.out, HG2.out, getL_end (by have := HL.out; omega)]
              go_wp2
              go_ret3
              exact ⟨by rw [hfin.out]; rfl, rfl⟩
        · have hfin : Hid (getN bs (s : Int) = (0, 0, 1)) := by
            show _ = _
            rw [hgn.out, getL_end (by have := HL.out; omega)]
          go_enter Tryz.func141, Tryz.ntmps141
          go_wp2
          refine wp_loop_rounds 1 ?_
          rw [rounds_succ]
          go_wp2
          go_ret3
          exact ⟨by rw [hfin.out]; rfl, rfl⟩

end Go.Proofs.YtmoekmonkpihhaaGreat

namespace Go.Proofs.YtmoekmonkpihhaaGreat
open Go.RowKit

theorem below_drewN2 {B : Nat} {w w' : World} (h : Below B w w') (n : Nat) : Below B w (w'.drewN n) := by
  induction n with
  | zero => simpa [World.drewN] using h
  | succ n ih => exact ih.drew
def verP (y : Int) (ms : List Int) (p : Int × Int) : Prop := keyP y ∧ expP p.1 ∧ expP p.2 ∧ p.1 = chalN (movN 1 y p.2 p.1) y ms
instance (y : Int) (ms : List Int) (p : Int × Int) : Decidable (verP y ms p) := by unfold verP; infer_instance
theorem movN_bd (r y a b : Int) : 0 ≤ movN r y a b ∧ movN r y a b < 1000000007 := mod_bd _ (by decide)

set_option maxRecDepth 10000 in
set_option maxHeartbeats 2000000 in
theorem implVerify_any (y : Int) (a : Option Addr) (n c : Nat) (ms : List Int) (p : Int × Int) (w : World) (h : Row w a n ms) (hn : n ≤ 1048576) (hc : a = none → c = 0) :
    Calls Tryz.prog 142 #[.int .i64 y, .slice a n c, sigv p] w fun e w' => e = .returned (.bool (decide (verP y ms p))) ∧ Below w.heap.size w w' := by
  have H0 : Hid (Row w a n ms) := h
  clear h
  obtain ⟨E, Z⟩ := p
  have hb0 : Below w.heap.size w (w.alloc (.cells #[.int .i64 E, .int .i64 Z] 79)) := (Below.refl _ _).alloc (Nat.le_refl _) _
  have hbx := boxS_new 79 w E Z
  have q0 := hbx.c0
  have q1 := hbx.c1
  unfold sigv
  by_cases h1 : keyP y
  · by_cases h2 : expP E
    · by_cases h3 : expP Z
      · have HV : Hid ((E == chalN (movN 1 y Z E) y ms) = decide (verP y ms (E, Z))) := by
          show _ = _
          by_cases h4 : E = chalN (movN 1 y Z E) y ms
          · rw [decide_eq_true ⟨h1, h2, h3, h4⟩, beq_iff_eq.2 h4]
          · rw [decide_eq_false (fun hh => h4 hh.2.2.2), beq_false_of_ne h4]
        have hy0 := h1.1.1.1
        have hy1 := h1.1.1.2
        go_enter Tryz.func142, Tryz.ntmps142
        go_wp2_with fail
        refine (isKey_any y _).mono ?_
        rintro e w1 ⟨rfl, rfl⟩
        rw [decide_eq_true h1]
        go_wp2_with fail
        refine (isExponent_any E _).mono ?_
        rintro e w1 ⟨rfl, rfl⟩
        rw [decide_eq_true h2]
        go_wp2_with fail
        refine (isExponent_any Z _).mono ?_
        rintro e w1 ⟨rfl, rfl⟩
        rw [decide_eq_true h3]
        obtain ⟨w1, hw1⟩ : ∃ w1, w1 = w.alloc (.cells #[.int .i64 E, .int .i64 Z] 79) := ⟨_, rfl⟩
        rw [← hw1] at q0 q1 hbx hb0 ⊢
        clear hw1
        go_wp2_with fail
        have hmb := movN_bd 1 y Z E
        have CH : Hid (_) := implChallenge_any (movN 1 y Z E) y a n c ms w1.drew (H0.out.kept hb0.drew) hn hc (by omega) (by omega)
        have HXD : ∀ (w7 : World), Below w1.drew.heap.size w1.drew w7 → w7.cell? ⟨w.heap.size, 0, none⟩ = some (.int .i64 E) ∧ w7.cell? ⟨w.heap.size, 1, none⟩ = some (.int .i64 Z) := fun w7 h7 =>
          have hk := (hbx.kept (Below.refl _ _).drew).kept h7
          ⟨hk.c0, hk.c1⟩
        have SS := HXD w1.drew (Below.refl _ _)
        clear q0 q1
        go_region_held_law (fun w' => w'.cell? ⟨w.heap.size, 0, none⟩ = some (.int .i64 E) ∧ w'.cell? ⟨w.heap.size, 1, none⟩ = some (.int .i64 Z)) (first | assumption | exact SS | exact SS3)
          (first
            | (go_at_call 148; refine (moved_any 1 y Z E _ (by decide) (by decide) (by omega) hy1 h3 h2).mono ?_; rintro e w2 ⟨rfl, rfl⟩)
            | (go_at_call 145; refine Calls.mono CH.out ?_; rintro e w3 ⟨rfl, hb3⟩; have SS3 := HXD w3 hb3))
        all_goals
          go_wp2
          go_ret
          exact ⟨by rw [← HV.out]; rfl, keep_first hb0.drew hb3⟩
      · have HV : Hid (decide (verP y ms (E, Z)) = false) := decide_eq_false (fun hh => h3 hh.2.2.1)
        go_enter Tryz.func142, Tryz.ntmps142
        go_wp2_with fail
        refine (isKey_any y _).mono ?_
        rintro e w1 ⟨rfl, rfl⟩
        rw [decide_eq_true h1]
        go_wp2_with fail
        refine (isExponent_any E _).mono ?_
        rintro e w1 ⟨rfl, rfl⟩
        rw [decide_eq_true h2]
        go_wp2_with fail
        refine (isExponent_any Z _).mono ?_
        rintro e w1 ⟨rfl, rfl⟩
        rw [decide_eq_false h3]
        go_wp2
        go_ret
        exact ⟨by rw [HV.out]; rfl, hb0⟩
    · have HV : Hid (decide (verP y ms (E, Z)) = false) := decide_eq_false (fun hh => h2 hh.2.1)
      go_enter Tryz.func142, Tryz.ntmps142
      go_wp2_with fail
      refine (isKey_any y _).mono ?_
      rintro e w1 ⟨rfl, rfl⟩
      rw [decide_eq_true h1]
      go_wp2_with fail
      refine (isExponent_any E _).mono ?_
      rintro e w1 ⟨rfl, rfl⟩
      rw [decide_eq_false h2]
      go_wp2
      go_ret
      exact ⟨by rw [HV.out]; rfl, hb0⟩
  · have HV : Hid (decide (verP y ms (E, Z)) = false) := decide_eq_false (fun hh => h1 hh.1)
    go_enter Tryz.func142, Tryz.ntmps142
    go_wp2_with fail
    refine (isKey_any y _).mono ?_
    rintro e w1 ⟨rfl, rfl⟩
    rw [decide_eq_false h1]
    go_wp2
    go_ret
    exact ⟨by rw [HV.out]; rfl, hb0⟩

set_option maxRecDepth 10000 in
set_option maxHeartbeats 2000000 in
theorem specVerify_any (y : Int) (a : Option Addr) (n c : Nat) (ms : List Int) (p : Int × Int) (w : World) (h : Row w a n ms) (hn : n ≤ 1048576) (hc : a = none → c = 0) :
    Calls Tryz.prog 67 #[.int .i64 y, .slice a n c, sigv p] w fun e w' => e = .returned (.bool (decide (verP y ms p))) ∧ Below w.heap.size w w' := by
  have H0 : Hid (Row w a n ms) := h
  clear h
  obtain ⟨E, Z⟩ := p
  have hb0 : Below w.heap.size w (w.alloc (.cells #[.int .i64 E, .int .i64 Z] 79)) := (Below.refl _ _).alloc (Nat.le_refl _) _
  have hbx := boxS_new 79 w E Z
  have q0 := hbx.c0
  have q1 := hbx.c1
  unfold sigv
  by_cases h1 : memP y
  · by_cases h1' : y = 1
    · have HV : Hid (decide (verP y ms (E, Z)) = false) := decide_eq_false (fun hh => hh.1.2 h1')
      have z1 : (y == 1) = true := beq_iff_eq.2 h1'
      clear h1'
      go_enter Tryz.func67, Tryz.ntmps67
      go_wp2_with fail
      refine (l7Member_any y _).mono ?_
      rintro e w1 ⟨rfl, rfl⟩
      rw [decide_eq_true h1]
      go_wp2
      go_ret
      exact ⟨by rw [HV.out]; rfl, hb0⟩
    have z1 : (y == 1) = false := beq_false_of_ne h1'
    have HKE : Hid (y ≠ 1) := h1'
    clear h1'
    by_cases h2 : expP E
    · by_cases h3 : expP Z
      · have HV : Hid ((E == chalN (gp 4 Z * gp y (500000003 - E) % 1000000007) y ms) = decide (verP y ms (E, Z))) := by
          show _ = _
          rw [← movN_one]
          by_cases h4 : E = chalN (movN 1 y Z E) y ms
          · rw [decide_eq_true ⟨⟨h1, HKE.out⟩, h2, h3, h4⟩, beq_iff_eq.2 h4]
          · rw [decide_eq_false (fun hh => h4 hh.2.2.2), beq_false_of_ne h4]
        have hy0 := h1.1.1
        have hy1 := h1.1.2
        have hE0 := h2.1
        have hE1 := h2.2
        have hZ0 := h3.1
        have hZ1 := h3.2
        obtain ⟨h10, h11⟩ := gp_bd 4 Z
        obtain ⟨h20, h21⟩ := gp_bd y (500000003 - E)
        obtain ⟨hq0, hq1⟩ := prod_bd h10 h11 h20 h21 (Int.le_refl _)
        obtain ⟨hm0, hm1⟩ := mod_bd (gp 4 Z * gp y (500000003 - E)) (show (1 : Int) ≤ 1000000007 by decide)
        go_enter Tryz.func67, Tryz.ntmps67
        go_wp2_with fail
        refine (l7Member_any y _).mono ?_
        rintro e w1 ⟨rfl, rfl⟩
        rw [decide_eq_true h1]
        go_wp2_with fail
        refine (l7Exp_any E _).mono ?_
        rintro e w1 ⟨rfl, rfl⟩
        rw [decide_eq_true h2]
        go_wp2_with fail
        refine (l7Exp_any Z _).mono ?_
        rintro e w1 ⟨rfl, rfl⟩
        rw [decide_eq_true h3]
        obtain ⟨w1, hw1⟩ : ∃ w1, w1 = w.alloc (.cells #[.int .i64 E, .int .i64 Z] 79) := ⟨_, rfl⟩
        rw [← hw1] at q0 q1 hbx hb0 ⊢
        clear hw1
        go_wp2_with fail
        go_quiet (first
          | (go_at_call_of 75 (4 : Int); refine Calls.quiet_of_same (l7PowP_any 4 Z _ (by decide) (by decide) hZ0 (by omega)))
          | (go_at_call_of 75 y; refine Calls.quiet_of_same (l7PowP_any y (500000003 - E) _ (by omega) hy1 (by omega) (by omega))))
        go_wp2_with fail
        obtain ⟨w2, hw2⟩ : ∃ w2, w2 = w1.drewN nq := ⟨_, rfl⟩
        rw [← hw2]
        have B2 : Below w.heap.size w w2 := by rw [hw2]; exact below_drewN2 hb0 _
        have hbx2 : BoxS 79 w.heap.size w2 (E, Z) := by rw [hw2]; exact hbx.kept (below_drewN2 (Below.refl _ _) _)
        clear hw2 q0 q1 hb0 hbx
        have CH : Hid (_) := specChallenge_any (gp 4 Z * gp y (500000003 - E) % 1000000007) y a n c ms w2.drew (H0.out.kept B2.drew) hn hc (by omega) (by omega)
        have HXD : ∀ (w7 : World), Below w2.drew.heap.size w2.drew w7 → w7.cell? ⟨w.heap.size, 0, none⟩ = some (.int .i64 E) := fun w7 h7 => ((hbx2.kept (Below.refl _ _).drew).kept h7).c0
        have SS := HXD w2.drew (Below.refl _ _)
        go_region_held_law (fun w' => w'.cell? ⟨w.heap.size, 0, none⟩ = some (.int .i64 E)) (first | assumption | exact SS | exact SS3)
          ((go_at_call 74; refine Calls.mono CH.out ?_; rintro e w3 ⟨rfl, hb3⟩; have SS3 := HXD w3 hb3))
        all_goals
          go_wp2
          go_ret
          exact ⟨by rw [← HV.out]; rfl, keep_first B2.drew hb3⟩
      · have HV : Hid (decide (verP y ms (E, Z)) = false) := decide_eq_false (fun hh => h3 hh.2.2.1)
        go_enter Tryz.func67, Tryz.ntmps67
        go_wp2_with fail
        refine (l7Member_any y _).mono ?_
        rintro e w1 ⟨rfl, rfl⟩
        rw [decide_eq_true h1]
        go_wp2_with fail
        refine (l7Exp_any E _).mono ?_
        rintro e w1 ⟨rfl, rfl⟩
        rw [decide_eq_true h2]
        go_wp2_with fail
        refine (l7Exp_any Z _).mono ?_
        rintro e w1 ⟨rfl, rfl⟩
        rw [decide_eq_false h3]
        go_wp2
        go_ret
        exact ⟨by rw [HV.out]; rfl, hb0⟩
    · have HV : Hid (decide (verP y ms (E, Z)) = false) := decide_eq_false (fun hh => h2 hh.2.1)
      go_enter Tryz.func67, Tryz.ntmps67
      go_wp2_with fail
      refine (l7Member_any y _).mono ?_
      rintro e w1 ⟨rfl, rfl⟩
      rw [decide_eq_true h1]
      go_wp2_with fail
      refine (l7Exp_any E _).mono ?_
      rintro e w1 ⟨rfl, rfl⟩
      rw [decide_eq_false h2]
      go_wp2
      go_ret
      exact ⟨by rw [HV.out]; rfl, hb0⟩
  · have HV : Hid (decide (verP y ms (E, Z)) = false) := decide_eq_false (fun hh => h1 hh.1.1)
    go_enter Tryz.func67, Tryz.ntmps67
    go_wp2_with fail
    refine (l7Member_any y _).mono ?_
    rintro e w1 ⟨rfl, rfl⟩
    rw [decide_eq_false h1]
    go_wp2
    go_ret
    exact ⟨by rw [HV.out]; rfl, hb0⟩

end Go.Proofs.YtmoekmonkpihhaaGreat

namespace Go.Proofs.YtmoekmonkpihhaaGreat
open Go.RowKit

theorem getL_place (l : List Int) : ∀ (m p : Int), (getL l m p).2.2 = 0 → p ≤ (getL l m p).2.1 ∧ (getL l m p).2.1 ≤ p + l.length := by
  induction l with
  | nil => intro m p h; simp [getL] at h
  | cons x r ih =>
    intro m p h
    rw [getL] at h ⊢
    split at h
    · simp at h
    · rename_i h1
      rw [if_neg h1]
      split at h
      · rename_i h2
        rw [if_pos h2]
        simp
        omega
      · rename_i h2
        rw [if_neg h2]
        have := ih _ _ h
        simp
        omega
theorem getN_place (bs : List Int) (p : Int) (h : (getN bs p).2.2 = 0) : 0 ≤ (getN bs p).2.1 ∧ (getN bs p).2.1 ≤ bs.length := by
  unfold getN at h ⊢
  split at h
  · simp at h
  · rename_i h1
    rw [if_neg h1]
    split at h
    · simp at h
    · rename_i h2
      rw [if_neg h2]
      have := getL_place _ _ _ h
      rw [List.length_drop] at this
      omega
def vgP (y : Int) (ms ss : List Int) : Prop := (getN ss 0).2.2 = 0 ∧ (getN ss (getN ss 0).2.1).2.2 = 0 ∧ (getN ss (getN ss 0).2.1).2.1 = (ss.length : Int) ∧ verP y ms ((getN ss 0).1, (getN ss (getN ss 0).2.1).1)
instance (y : Int) (ms ss : List Int) : Decidable (vgP y ms ss) := by unfold vgP; infer_instance

set_option maxRecDepth 10000 in
set_option maxHeartbeats 4000000 in
theorem groupVerify_any (sc y h : Int) (am : Option Addr) (n c : Nat) (ms : List Int) (ag : Option Addr) (ng cg : Nat) (ss : List Int) (w : World) (hr : Row w am n ms) (hn : n ≤ 1048576) (hc : am = none → c = 0) (hg : Row w ag ng ss) (hng : ng ≤ 1048576) (hy : keyP y) :
    Calls Tryz.prog 136 #[.agg #[], kpv sc y h, .slice am n c, .slice ag ng cg] w fun e w' => e = .returned (.bool (decide (vgP y ms ss))) ∧ Below w.heap.size w w' := by
  have hyl := keyP_lt hy
  obtain ⟨hy0, hy1⟩ := hyl
  obtain ⟨wb, hwb⟩ : ∃ wb, wb = (w.alloc (.cells #[] 154)).alloc (.cells #[.int .i64 sc, .int .u64 y, .int .i64 h] 44) := ⟨_, rfl⟩
  have hbb : Below w.heap.size w wb := by rw [hwb]; exact two_below _ _ _
  have hbx : wb.heap[w.heap.size + 1]? = some (.cells #[.int .i64 sc, .int .u64 y, .int .i64 h] 44) := by rw [hwb]; exact (two_blocks w _ _).2
  have HW : Hid (_ = _) := hwb
  have HG : Hid (Row wb ag ng ss) := hg.kept hbb
  have HM : Hid (Row wb am n ms) := hr.kept hbb
  have HL : Hid (ss.length = ng) := hg.len
  have q1 : wb.cell? ⟨w.heap.size + 1, 1, none⟩ = some (.int .u64 y) := (cell_of_row _ _ 1 _ 44 (0, 0) hbx).trans rfl
  obtain ⟨t1, ht1⟩ : ∃ t1, t1 = getN ss 0 := ⟨_, rfl⟩
  have H1 : Hid (getN ss 0 = t1) := ht1.symm
  obtain ⟨e1, at1, k1⟩ := t1
  obtain ⟨t2, ht2⟩ : ∃ t2, t2 = getN ss at1 := ⟨_, rfl⟩
  have H2 : Hid (getN ss at1 = t2) := ht2.symm
  obtain ⟨e2, at2, k2⟩ := t2
  have HV : Hid (vgP y ms ss ↔ (k1 = 0 ∧ k2 = 0 ∧ at2 = (ng : Int) ∧ verP y ms (e1, e2))) := by
    show _ ↔ _
    unfold vgP
    rw [H1.out, H2.out, HL.out]
  clear hwb hg hr hbx ht1 ht2
  unfold kpv
  go_enter Tryz.func136, Tryz.ntmps136
  go_upto_region 1 with fail
  rw [← HW.out]
  clear HW
  go_wp2_with fail
  refine (implGetNum_any ag ng cg ss 0 _ HG.out (by omega)).mono ?_
  rintro e w2 ⟨rfl, hw⟩
  have hw2 := hw.symm
  subst hw2
  rw [H1.out, trip]
  go_wp2_with fail
  refine (implGetNum_any ag ng cg ss at1 _ HG.out (by omega)).mono ?_
  rintro e w2 ⟨rfl, hw⟩
  have hw2 := hw.symm
  subst hw2
  rw [H2.out, trip]
  by_cases hk1 : k1 = 0
  · have z1 : (k1 != 0) = false := by simp [hk1]
    by_cases hk2 : k2 = 0
    · have z2 : (k2 != 0) = false := by simp [hk2]
      by_cases ha : at2 = (ng : Int)
      · have z3 : (at2 != (ng : Int)) = false := by simp [ha]
        have HE : Hid (decide (vgP y ms ss) = decide (verP y ms (e1, e2))) := decide_eq_decide.2 ⟨fun a => (HV.out.1 a).2.2.2, fun a => HV.out.2 ⟨hk1, hk2, ha, a⟩⟩
        clear hk1 hk2 ha
        go_wp2_with fail
        refine (implVerify_any y am n c ms (e1, e2) _ HM.out hn hc).mono ?_
        rintro e w3 ⟨rfl, hb3⟩
        go_wp2
        go_ret
        exact ⟨by rw [HE.out]; rfl, keepT hbb hb3⟩
      · have z3 : (at2 != (ng : Int)) = true := by simp [ha]
        have HE : Hid (decide (vgP y ms ss) = false) := decide_eq_false (fun a => ha (HV.out.1 a).2.2.1)
        clear hk1 hk2 ha
        go_wp2
        go_ret
        exact ⟨by rw [HE.out]; rfl, hbb⟩
    · have z2 : (k2 != 0) = true := by simp [hk2]
      have HE : Hid (decide (vgP y ms ss) = false) := decide_eq_false (fun a => hk2 (HV.out.1 a).2.1)
      clear hk1 hk2
      go_wp2
      go_ret
      exact ⟨by rw [HE.out]; rfl, hbb⟩
  · have z1 : (k1 != 0) = true := by simp [hk1]
    have HE : Hid (decide (vgP y ms ss) = false) := decide_eq_false (fun a => hk1 (HV.out.1 a).1)
    clear hk1
    go_wp2
    go_ret
    exact ⟨by rw [HE.out]; rfl, hbb⟩

end Go.Proofs.YtmoekmonkpihhaaGreat

namespace Go.Proofs.YtmoekmonkpihhaaGreat
open Go.RowKit

theorem rowU_from {w : World} {g n : Nat} {zs : List Int} (h : RowU w (some ⟨g, 0, none⟩) n zs) (k : Nat) (hk : k ≤ n) : RowU w (some ⟨g, k, none⟩) (n - k) (zs.drop k) := by
  refine ⟨by rw [List.length_drop, h.len], fun i hi => ?_, fun i => ?_⟩
  · obtain ⟨b', off', e, hb, hc⟩ := h.get (k + i) (by omega)
    simp only [Option.some.injEq, Addr.mk.injEq, and_true] at e
    obtain ⟨rfl, rfl⟩ := e
    exact ⟨g, k, rfl, hb, by rw [Nat.zero_add] at hc; exact hc.trans (by simp [List.getD_eq_getElem?_getD])⟩
  · have := h.rng (k + i)
    rw [List.getD_eq_getElem?_getD, List.getElem?_drop]
    simpa [List.getD_eq_getElem?_getD] using this
def vtP (y h : Int) (ms ss : List Int) : Prop := (getN ss 0).2.2 = 0 ∧ (ss.length : Int) - (getN ss 0).2.1 = 8 * (18 + h) ∧ tvP y h ms (getN ss 0).1 ((dgs (ss.drop (getN ss 0).2.1.toNat) (18 + h).toNat).take 18) ((dgs (ss.drop (getN ss 0).2.1.toNat) (18 + h).toNat).drop 18)
instance (y h : Int) (ms ss : List Int) : Decidable (vtP y h ms ss) := by unfold vtP; infer_instance

set_option maxRecDepth 10000 in
set_option maxHeartbeats 4000000 in
theorem treeVerify_any (sc y h : Int) (am : Option Addr) (n c : Nat) (ms : List Int) (ag : Option Addr) (ng cg : Nat) (ss : List Int) (w : World) (hr : Row w am n ms) (hn : n ≤ 1048576) (hg : Row w ag ng ss) (hng : ng ≤ 1048576) (hcg : ng ≤ cg) (hh : hbP h) :
    Calls Tryz.prog 154 #[.agg #[], kpv sc y h, .slice am n c, .slice ag ng cg] w fun e w' => e = .returned (.bool (decide (vtP y h ms ss))) ∧ Below w.heap.size w w' := by
  obtain ⟨hh0, hh5⟩ := hh
  obtain ⟨wb, hwb⟩ : ∃ wb, wb = (w.alloc (.cells #[] 155)).alloc (.cells #[.int .i64 sc, .int .u64 y, .int .i64 h] 44) := ⟨_, rfl⟩
  have hbb : Below w.heap.size w wb := by rw [hwb]; exact two_below _ _ _
  have hbx : wb.heap[w.heap.size + 1]? = some (.cells #[.int .i64 sc, .int .u64 y, .int .i64 h] 44) := by rw [hwb]; exact (two_blocks w _ _).2
  have hlw : w.heap.size + 1 < wb.heap.size := (Array.getElem?_eq_some_iff.1 hbx).1
  have HXD : ∀ w7, Below wb.heap.size wb w7 → w7.cell? ⟨w.heap.size + 1, 1, none⟩ = some (.int .u64 y) ∧ w7.cell? ⟨w.heap.size + 1, 2, none⟩ = some (.int .i64 h) := by
    intro w7 h7
    have e0 := (h7.block _ hlw).trans hbx
    exact ⟨(cell_of_row _ _ 1 _ 44 (0, 0) e0).trans rfl, (cell_of_row _ _ 2 _ 44 (0, 0) e0).trans rfl⟩
  have HW : Hid (_ = _) := hwb
  have HG : Hid (Row wb ag ng ss) := hg.kept hbb
  have HM : Hid (Row wb am n ms) := hr.kept hbb
  have HL : Hid (ss.length = ng) := hg.len
  obtain ⟨t1, ht1⟩ : ∃ t1, t1 = getN ss 0 := ⟨_, rfl⟩
  have H1 : Hid (getN ss 0 = t1) := ht1.symm
  have hpl := getN_place ss 0
  rw [← ht1, HL.out] at hpl
  obtain ⟨leaf, at1, k1⟩ := t1
  simp only at hpl
  obtain ⟨q1, q2⟩ := HXD _ (Below.refl _ _)
  clear hwb hg hr hbx ht1
  unfold kpv
  go_enter Tryz.func154, Tryz.ntmps154
  go_upto_region 1 with fail
  rw [← HW.out]
  clear HW
  go_wp2_with fail
  refine (implGetNum_any ag ng cg ss 0 _ HG.out (by omega)).mono ?_
  rintro e w2 ⟨rfl, hw⟩
  have hw2 := hw.symm
  subst hw2
  rw [H1.out, trip]
  by_cases hk1 : k1 = 0
  · have z1 : (k1 != 0) = false := by simp [hk1]
    obtain ⟨hp0, hp1⟩ := hpl hk1
    obtain ⟨A, rfl⟩ := Int.eq_ofNat_of_zero_le hp0
    have hA : A ≤ ng := by omega
    by_cases ha : (ng : Int) - (A : Int) = 8 * (18 + h)
    · have z3 : ((ng : Int) - (A : Int) != 8 * (18 + h)) = false := by simp [ha]
      obtain ⟨m, hm⟩ : ∃ m, m = (18 + h).toNat := ⟨_, rfl⟩
      have hmh : (m : Int) = 18 + h := by omega
      have hn8 : (ng - A) / 8 = m := by omega
      have HE : Hid (vtP y h ms ss ↔ tvP y h ms leaf ((dgs (ss.drop A) m).take 18) ((dgs (ss.drop A) m).drop 18)) := by
        show _ ↔ _
        unfold vtP
        rw [H1.out, HL.out, ← hm]
        exact ⟨fun x => x.2.2, fun x => ⟨hk1, ha, x⟩⟩
      obtain ⟨b, off, rfl, _, _⟩ := HG.out.get 0 (by omega)
      have HS : Hid (Row wb (some ⟨b, off + A, none⟩) (ng - A) (ss.drop A)) := HG.out.drop A hA
      have hA2 : (A : Int) ≤ (ng : Int) := by omega
      have hA3 : (A : Int) ≤ (cg : Int) := by omega
      have HA : Hid ((ng : Int) - (A : Int) = 8 * (18 + h)) := ha
      clear ha hk1 hm hpl hp0 hp1
      go_upto_region 4 with fail
      go_wp2_with fail
      refine (readDigests_any _ (ng - A) (cg - A) (ss.drop A) _ HS.out (by omega) (by omega)).mono ?_
      rintro e w3 ⟨ar, rfl, hod, hb3⟩
      rw [hn8] at hod ⊢
      obtain ⟨g, rfl, hgl, hgs⟩ := hod.shape (by omega)
      have HD1 : Hid (∀ w7, Below w3.heap.size w3 w7 → RowU w7 (some ⟨g, 0, none⟩) 18 ((dgs (ss.drop A) m).take 18)) := fun w7 h7 => (hod.toRow.take 18 (by omega)).kept h7
      have HM3 : Hid (∀ w7, Below w3.heap.size w3 w7 → Row w7 am n ms) := fun w7 h7 => HM.out.kept (keepT hb3 h7)
      have hm18 : 18 ≤ m := by omega
      have hm18i : (18 : Int) ≤ (m : Int) := by omega
      by_cases e18 : m = 18
      · subst e18
        have HD2 : Hid (∀ w7, Below w3.heap.size w3 w7 → RowU w7 (some ⟨g, 0, none⟩) 0 ((dgs (ss.drop A) 18).drop 18)) := by
          intro w7 h7
          have h1 := (rowU_from hod.toRow 18 (by omega)).kept h7
          exact ⟨h1.len, fun k hk => by omega, h1.rng⟩
        have hdr : Below w3.heap.size w3 w3.drew := (Below.refl _ _).drew
        have T0 := HXD _ hb3
        have T1 := HXD _ (keepT hb3 hdr)
        clear hod q1 q2
        go_upto_region 5 with fail
        go_region_held_law (fun w7 => w7.cell? ⟨w.heap.size + 1, 1, none⟩ = some (.int .u64 y) ∧ w7.cell? ⟨w.heap.size + 1, 2, none⟩ = some (.int .i64 h)) (first | assumption | exact T0 | exact T1 | exact T2)
          (first
            | (go_at_call 161; refine (implTreeVerify_any y h am n c ms leaf (some ⟨g, 0, none⟩) 18 18 ((dgs (ss.drop A) 18).take 18) (some ⟨g, 0, none⟩) 0 0 ((dgs (ss.drop A) 18).drop 18) _ (HM3.out _ hdr) (by omega) (HD1.out _ hdr) (HD2.out _ hdr)).mono ?_; rintro e w4 ⟨rfl, hb4⟩; have hb34 := keepT hdr hb4; have T2 := HXD _ (keepT hb3 hb34)))
        all_goals
          go_wp2
          go_ret
          exact ⟨by rw [decide_eq_decide.2 HE.out]; rfl, keepT hbb (keepT hb3 hb34)⟩
      · have HD2 : Hid (∀ w7, Below w3.heap.size w3 w7 → RowU w7 (some ⟨g, 18, none⟩) (m - 18) ((dgs (ss.drop A) m).drop 18)) := fun w7 h7 => (rowU_from hod.toRow 18 (by omega)).kept h7
        have hdr : Below w3.heap.size w3 w3.drew := (Below.refl _ _).drew
        have T0 := HXD _ hb3
        have T1 := HXD _ (keepT hb3 hdr)
        clear hod q1 q2
        go_upto_region 5 with fail
        go_region_held_law (fun w7 => w7.cell? ⟨w.heap.size + 1, 1, none⟩ = some (.int .u64 y) ∧ w7.cell? ⟨w.heap.size + 1, 2, none⟩ = some (.int .i64 h)) (first | assumption | exact T0 | exact T1 | exact T2)
          (first
            | (go_at_call 161; refine (implTreeVerify_any y h am n c ms leaf (some ⟨g, 0, none⟩) 18 m ((dgs (ss.drop A) m).take 18) (some ⟨g, 18, none⟩) (m - 18) (m - 18) ((dgs (ss.drop A) m).drop 18) _ (HM3.out _ hdr) (by omega) (HD1.out _ hdr) (HD2.out _ hdr)).mono ?_; rintro e w4 ⟨rfl, hb4⟩; have hb34 := keepT hdr hb4; have T2 := HXD _ (keepT hb3 hb34)))
        all_goals
          go_wp2
          go_ret
          exact ⟨by rw [decide_eq_decide.2 HE.out]; rfl, keepT hbb (keepT hb3 hb34)⟩
    · have z3 : ((ng : Int) - (A : Int) != 8 * (18 + h)) = true := by simp [ha]
      have HE : Hid (decide (vtP y h ms ss) = false) := decide_eq_false (fun a => ha (by have := a.2.1; rw [H1.out, HL.out] at this; exact this))
      clear ha hk1 hpl
      go_wp2
      go_ret
      exact ⟨by rw [HE.out]; rfl, hbb⟩
  · have z1 : (k1 != 0) = true := by simp [hk1]
    have HE : Hid (decide (vtP y h ms ss) = false) := decide_eq_false (fun a => hk1 (by have := a.1; rw [H1.out] at this; exact this))
    clear hk1 hpl
    go_wp2
    go_ret
    exact ⟨by rw [HE.out]; rfl, hbb⟩

end Go.Proofs.YtmoekmonkpihhaaGreat

namespace Go.Proofs.YtmoekmonkpihhaaGreat
open Go.RowKit

def anyP (sc y h : Int) (ms ss : List Int) : Prop := (sc = 1 ∧ gkP y h ∧ vgP y ms ss) ∨ (sc = 2 ∧ hbP h ∧ vtP y h ms ss)
instance (sc y h : Int) (ms ss : List Int) : Decidable (anyP sc y h ms ss) := by unfold anyP; infer_instance

set_option maxRecDepth 10000 in
set_option maxHeartbeats 4000000 in
theorem implVerifyAny_any (sc y h : Int) (am : Option Addr) (n c : Nat) (ms : List Int) (ag : Option Addr) (ng cg : Nat) (ss : List Int) (w : World) (hy : U64 y) (hr : Row w am n ms) (hn : n ≤ 1048576) (hc : am = none → c = 0) (hg : Row w ag ng ss) (hng : ng ≤ 1048576) (hcg : ng ≤ cg) :
    Calls Tryz.prog 88 #[kpv sc y h, .slice am n c, .slice ag ng cg] w fun e w' => e = .returned (.bool (decide (anyP sc y h ms ss))) ∧ Below w.heap.size w w' := by
  obtain ⟨wb, hwb⟩ : ∃ wb, wb = w.alloc (.cells #[.int .i64 sc, .int .u64 y, .int .i64 h] 44) := ⟨_, rfl⟩
  have hbb : Below w.heap.size w wb := by rw [hwb]; exact (Below.refl _ _).alloc (Nat.le_refl _) _
  have hbx : wb.heap[w.heap.size]? = some (.cells #[.int .i64 sc, .int .u64 y, .int .i64 h] 44) := by rw [hwb]; exact heap_alloc_new _ _
  have hlw : w.heap.size < wb.heap.size := (Array.getElem?_eq_some_iff.1 hbx).1
  have HX : Hid (∀ w7, Below wb.heap.size wb w7 → w7.heap[w.heap.size]? = some (.cells #[.int .i64 sc, .int .u64 y, .int .i64 h] 44)) := fun w7 h7 => (h7.block _ hlw).trans hbx
  have HW : Hid (_ = _) := hwb
  have HM : Hid (∀ w7, Below wb.heap.size wb w7 → Row w7 am n ms) := fun w7 h7 => hr.kept (keepT hbb h7)
  have HG : Hid (∀ w7, Below wb.heap.size wb w7 → Row w7 ag ng ss) := fun w7 h7 => hg.kept (keepT hbb h7)
  clear hwb hg hr hbx
  unfold kpv
  go_enter Tryz.func88, Tryz.ntmps88
  go_wp2_with fail
  rw [← HW.out]
  clear HW
  refine (pubScheme_any sc y h _ hy).mono ?_
  rintro e w2 ⟨rfl, hb2⟩
  have hs := HX.out _ hb2
  have s0 : w2.cell? ⟨w.heap.size, 0, none⟩ = some (.int .i64 sc) := (cell_of_row _ _ 0 _ 44 (0, 0) hs).trans rfl
  have s1 : w2.cell? ⟨w.heap.size, 1, none⟩ = some (.int .u64 y) := (cell_of_row _ _ 1 _ 44 (0, 0) hs).trans rfl
  have s2 : w2.cell? ⟨w.heap.size, 2, none⟩ = some (.int .i64 h) := (cell_of_row _ _ 2 _ 44 (0, 0) hs).trans rfl
  clear hs
  by_cases hp : pubP sc y h
  · rw [decide_eq_true hp]
    rcases hp with ⟨h1, hp⟩ | ⟨h1, hp⟩
    · subst h1
      have HV : Hid (decide (anyP 1 y h ms ss) = decide (vgP y ms ss)) := decide_eq_decide.2 ⟨fun a => a.elim (fun a => a.2.2) (fun a => absurd a.1 (by decide)), fun a => .inl ⟨rfl, hp, a⟩⟩
      have HI : Hid (ifvP 1 = .iface 154 (.agg #[])) := rfl
      rw [HI.out]
      go_wp2_with fail
      refine (groupVerify_any 1 y h am n c ms ag ng cg ss _ (HM.out _ hb2) hn hc (HG.out _ hb2) hng hp.1).mono ?_
      rintro e w3 ⟨rfl, hb3⟩
      go_wp2
      go_ret
      exact ⟨by rw [HV.out]; rfl, keepT hbb (keepT hb2 hb3)⟩
    · subst h1
      have HV : Hid (decide (anyP 2 y h ms ss) = decide (vtP y h ms ss)) := decide_eq_decide.2 ⟨fun a => a.elim (fun a => absurd a.1 (by decide)) (fun a => a.2.2), fun a => .inr ⟨rfl, hp, a⟩⟩
      have HI : Hid (ifvP 2 = .iface 155 (.agg #[])) := rfl
      rw [HI.out]
      go_wp2_with fail
      refine (treeVerify_any 2 y h am n c ms ag ng cg ss _ (HM.out _ hb2) hn (HG.out _ hb2) hng hcg hp).mono ?_
      rintro e w3 ⟨rfl, hb3⟩
      go_wp2
      go_ret
      exact ⟨by rw [HV.out]; rfl, keepT hbb (keepT hb2 hb3)⟩
  · have HV : Hid (decide (anyP sc y h ms ss) = false) := decide_eq_false (fun a => hp (a.elim (fun a => .inl ⟨a.1, a.2.1⟩) (fun a => .inr ⟨a.1, a.2.1⟩)))
    rw [decide_eq_false hp]
    go_wp2
    go_ret
    exact ⟨by rw [HV.out]; rfl, keepT hbb hb2⟩

end Go.Proofs.YtmoekmonkpihhaaGreat

namespace Go.Proofs.YtmoekmonkpihhaaGreat
open Go.RowKit

def SgA (w : World) (p : Nat) (leaf : Int) (e1 e2 : Value) : Prop := w.heap[p]? = some (.cells #[.int .i64 leaf, e1, e2] 84 (0, 0))
theorem SgA.c0 {w : World} {p : Nat} {leaf : Int} {e1 e2 : Value} (h : SgA w p leaf e1 e2) : w.cell? ⟨p, 0, none⟩ = some (.int .i64 leaf) := (cell_of_row _ _ 0 _ 84 (0, 0) h).trans rfl
theorem SgA.c1 {w : World} {p : Nat} {leaf : Int} {e1 e2 : Value} (h : SgA w p leaf e1 e2) : w.cell? ⟨p, 1, none⟩ = some e1 := (cell_of_row _ _ 1 _ 84 (0, 0) h).trans rfl
theorem SgA.c2 {w : World} {p : Nat} {leaf : Int} {e1 e2 : Value} (h : SgA w p leaf e1 e2) : w.cell? ⟨p, 2, none⟩ = some e2 := (cell_of_row _ _ 2 _ 84 (0, 0) h).trans rfl
theorem SgA.fz {w : World} {p : Nat} {leaf : Int} {e1 e2 : Value} (h : SgA w p leaf e1 e2) (i : Nat) : w.frozen? ⟨p, i, none⟩ = false := frozen_of_row w _ i _ 84 h
theorem SgA.kept {B : Nat} {w w' : World} {p : Nat} {leaf : Int} {e1 e2 : Value} (h : SgA w p leaf e1 e2) (hp : p < B) (hb : Below B w w') : SgA w' p leaf e1 e2 := (hb.block _ hp).trans h
theorem SgA.put1 {w : World} {p : Nat} {leaf : Int} {e1 e2 : Value} (h : SgA w p leaf e1 e2) (v : Value) : SgA (w.setCell ⟨p, 1, none⟩ v) p leaf v e2 := heap_setCell_same w p 1 _ 84 v h
theorem SgA.put2 {w : World} {p : Nat} {leaf : Int} {e1 e2 : Value} (h : SgA w p leaf e1 e2) (v : Value) : SgA (w.setCell ⟨p, 2, none⟩ v) p leaf e1 v := heap_setCell_same w p 2 _ 84 v h

theorem tb_below {lo hi : Nat} {a b c : World} (h : Touch lo hi a b) (k : Below a.heap.size b c) : Touch lo hi a c :=
  ⟨k.os.trans h.os, k.tape.trans h.tape, k.output.trans h.output, Nat.le_trans h.size k.size, fun i hi' ho => (k.block i hi').trans (h.block i hi' ho)⟩
theorem tb_set {p : Nat} {a b : World} (h : Touch p (p + 1) a b) (i : Nat) (v : Value) : Touch p (p + 1) a (b.setCell ⟨p, i, none⟩ v) :=
  h.trans ⟨rfl, rfl, rfl, by simp, fun k _ ho => Below.heap_setCell _ _ _ _ (by simp; omega)⟩
theorem u64_dropK {zs : List Int} (h : ∀ k, U64 (zs.getD k 0)) (j : Nat) : ∀ k, U64 ((zs.drop j).getD k 0) := by
  intro k
  have := h (j + k)
  rw [List.getD_eq_getElem?_getD, List.getElem?_drop]
  simpa [List.getD_eq_getElem?_getD] using this
theorem rowU_below {w w' : World} {g n B : Nat} {zs : List Int} (h : RowU w (some ⟨g, 0, none⟩) n zs) (hg : g < B) (hb : Below B w w') : RowU w' (some ⟨g, 0, none⟩) n zs := by
  refine ⟨h.len, fun k hk => ?_, h.rng⟩
  obtain ⟨b', off', e, hbl, hc⟩ := h.get k hk
  simp only [Option.some.injEq, Addr.mk.injEq, and_true] at e
  obtain ⟨rfl, rfl⟩ := e
  exact ⟨g, 0, rfl, Nat.lt_of_lt_of_le hbl (by have := hb.size; omega), (hb.cell (p := ⟨g, 0 + k, none⟩) hg).trans hc⟩
theorem rowU_put {w : World} {g n p : Nat} {zs : List Int} (h : RowU w (some ⟨g, 0, none⟩) n zs) (hg : g ≠ p) (i : Nat) (v : Value) : RowU (w.setCell ⟨p, i, none⟩ v) (some ⟨g, 0, none⟩) n zs := by
  refine ⟨h.len, fun k hk => ?_, h.rng⟩
  obtain ⟨b', off', e, hbl, hc⟩ := h.get k hk
  simp only [Option.some.injEq, Addr.mk.injEq, and_true] at e
  obtain ⟨rfl, rfl⟩ := e
  exact ⟨g, 0, rfl, by simpa using hbl, (World.cell?_of_block (a := ⟨g, 0 + k, none⟩) (Below.heap_setCell _ _ _ _ (by simp; omega))).trans hc⟩
def VaRel (w4 : World) (p : Nat) (leaf : Int) (ds : List Int) (m : Nat) (i : Value) (wr : World) : Prop := ∃ (q : Nat) (v1 v2 : Value), q ≤ m ∧ i = .int .i64 (8 * (q : Int)) ∧ Hid (SgA wr p leaf v1 v2) ∧ Hid (Touch p (p + 1) w4 wr) ∧ Hid ((q ≤ 18 ∧ v2 = .slice none 0 0 ∧ ∃ ao cc, v1 = .slice ao q cc ∧ OwnU w4.heap.size wr ao q cc (ds.take q)) ∨ (18 < q ∧ ∃ (M g cc : Nat) (ap : Option Addr) (cp : Nat), w4.heap.size ≤ M ∧ M ≤ wr.heap.size ∧ w4.heap.size ≤ g ∧ g < M ∧ v1 = .slice (some ⟨g, 0, none⟩) 18 cc ∧ v2 = .slice ap (q - 18) cp ∧ RowU wr (some ⟨g, 0, none⟩) 18 (ds.take 18) ∧ OwnU M wr ap (q - 18) cp ((ds.drop 18).take (q - 18))))
theorem wdK_drop (bs : List Int) (k j : Nat) : wdK (bs.drop k) 0 j = wdK bs k j := by
  induction j with
  | zero => rfl
  | succ j ih => rw [wdK, wdK, ih, Nat.zero_add, List.getD_eq_getElem?_getD, List.getElem?_drop, ← List.getD_eq_getElem?_getD]

set_option maxRecDepth 10000 in
set_option maxHeartbeats 8000000 in
theorem specVerifyAny_any (sc y h : Int) (am : Option Addr) (n c : Nat) (ms : List Int) (ag : Option Addr) (ng cg : Nat) (ss : List Int) (w : World) (hy : U64 y) (hr : Row w am n ms) (hn : n ≤ 1048576) (hc : am = none → c = 0) (hg : Row w ag ng ss) (hng : ng ≤ 1048576) (hcg : ng ≤ cg) :
    Calls Tryz.prog 38 #[kpv sc y h, .slice am n c, .slice ag ng cg] w fun e w' => e = .returned (.bool (decide (anyP sc y h ms ss))) ∧ Below w.heap.size w w' := by
  obtain ⟨i0, hi, hz0, hz1, hz2⟩ := info_parts Tryz.infoU
  obtain ⟨wb, hwb⟩ : ∃ wb, wb = w.alloc (.cells #[.int .i64 sc, .int .u64 y, .int .i64 h] 44) := ⟨_, rfl⟩
  have hbb : Below w.heap.size w wb := by rw [hwb]; exact (Below.refl _ _).alloc (Nat.le_refl _) _
  have hbx : wb.heap[w.heap.size]? = some (.cells #[.int .i64 sc, .int .u64 y, .int .i64 h] 44) := by rw [hwb]; exact heap_alloc_new _ _
  have hlw : w.heap.size < wb.heap.size := (Array.getElem?_eq_some_iff.1 hbx).1
  have HXD : ∀ w7, Below wb.heap.size wb w7 → w7.cell? ⟨w.heap.size, 0, none⟩ = some (.int .i64 sc) ∧ w7.cell? ⟨w.heap.size, 1, none⟩ = some (.int .u64 y) ∧ w7.cell? ⟨w.heap.size, 2, none⟩ = some (.int .i64 h) := by
    intro w7 h7
    have e0 := (h7.block _ hlw).trans hbx
    exact ⟨(cell_of_row _ _ 0 _ 44 (0, 0) e0).trans rfl, (cell_of_row _ _ 1 _ 44 (0, 0) e0).trans rfl, (cell_of_row _ _ 2 _ 44 (0, 0) e0).trans rfl⟩
  have HBX : Hid (_ = _) := hbx
  have HW : Hid (_ = _) := hwb
  have HM : Hid (∀ w7, Below wb.heap.size wb w7 → Row w7 am n ms) := fun w7 h7 => hr.kept (keepT hbb h7)
  have HG : Hid (∀ w7, Below wb.heap.size wb w7 → Row w7 ag ng ss) := fun w7 h7 => hg.kept (keepT hbb h7)
  have HL : Hid (ss.length = ng) := hg.len
  have hpl := getN_place ss 0
  obtain ⟨t1, ht1⟩ : ∃ t1, t1 = getN ss 0 := ⟨_, rfl⟩
  have H1 : Hid (getN ss 0 = t1) := ht1.symm
  rw [← ht1, HL.out] at hpl
  obtain ⟨leaf, at1, k1⟩ := t1
  simp only at hpl
  clear hwb hg hr hbx ht1
  unfold kpv
  go_enter Tryz.func38, Tryz.ntmps38
  go_wp2_with fail
  rw [← HW.out]
  clear HW
  refine (l8PubOk_any sc y h _ hy).mono ?_
  rintro e w2 ⟨rfl, hb2⟩
  obtain ⟨s0, s1, s2⟩ := HXD _ hb2
  have HG2 := HG.out _ hb2
  have hBB := keepT hbb hb2
  by_cases hp : pubP sc y h
  · rw [decide_eq_true hp]
    go_wp2_with fail
    refine (specGetNum_any ag ng cg ss 0 _ HG2 (by omega)).mono ?_
    rintro e w3 ⟨rfl, hw⟩
    have hw3 := hw.symm
    subst hw3
    rw [H1.out, trip]
    by_cases hk1 : k1 = 0
    · have z1 : (k1 != 0) = false := by simp [hk1]
      rcases hp with ⟨h1, hp⟩ | ⟨h1, hp⟩
      · subst h1
        obtain ⟨hy0, hy1⟩ := keyP_lt hp.1
        obtain ⟨t2, ht2⟩ : ∃ t2, t2 = getN ss at1 := ⟨_, rfl⟩
        have H2 : Hid (getN ss at1 = t2) := ht2.symm
        obtain ⟨e2, at2, k2⟩ := t2
        have HV : Hid (anyP 1 y h ms ss ↔ (k2 = 0 ∧ at2 = (ng : Int) ∧ verP y ms (leaf, e2))) := by
          show _ ↔ _
          unfold anyP vgP
          rw [H1.out, H2.out, HL.out]
          exact ⟨fun a => a.elim (fun a => ⟨a.2.2.2.1, a.2.2.2.2⟩) (fun a => absurd a.1 (by decide)), fun a => .inl ⟨rfl, hp, hk1, a⟩⟩
        clear ht2 hpl hk1
        go_wp2_with fail
        refine (specGetNum_any ag ng cg ss at1 _ HG2 (by omega)).mono ?_
        rintro e w3 ⟨rfl, hw⟩
        have hw3 := hw.symm
        subst hw3
        rw [H2.out, trip]
        by_cases hk2 : k2 = 0
        · have z2 : (k2 == 0) = true := by simp [hk2]
          by_cases ha : at2 = (ng : Int)
          · have z3 : (at2 == (ng : Int)) = true := by simp [ha]
            have HE : Hid (decide (anyP 1 y h ms ss) = decide (verP y ms (leaf, e2))) := decide_eq_decide.2 ⟨fun a => (HV.out.1 a).2.2, fun a => HV.out.2 ⟨hk2, ha, a⟩⟩
            clear hk2 ha
            go_wp2_with fail
            refine (specVerify_any y am n c ms (leaf, e2) _ (HM.out _ hb2) hn hc).mono ?_
            rintro e w3 ⟨rfl, hb3⟩
            go_wp2
            go_ret
            exact ⟨by rw [HE.out]; rfl, keepT hBB hb3⟩
          · have z3 : (at2 == (ng : Int)) = false := by simp [ha]
            have HE : Hid (decide (anyP 1 y h ms ss) = false) := decide_eq_false (fun a => ha (HV.out.1 a).2.1)
            clear hk2 ha
            go_wp2
            go_ret
            exact ⟨by rw [HE.out]; rfl, hBB⟩
        · have z2 : (k2 == 0) = false := by simp [hk2]
          have HE : Hid (decide (anyP 1 y h ms ss) = false) := decide_eq_false (fun a => hk2 (HV.out.1 a).1)
          clear hk2
          go_wp2
          go_ret
          exact ⟨by rw [HE.out]; rfl, hBB⟩
      · subst h1
        obtain ⟨hh0, hh5⟩ := hp
        obtain ⟨hp0, hp1⟩ := hpl hk1
        obtain ⟨A, rfl⟩ := Int.eq_ofNat_of_zero_le hp0
        have hA : A ≤ ng := by omega
        have hA2 : (A : Int) ≤ (ng : Int) := by omega
        have hA3 : (A : Int) ≤ (cg : Int) := by omega
        by_cases ha : (ng : Int) - (A : Int) = 8 * (18 + h)
        · have z3 : ((ng : Int) - (A : Int) != 8 * (18 + h)) = false := by simp [ha]
          have z4 : (((ng - A : Nat) : Int) != 8 * (18 + h)) = false := by simp; omega
          obtain ⟨m, hm⟩ : ∃ m, m = (18 + h).toNat := ⟨_, rfl⟩
          have hmh : (m : Int) = 18 + h := by omega
          have HE : Hid (anyP 2 y h ms ss ↔ tvP y h ms leaf ((dgs (ss.drop A) m).take 18) ((dgs (ss.drop A) m).drop 18)) := by
            show _ ↔ _
            unfold anyP vtP
            rw [H1.out, HL.out, ← hm]
            exact ⟨fun x => x.elim (fun a => absurd a.1 (by decide)) (fun a => a.2.2.2.2), fun x => .inr ⟨rfl, ⟨hh0, hh5⟩, hk1, ha, x⟩⟩
          have HG3 : Hid (Row w2 ag ng ss) := HG2
          obtain ⟨b, off, rfl, hbl, _⟩ := HG2.get 0 (by omega)
          have HS : Hid (Row w2 (some ⟨b, off + A, none⟩) (ng - A) (ss.drop A)) := HG2.drop A hA
          have hNA : 8 * m = ng - A := by omega
          have HA : Hid ((ng : Int) - (A : Int) = 8 * (18 + h)) := ha
          clear ha hk1 hm hpl hp0 hp1 HG2
          obtain ⟨w4, hw4⟩ : ∃ w4, w4 = w2.alloc (.cells #[.int .i64 leaf, .slice none 0 0, .slice none 0 0] 84) := ⟨_, rfl⟩
          obtain ⟨p, hpe⟩ : ∃ p, p = w2.heap.size := ⟨_, rfl⟩
          have hb4 : Below w2.heap.size w2 w4 := by rw [hw4]; exact (Below.refl _ _).alloc (Nat.le_refl _) _
          have HS4 : Hid (SgA w4 p leaf (.slice none 0 0) (.slice none 0 0)) := by show _ = _; rw [hw4, hpe]; exact heap_alloc_new _ _
          have hp4 : p < w4.heap.size := (Array.getElem?_eq_some_iff.1 HS4.out).1
          have HW4 : Hid (_ = _) := hw4
          have HP : Hid (_ = _) := hpe
          have hwp : w.heap.size < p := by have := hb2.size; omega
          have hbp : b < p := by rw [hpe]; exact hbl
          have HB4 : Hid (Below w.heap.size w w4) := keepT hBB hb4
          obtain ⟨ds, hds⟩ : ∃ ds, ds = dgs (ss.drop A) m := ⟨_, rfl⟩
          have HDS : Hid (ds = dgs (ss.drop A) m) := hds
          have hdl : ds.length = m := by rw [hds]; exact dgs_len _ _
          have HDB : Hid (∀ k, U64 (ds.getD k 0)) := by rw [hds]; exact dgs_bd _ HS.out.byte m
          rw [← hds] at HE
          have HBW : Hid (∀ w7, Touch p (p + 1) w4 w7 → Below w2.heap.size w2 w7) := by
            intro w7 h7
            have h8 := h7.below (B := w2.heap.size) (by omega) hb4.size
            exact hb4.trans h8
          have HX4 : Hid (∀ w7, Touch p (p + 1) w4 w7 → w7.cell? ⟨w.heap.size, 0, none⟩ = some (.int .i64 2) ∧ w7.cell? ⟨w.heap.size, 1, none⟩ = some (.int .u64 y) ∧ w7.cell? ⟨w.heap.size, 2, none⟩ = some (.int .i64 h)) := fun w7 h7 => HXD _ (keepT hb2 (HBW.out _ h7))
          have HR4 : Hid (∀ w7, Touch p (p + 1) w4 w7 → Row w7 (some ⟨b, off + A, none⟩) (ng - A) (ss.drop A)) := fun w7 h7 => HS.out.kept (HBW.out _ h7)
          have HM4 : Hid (∀ w7, Touch p (p + 1) w4 w7 → Row w7 am n ms) := fun w7 h7 => HM.out _ (keepT hb2 (HBW.out _ h7))
          have hm18 : 18 ≤ m := by omega
          have hm23 : m ≤ 23 := by omega
          clear hw4 hpe hds s0 s1 s2
          go_upto_region 13 with fail
          rw [← HW4.out, ← HP.out]
          go_wp2
          go_loopw [15] (fun i wr => VaRel w4 p leaf ds m i wr) (fun i _ => 8 * m - (intOf i).toNat)
          case atStart => exact ⟨0, _, _, Nat.zero_le _, rfl, HS4, Touch.of_below (Below.refl _ _), .inl ⟨by decide, rfl, none, 0, rfl, ownU_none _ _⟩⟩
          case round =>
            obtain ⟨q, v1, v2, hq, rfl, HSr, HTr, HO⟩ := hrel
            have hw4r : w4.heap.size ≤ wr.heap.size := HTr.out.size
            by_cases hqm : q < m
            · have hqmi : 8 * (q : Int) < ((ng - A : Nat) : Int) := by omega
              have u1 : (8 * (q : Int)).toNat = 8 * q := by omega
              have hb0 : 0 ≤ 8 * (q : Int) := by omega
              have hb1 : 8 * (q : Int) ≤ ((ng - A : Nat) : Int) := by omega
              have hb2 : 8 * (q : Int) ≤ ((cg - A : Nat) : Int) := by omega
              have hq3 : (q : Int) ≤ 18 + h := by omega
              have hcq : ¬ (cg - A = 8 * q) := by omega
              have hdr : Below wr.heap.size wr wr.drew := (Below.refl _ _).drew
              have HRW : Hid (∀ w7, Below wr.heap.size wr w7 → Row w7 (some ⟨b, off + A + 8 * q, none⟩) (ng - A - 8 * q) ((ss.drop A).drop (8 * q))) := fun w7 h7 => (HR4.out _ (HTr.out.trans (Touch.of_below h7))).drop (8 * q) (by omega)
              obtain ⟨x, hx⟩ : ∃ x, x = ds.getD q 0 := ⟨_, rfl⟩
              have HXV : Hid (wdK ((ss.drop A).drop (8 * q)) 0 8 = x) := by show _ = _; rw [wdK_drop, hx, HDS.out, dgs_get _ _ _ hqm]
              have HXE : Hid (x = ds.getD q 0) := hx
              clear hx
              by_cases hq18 : q < 18
              · have hq18i : 8 * (q : Int) < 144 := by omega
                obtain ⟨rfl, ao, cc, rfl, HOr⟩ : v2 = .slice none 0 0 ∧ ∃ ao cc, v1 = .slice ao q cc ∧ OwnU w4.heap.size wr ao q cc (ds.take q) := HO.out.elim (fun a => a.2) (fun a => absurd a.1 (by omega))
                have HOr : Hid (OwnU w4.heap.size wr ao q cc (ds.take q)) := HOr
                have HXX : Hid (∀ w7, Below w4.heap.size wr w7 → w7.cell? ⟨p, 1, none⟩ = some (.slice ao q cc) ∧ w7.frozen? ⟨p, 1, none⟩ = false) := by
                  intro w7 h7
                  have k2 := HSr.out.kept hp4 h7
                  exact ⟨k2.c1, k2.fz 1⟩
                have HE1 : Hid ((ds.take q).map (Value.int .u64) ++ [x].map (Value.int .u64) = (ds.take (q + 1)).map (Value.int .u64)) := by show _ = _; rw [take_snoc ds q (by omega), ← HXE.out, List.map_append]
                obtain ⟨t00, t01⟩ := HXX.out _ (Below.refl _ _)
                obtain ⟨t10, t11⟩ := HXX.out _ (hdr.mono hw4r)
                clear HO
                go_upto_region 17 with fail
                go_region_law
                  (first
                    | (go_simp; go_at_call 68; refine (l8Word_any (some ⟨b, off + A + 8 * q, none⟩) (ng - A - 8 * q) (cg - A - 8 * q) ((ss.drop A).drop (8 * q)) _ (HRW.out _ hdr) (by omega) (by omega)).mono ?_; rintro e w6 ⟨rfl, hw⟩; rw [HXV.out]; have hb6 : Below wr.heap.size wr w6 := Eq.mpr (congrArg (Below wr.heap.size wr) hw) hdr; obtain ⟨t30, t31⟩ := HXX.out _ (hb6.mono hw4r); clear hw; have hal : Below wr.heap.size wr (w6.alloc (.cells #[.int .u64 x] 22)) := hb6.alloc hb6.size _; obtain ⟨t40, t41⟩ := HXX.out _ (hal.mono hw4r); have hor3 := (HOr.out.kept hal).row; have hcl := cell_oneU w6 x)
                    | (refine step_append_ownT rfl (.tmp 76) (.tmp 81) 28 rfl w4.heap.size 22 i0 _ 1 8 Tryz.underlying28 hi hz0 hz1 hz2 rfl (by decide) _ q _ (by simp [Act.eval]) hor3 ⟨w6.heap.size, 0, none⟩ 1 1 ([x].map (Value.int .u64)) (by simp [Act.eval]) rfl hcl (ints_oneCell .u64 [x]) (by unfold maxLen; omega) (by omega) (by have := hal.size; omega) ?_; intro v4 w8 hv4 hg4; have hbr4 : Below w4.heap.size wr w8 := (hal.mono hw4r).grown hg4 (by have := hal.size; omega) (fun k hk => (hor3.lt k hk).1); obtain ⟨t50, t51⟩ := HXX.out _ hbr4; rw [HE1.out] at hv4; obtain ⟨a4, c4, rfl, ho4⟩ := ownU_appended (u64_take HDB.out _) hv4))
                all_goals
                  go_wp2
                  go_roundw
                  case rel => exact (show VaRel w4 p leaf ds m _ _ from ⟨q + 1, _, _, by omega, by go_num, (HSr.out.kept hp4 hbr4).put1 _, tb_set (tb_below HTr.out hbr4) 1 _, .inl ⟨by omega, rfl, a4, c4, rfl, ho4.set hp4 _ _⟩⟩)
                  case measure => simp [intOf]; omega
              · have hq18i : ¬ (8 * (q : Int) < 144) := by omega
                obtain ⟨M, g, cc, ap, cp, hM1, hM2, hg4w, hgM, rfl, rfl, HE0, HOr⟩ : ∃ (M g cc : Nat) (ap : Option Addr) (cp : Nat), w4.heap.size ≤ M ∧ M ≤ wr.heap.size ∧ w4.heap.size ≤ g ∧ g < M ∧ v1 = .slice (some ⟨g, 0, none⟩) 18 cc ∧ v2 = .slice ap (q - 18) cp ∧ RowU wr (some ⟨g, 0, none⟩) 18 (ds.take 18) ∧ OwnU M wr ap (q - 18) cp ((ds.drop 18).take (q - 18)) := by
                  rcases HO.out with ⟨h1, rfl, ao, cc, rfl, h2⟩ | ⟨_, h2⟩
                  · obtain rfl : q = 18 := by omega
                    obtain ⟨g, rfl, hg1, hg2⟩ := h2.shape (by omega)
                    exact ⟨wr.heap.size, g, cc, none, 0, hw4r, Nat.le_refl _, hg1, hg2, rfl, rfl, h2.toRow, ownU_none _ _⟩
                  · exact h2
                have HOr : Hid (OwnU M wr ap (q - 18) cp ((ds.drop 18).take (q - 18))) := HOr
                have HE0 : Hid (RowU wr (some ⟨g, 0, none⟩) 18 (ds.take 18)) := HE0
                have HXX : Hid (∀ w7, Below M wr w7 → w7.cell? ⟨p, 2, none⟩ = some (.slice ap (q - 18) cp) ∧ w7.frozen? ⟨p, 2, none⟩ = false) := by
                  intro w7 h7
                  have k2 := HSr.out.kept (Nat.lt_of_lt_of_le hp4 hM1) h7
                  exact ⟨k2.c2, k2.fz 2⟩
                have HE1 : Hid (((ds.drop 18).take (q - 18)).map (Value.int .u64) ++ [x].map (Value.int .u64) = ((ds.drop 18).take (q - 18 + 1)).map (Value.int .u64)) := by
                  show _ = _
                  rw [take_snoc (ds.drop 18) (q - 18) (by rw [List.length_drop]; omega), HXE.out, List.map_append, List.getD_eq_getElem?_getD (l := ds.drop 18), List.getElem?_drop, show 18 + (q - 18) = q by omega, ← List.getD_eq_getElem?_getD]
                obtain ⟨t00, t01⟩ := HXX.out _ (Below.refl _ _)
                obtain ⟨t10, t11⟩ := HXX.out _ (hdr.mono hM2)
                clear HO
                go_upto_region 18 with fail
                go_region_law
                  (first
                    | (go_simp; go_at_call 68; refine (l8Word_any (some ⟨b, off + A + 8 * q, none⟩) (ng - A - 8 * q) (cg - A - 8 * q) ((ss.drop A).drop (8 * q)) _ (HRW.out _ hdr) (by omega) (by omega)).mono ?_; rintro e w6 ⟨rfl, hw⟩; rw [HXV.out]; have hb6 : Below wr.heap.size wr w6 := Eq.mpr (congrArg (Below wr.heap.size wr) hw) hdr; obtain ⟨t30, t31⟩ := HXX.out _ (hb6.mono hM2); clear hw; have hal : Below wr.heap.size wr (w6.alloc (.cells #[.int .u64 x] 22)) := hb6.alloc hb6.size _; obtain ⟨t40, t41⟩ := HXX.out _ (hal.mono hM2); have hor3 := (HOr.out.kept hal).row; have hcl := cell_oneU w6 x)
                    | (refine step_append_ownT rfl (.tmp 85) (.tmp 90) 28 rfl M 22 i0 _ 1 8 Tryz.underlying28 hi hz0 hz1 hz2 rfl (by decide) _ (q - 18) _ (by simp [Act.eval]) hor3 ⟨w6.heap.size, 0, none⟩ 1 1 ([x].map (Value.int .u64)) (by simp [Act.eval]) rfl hcl (ints_oneCell .u64 [x]) (by unfold maxLen; omega) (by omega) (by have := hal.size; omega) ?_; intro v4 w8 hv4 hg4; have hbr4 : Below M wr w8 := (hal.mono hM2).grown hg4 (by have := hal.size; omega) (fun k hk => (hor3.lt k hk).1); obtain ⟨t50, t51⟩ := HXX.out _ hbr4; rw [HE1.out] at hv4; obtain ⟨a4, c4, rfl, ho4⟩ := ownU_appended (u64_take (u64_dropK HDB.out 18) _) hv4))
                all_goals
                  go_wp2
                  go_roundw
                  case rel => exact (show VaRel w4 p leaf ds m _ _ from ⟨q + 1, _, _, by omega, by go_num, (HSr.out.kept (Nat.lt_of_lt_of_le hp4 hM1) hbr4).put2 _, tb_set (tb_below HTr.out (hbr4.mono hM1)) 2 _, .inr ⟨by omega, M, g, cc, a4, c4, hM1, by have := hbr4.size; simp; omega, hg4w, hgM, rfl, by rw [show q + 1 - 18 = q - 18 + 1 by omega], rowU_put (rowU_below HE0.out hgM hbr4) (by omega) _ _, by rw [show q + 1 - 18 = q - 18 + 1 by omega]; exact ho4.set (Nat.lt_of_lt_of_le hp4 hM1) _ _⟩⟩)
                  case measure => simp [intOf]; omega
            · obtain rfl : q = m := by omega
              have hqmi : ¬ (8 * (q : Int) < ((ng - A : Nat) : Int)) := by omega
              obtain ⟨g, cc, ap, cp, rfl, rfl, h5, h6⟩ : ∃ (g cc : Nat) (ap : Option Addr) (cp : Nat), v1 = .slice (some ⟨g, 0, none⟩) 18 cc ∧ v2 = .slice ap (q - 18) cp ∧ RowU wr (some ⟨g, 0, none⟩) 18 (ds.take 18) ∧ RowU wr ap (q - 18) (ds.drop 18) := by
                rcases HO.out with ⟨h1, rfl, ao, cc, rfl, h2⟩ | ⟨_, M, g, cc, ap, cp, _, _, _, _, rfl, rfl, h2, h3⟩
                · obtain rfl : q = 18 := by omega
                  obtain ⟨g, rfl, hg1, hg2⟩ := h2.shape (by omega)
                  refine ⟨g, cc, none, 0, rfl, rfl, h2.toRow, ?_⟩
                  rw [List.drop_of_length_le (by omega)]
                  exact (ownU_none 0 wr).toRow
                · refine ⟨g, cc, ap, cp, rfl, rfl, h2, ?_⟩
                  have := h3.toRow
                  rwa [List.take_of_length_le (by rw [List.length_drop]; omega)] at this
              have HR5 : Hid (RowU wr (some ⟨g, 0, none⟩) 18 (ds.take 18)) := h5
              have HR6 : Hid (RowU wr ap (q - 18) (ds.drop 18)) := h6
              obtain ⟨x0, x1, x2⟩ := HX4.out _ HTr.out
              have c0 := HSr.out.c0
              have c1 := HSr.out.c1
              have c2 := HSr.out.c2
              have HBF : Hid (Below w.heap.size w wr) := keepT hBB (HBW.out _ HTr.out)
              clear h5 h6 HO
              go_wp2_with fail
              refine (specTreeVerify_any y h am n c ms leaf (some ⟨g, 0, none⟩) 18 cc (ds.take 18) ap (q - 18) cp (ds.drop 18) _ (HM4.out _ HTr.out) (by omega) HR5.out HR6.out).mono ?_
              rintro e w5 ⟨rfl, hb5⟩
              go_wp2
              go_ret
              exact ⟨by rw [decide_eq_decide.2 HE.out]; rfl, keepT HBF.out hb5⟩
        · have z3 : ((ng : Int) - (A : Int) != 8 * (18 + h)) = true := by simp [ha]
          have HE : Hid (decide (anyP 2 y h ms ss) = false) := decide_eq_false (fun a => a.elim (fun a => absurd a.1 (by decide)) (fun a => ha (by have := a.2.2.2.1; rw [H1.out, HL.out] at this; exact this)))
          by_cases hg0 : ng = 0
          · obtain rfl : A = 0 := by omega
            subst hg0
            clear ha hk1 hpl hp0 hp1
            go_wp2
            go_ret
            exact ⟨by rw [HE.out]; rfl, hBB⟩
          · obtain ⟨b, off, rfl, hbl, _⟩ := HG2.get 0 (by omega)
            clear ha hk1 hpl hp0 hp1
            go_wp2
            all_goals
              go_ret
              exact ⟨by rw [HE.out]; rfl, hBB⟩
    · have z1 : (k1 != 0) = true := by simp [hk1]
      have HE : Hid (decide (anyP sc y h ms ss) = false) := decide_eq_false (fun a => hk1 (a.elim (fun a => by have := a.2.2.1; rw [H1.out] at this; exact this) (fun a => by have := a.2.2.1; rw [H1.out] at this; exact this)))
      clear hk1 hpl
      go_wp2
      go_ret
      exact ⟨by rw [HE.out]; rfl, hBB⟩
  · have HV : Hid (decide (anyP sc y h ms ss) = false) := decide_eq_false (fun a => hp (a.elim (fun a => .inl ⟨a.1, a.2.1⟩) (fun a => .inr ⟨a.1, a.2.1⟩)))
    rw [decide_eq_false hp]
    go_wp2
    go_ret
    exact ⟨by rw [HV.out]; rfl, hBB⟩

end Go.Proofs.YtmoekmonkpihhaaGreat

