import Derived.Test.YteemdeggdcoenaaUU1
import Derived.Test.YteemdeggdcoenaaUU2
import Derived.Test.YteemdeggdcoenaaWL1
namespace Go.Proofs.Yteemdeggdcoenaa
open Go.RowKit

set_option maxRecDepth 10000 in
set_option maxHeartbeats 400000 in
theorem big_any3 (a : Option Addr) (n cap : Nat) (w : World) (hn : n ≤ 9223372036854775807) :
    Calls Try.prog 7 #[.slice a n cap] w fun r w' => r = .returned (.bool (decide (1048576 < n))) ∧ w' = w := by
  have e : decide (1048576 < n) = decide ((1048576 : Int) < (n : Int)) := by simp; omega
  rw [e]
  go_enter Try.func7, Try.ntmps7
  go_wp2
  go_ret
  exact ⟨rfl, rfl⟩

set_option maxRecDepth 10000 in
set_option maxHeartbeats 400000 in
theorem byteAt_n (a : Option Addr) (n cap : Nat) (bs : List Int) (i : Nat) (m : Int) (w : World) (h : Row w a n bs) (hm : 0 < m) (hm2 : m ≤ 1000000000) :
    Calls Try.prog 12 #[.slice a n cap, .int .i64 (i : Int), .int .i64 m] w fun e w' => ∃ v : Int, e = .returned (.int .i64 v) ∧ 0 ≤ v ∧ v < m ∧ w = w' := by
  have H : Hid (Row w a n bs) := h
  clear h
  by_cases hlt : i < n
  · obtain ⟨b, off, rfl, hb, hc⟩ := H.out.get i hlt
    obtain ⟨x, hx⟩ : ∃ x, x = bs.getD i 0 := ⟨_, rfl⟩
    have hxb := H.out.byte i
    rw [← hx] at hc hxb
    obtain ⟨hx0, hx1⟩ := hxb
    clear hx
    have hlti : (i : Int) < (n : Int) := by omega
    go_enter Try.func12, Try.ntmps12
    go_wp2
    go_ret
    exact ⟨x % m, rfl, Int.emod_nonneg _ (by omega), Int.emod_lt_of_pos _ hm, rfl⟩
  · have hge : (n : Int) ≤ (i : Int) := by omega
    go_enter Try.func12, Try.ntmps12
    go_wp2
    go_ret
    exact ⟨0, rfl, by decide, hm, rfl⟩

theorem row_two (w : World) (x y : Int) (hx : 0 ≤ x ∧ x ≤ 255) (hy : 0 ≤ y ∧ y ≤ 255) : Row (w.alloc (.cells #[.int .u8 x, .int .u8 y] 5)) (some ⟨w.heap.size, 0, none⟩) 2 [x, y] := by
  refine ⟨rfl, fun k hk => ⟨w.heap.size, 0, rfl, by simp, ?_⟩, fun k => ?_⟩
  · rw [Nat.zero_add, cell_of_row _ w.heap.size k _ 5 _ (heap_alloc_new w _)]
    match k, hk with
    | 0, _ => rfl
    | 1, _ => rfl
  · match k with
    | 0 => exact hx
    | 1 => exact hy
    | k + 2 => simp
theorem OwnU.touch1 {p B : Nat} {w w' : World} {a : Option Addr} {n cap : Nat} {zs : List Int} (h : OwnU B w a n cap zs) (hB : p < B) (ht : Touch p (p + 1) w w') : OwnU B w' a n cap zs := by
  refine ⟨⟨h.row.1, ?_⟩, h.rng⟩
  rcases h.row.2 with h | ⟨g', cap', cur, hv, hb, hh, r⟩
  · exact .inl h
  · exact .inr ⟨g', cap', cur, hv, hb, (ht.block g' (Array.getElem?_eq_some_iff.1 hh).1 (by omega)).trans hh, r⟩
theorem rootR_of {seed h next : Int} (hk : kP h next) : rootR seed h next = (rootN seed h, true) := by unfold rootR; rw [if_pos hk]
theorem rootN_bd (seed h : Int) : U64 (rootN seed h) := lev_bd _ (leavesN_bd _ _) _ _

set_option maxRecDepth 10000 in
set_option maxHeartbeats 16000000 in
theorem lawUsedUp_walk (a : Option Addr) (n c : Nat) (bs : List Int) (w : World) (hr : Row w a n bs) (hmax : n ≤ 9223372036854775807) :
    Calls Try.prog 5 #[.slice a n c] w fun e w' => e = .returned (.bool true) ∧ Below w.heap.size w w' := by
  have H0 : Hid (Row w a n bs) := hr
  clear hr
  go_enter Try.func5, Try.ntmps5
  go_wp2_with fail
  refine (big_any3 a n c _ hmax).mono ?_
  rintro e w1 ⟨rfl, hw1⟩
  have hw2 := hw1.symm
  subst hw2
  clear hw1
  by_cases hbig : 1048576 < n
  · rw [decide_eq_true hbig]
    go_wp2
    go_ret
    exact ⟨rfl, Below.refl _ _⟩
  rw [decide_eq_false hbig]
  have hn : n ≤ 1048576 := by omega
  clear hmax hbig
  go_wp2_with fail
  refine (drawTreeRoot_any a n c bs _ H0.out (by omega)).mono ?_
  rintro e w1 ⟨seed, h, nx, rfl, hs, hh, hnb, hb1⟩
  obtain ⟨w2, hw2⟩ : ∃ w2, w2 = w1.alloc (.cells #[.int .u64 seed, .int .i64 h, .int .i64 nx] 49) := ⟨_, rfl⟩
  obtain ⟨K, hK⟩ : ∃ K, K = w1.heap.size := ⟨_, rfl⟩
  have hK2 : KeyAt w2 K seed h nx := by rw [hw2, hK]; exact key_new w1 seed h nx
  have hb2 : Below w.heap.size w w2 := by rw [hw2]; exact hb1.alloc hb1.size _
  have hKw : w.heap.size ≤ K := by rw [hK]; exact hb1.size
  have HW : Hid (_ = _) := hw2
  have HK : Hid (K = w1.heap.size) := hK
  clear hw2 hK
  rw [tkv]
  go_upto_region 4 with fail
  rw [← HW.out, ← HK.out]
  clear HW HK hb1
  have k0 := hK2.c0
  have k1 := hK2.c1
  have k2 := hK2.c2
  go_wp2_with fail
  refine (implTreeRoot_any seed h nx _ hs).mono ?_
  rintro e w3 ⟨rfl, hb3⟩
  have hK3 := hK2.kept hb3
  clear k0 k1 k2
  obtain ⟨t, ht⟩ : ∃ t, t = rootR seed h nx := ⟨_, rfl⟩
  have HT : Hid (rootR seed h nx = t) := ht.symm
  rw [← ht, pairU]
  clear ht
  obtain ⟨root, ok⟩ := t
  have k0 := hK3.c0
  have k1 := hK3.c1
  have k2 := hK3.c2
  go_wp2_with fail
  refine (specTreeRoot_any seed h nx _ hs).mono ?_
  rintro e w4 ⟨rfl, hb4⟩
  have hK4 : KeyAt w4 K seed h nx := hK3.kept hb4
  rw [HT.out, pairU]
  clear k0 k1 k2 hK3
  have hB4 : Below w.heap.size w w4 := keepT hb2 (keepT hb3 hb4)
  clear hb2 hb3 hb4 hK2
  have z1 : (root != root) = false := by simp
  have z2 : (ok != ok) = false := by simp
  by_cases hk : kP h nx
  · rw [rootR_of hk] at HT
    have HRT : Hid (root = rootN seed h) := by have := HT.out; simp at this; exact this.1.symm
    obtain rfl : ok = true := by have := HT.out; simp at this; exact this.2
    clear HT z2
    obtain ⟨hh0, hh5⟩ := hk.1
    obtain ⟨N, hN⟩ := HN.of hh0 hh5
    have HNP : Hid (_ = _) := hN.pow.1
    have hNl := hN.le
    have hsh := hN.sh
    obtain ⟨hk1, hk2⟩ : 0 ≤ nx ∧ nx ≤ (N : Int) := by rw [HNP.out]; exact hk.2
    have u1 : IntKind.u64.wrap h = h := by rw [IntKind.wrap_u64]; omega
    have hN8 : ¬ (3 < h) → N ≤ 8 := by intro h3; have := hN; unfold HN at this; omega
    have hN3 : 3 < h → 16 ≤ N := by intro h3; have := hN; unfold HN at this; omega
    have k0 := hK4.c0
    have k1 := hK4.c1
    have k2 := hK4.c2
    have x2 := hK4.fz 2
    by_cases h3 : 3 < h
    case' pos =>
      have hN16 := hN3 h3
      clear hN3 hN8
      obtain ⟨nz, hnz⟩ : ∃ nz, nz = (N : Int) - 3 := ⟨_, rfl⟩
      obtain ⟨wz, hwz⟩ : ∃ wz, wz = w4.setCell ⟨K, 2, none⟩ (.int .i64 ((N : Int) - 3)) := ⟨_, rfl⟩
      have HKz : Hid (KeyAt wz K seed h nz) := by rw [hwz, hnz]; exact hK4.put2 _
      have hBz : Below w.heap.size w wz := by rw [hwz]; exact hB4.setCell (by simpa using hKw) _
      have hz0 : 0 ≤ nz := by omega
      have hz1 : nz ≤ (N : Int) := by omega
      have hz8 : (N : Int) - nz ≤ 8 := by omega
      have HW : Hid (_ = _) := hwz
      clear hwz hnz
      go_upto_region 13 with fail
      rw [← HW.out]
      simp only [hsh]
      clear HW k0 k1 k2 x2 hK4 hB4 hk hk1 hk2 h3 hN16
    case' neg =>
      have hN16 := hN8 h3
      clear hN3 hN8
      obtain ⟨nz, hnz⟩ : ∃ nz, nz = nx := ⟨_, rfl⟩
      obtain ⟨wz, hwz⟩ : ∃ wz, wz = w4 := ⟨_, rfl⟩
      have HKz : Hid (KeyAt wz K seed h nz) := by rw [hwz, hnz]; exact hK4
      have hBz : Below w.heap.size w wz := by rw [hwz]; exact hB4
      have hz0 : 0 ≤ nz := by omega
      have hz1 : nz ≤ (N : Int) := by omega
      have hz8 : (N : Int) - nz ≤ 8 := by omega
      have HW : Hid (_ = _) := hwz
      clear hwz hnz
      go_upto_region 13 with fail
      rw [← HW.out]
      clear HW k0 k1 k2 x2 hK4 hB4 hk hk1 hk2 h3 hN16
    all_goals
      go_wp2
      go_loopw [11, 12, 13, 14, 15, 16, 17] (fun i _ _ _ _ _ _ wr => ∃ (k : Nat) (nn : Int), i = .int .i64 k ∧ 0 ≤ nn ∧ nn ≤ (N : Int) ∧ (N : Int) - nn + k ≤ 8 ∧ Hid (KeyAt wr K seed h nn) ∧ Below w.heap.size w wr) (fun i _ _ _ _ _ _ _ => 9 - (intOf i).toNat)
      case atStart => exact ⟨0, nz, rfl, hz0, hz1, by omega, HKz, hBz⟩
      case round =>
        obtain ⟨k, nn, rfl, hn0, hn1, hn8, HKr, hbr⟩ := hrel
        clear HKz hBz hz0 hz1 hz8
        have hk9 : (k : Int) < 9 := by omega
        have hk8 : k ≤ 8 := by omega
        have hkP : kP h nn := ⟨⟨hh0, hh5⟩, hn0, by rw [← HNP.out]; exact hn1⟩
        go_wp2_with fail
        refine (byteAt_n a n c bs k 256 _ (H0.out.kept hbr) (by decide) (by decide)).mono ?_
        rintro e wx ⟨z, rfl, hz0, hz1, hwx⟩
        subst hwx
        have hz255 : z ≤ 255 := by omega
        have hal : Below wr.heap.size wr (wr.alloc (.cells #[.int .u8 (k : Int), .int .u8 z] 5)) := (Below.refl _ _).alloc (Nat.le_refl _) _
        have hrw : Row (wr.alloc (.cells #[.int .u8 (k : Int), .int .u8 z] 5)) (some ⟨wr.heap.size, 0, none⟩) 2 [(k : Int), z] := row_two wr k z (by omega) (by omega)
        have hKm := HKr.out.kept hal
        have k0 := hKm.c0
        have k1 := hKm.c1
        have k2 := hKm.c2
        go_wp2_with fail
        have hbm := keepT hbr hal
        obtain ⟨wm, hwm⟩ : ∃ wm, wm = wr.alloc (.cells #[.int .u8 (k : Int), .int .u8 z] 5) := ⟨_, rfl⟩
        rw [← hwm] at hrw hbm hKm ⊢
        have HRW : Hid (Row wm (some ⟨wr.heap.size, 0, none⟩) 2 [(k : Int), z]) := hrw
        have HKm : Hid (KeyAt wm K seed h nn) := hKm
        have hmw : wr.heap.size < wm.heap.size := by rw [hwm]; simp
        clear hwm hal k0 k1 k2 hKm HKr hbr
        refine (implTreeSign_any seed h nn (some ⟨wr.heap.size, 0, none⟩) 2 2 [(k : Int), z] _ hs hrw (by decide)).mono ?_
        rintro e ws ⟨v, rfl, hsg, hbs⟩
        clear hrw
        have hbw := keepT hbm hbs
        have hKs := HKm.out.kept hbs
        have hKl := HKm.out.lt
        have hms : wm.heap.size ≤ ws.heap.size := hbs.size
        cases hsg with
        | bad hno => exact absurd hkP hno
        | used _ hu =>
          rw [← HNP.out] at hu
          have hue : (nn == (N : Int)) = true := by simp [hu]
          obtain ⟨wt, hwt⟩ : ∃ wt, wt = (ws.alloc (.cells #[.int .i64 0, .slice none 0 0, .slice none 0 0] 55)).alloc (.cells #[.int .u64 seed, .int .i64 h, .int .i64 nn] 49) := ⟨_, rfl⟩
          have hbt : Below ws.heap.size ws wt := by rw [hwt]; exact ((Below.refl _ _).alloc (Nat.le_refl _) _).alloc (by simp) _
          have B0 : wt.heap[ws.heap.size]? = some (.cells #[.int .i64 0, .slice none 0 0, .slice none 0 0] 55) := by rw [hwt]; exact heap_alloc2_old ws _ _
          have B1 : KeyAt wt (ws.heap.size + 1) seed h nn := by rw [hwt]; exact heap_alloc2_new ws _ _
          have HW : Hid (_ = _) := hwt
          have hKt := hKs.kept hbt
          have HB0 : Hid (_ = _) := B0
          have HB1 : Hid (KeyAt wt (ws.heap.size + 1) seed h nn) := B1
          clear hwt B0 B1 hu
          rw [tsv, tkv]
          have k1 := hKt.c1
          have k2 := hKt.c2
          go_upto_region 18 with fail
          rw [← HW.out]
          clear HW
          have HKt : Hid (KeyAt wt K seed h nn) := hKt
          clear hKt hKs
          go_upto_region 19 with fail
          go_wp2_with fail
          refine (lives_any _).mono ?_
          rintro e w6 ⟨rfl, hb6⟩
          clear k1 k2
          have e0 := (hb6.block _ (Array.getElem?_eq_some_iff.1 HB0.out).1).trans HB0.out
          have s1 : w6.cell? ⟨ws.heap.size, 1, none⟩ = some (.slice none 0 0) := (cell_of_row _ _ 1 _ 55 (0, 0) e0).trans rfl
          have e1 := HB1.out.kept hb6
          have n0 := e1.c0
          have n1 := e1.c1
          have n2 := e1.c2
          have e2 := HKt.out.kept hb6
          have k0 := e2.c0
          have k1 := e2.c1
          have k2 := e2.c2
          clear e0 e1 e2
          go_wp2
          go_ret
          exact ⟨rfl, keepT (keepT hbw hbt) hb6⟩
        | made _ hu a1 c1 a2 c2 M ho1 hM hBM ho2 =>
          have hu2 : ¬ (nn = (N : Int)) := by rw [HNP.out]; exact hu
          have hue : (nn == (N : Int)) = false := by simp [hu2]
          have hnl : nn + 1 ≤ (N : Int) := by omega
          have HTK : Hid (tvP root h [(k : Int), z] nn (endSs seed nn [(k : Int), z]) (pathN (leavesN seed (2 ^ h.toNat)) nn.toNat h.toNat)) := by rw [HRT.out]; exact made_taken seed h nn _ hkP hu
          have hkP2 : kP h (nn + 1) := ⟨⟨hh0, hh5⟩, by omega, by rw [← HNP.out]; exact hnl⟩
          obtain ⟨H, hH⟩ : ∃ H, H = h.toNat := ⟨_, rfl⟩
          obtain ⟨ez, hez⟩ : ∃ ez, ez = endSs seed nn [(k : Int), z] := ⟨_, rfl⟩
          obtain ⟨pz, hpz⟩ : ∃ pz, pz = pathN (leavesN seed (2 ^ h.toNat)) nn.toNat h.toNat := ⟨_, rfl⟩
          rw [← hpz, ← hH] at ho2
          rw [← hez] at ho1
          rw [← hez, ← hpz] at HTK
          rw [← hH]
          clear hu hu2 hH hez hpz
          obtain ⟨g1, rfl, hg1a, hg1b⟩ := ho1.shape (by decide)
          have hg1M := hM _ rfl
          simp only at hg1M
          obtain ⟨wt, hwt⟩ : ∃ wt, wt = (ws.alloc (.cells #[.int .i64 nn, .slice (some ⟨g1, 0, none⟩) 18 c1, .slice a2 H c2] 55)).alloc (.cells #[.int .u64 seed, .int .i64 h, .int .i64 (nn + 1)] 49) := ⟨_, rfl⟩
          have hbt : Below ws.heap.size ws wt := by rw [hwt]; exact ((Below.refl _ _).alloc (Nat.le_refl _) _).alloc (by simp) _
          have B0 : wt.heap[ws.heap.size]? = some (.cells #[.int .i64 nn, .slice (some ⟨g1, 0, none⟩) 18 c1, .slice a2 H c2] 55) := by rw [hwt]; exact heap_alloc2_old ws _ _
          have B1 : KeyAt wt (ws.heap.size + 1) seed h (nn + 1) := by rw [hwt]; exact heap_alloc2_new ws _ _
          have HW : Hid (_ = _) := hwt
          have hKt := hKs.kept hbt
          have hst : ws.heap.size + 1 < wt.heap.size := B1.lt
          have HB0 : Hid (wt.heap[ws.heap.size]? = some (.cells #[.int .i64 nn, .slice (some ⟨g1, 0, none⟩) 18 c1, .slice a2 H c2] 55)) := B0
          have HB1 : Hid (KeyAt wt (ws.heap.size + 1) seed h (nn + 1)) := B1
          have HKt : Hid (KeyAt wt K seed h nn) := hKt
          have HO1 : Hid (OwnU wm.heap.size wt (some ⟨g1, 0, none⟩) 18 c1 ez) := ho1.kept hbt
          have HO2 : Hid (OwnU M wt a2 H c2 pz) := ho2.kept hbt
          have hHt : Hid (Row wt (some ⟨wr.heap.size, 0, none⟩) 2 [(k : Int), z]) := (HRW.out.kept hbs).kept hbt
          clear hwt B0 B1 ho1 ho2 hM HRW HKm hKs
          have hgs : g1 < ws.heap.size := hg1b
          have HXD : ∀ w7, Touch g1 (g1 + 1) wt w7 → (w7.cell? ⟨ws.heap.size, 0, none⟩ = some (.int .i64 nn) ∧ w7.cell? ⟨ws.heap.size, 1, none⟩ = some (.slice (some ⟨g1, 0, none⟩) 18 c1) ∧ w7.cell? ⟨ws.heap.size, 2, none⟩ = some (.slice a2 H c2)) ∧ (w7.cell? ⟨ws.heap.size + 1, 0, none⟩ = some (.int .u64 seed) ∧ w7.cell? ⟨ws.heap.size + 1, 1, none⟩ = some (.int .i64 h) ∧ w7.cell? ⟨ws.heap.size + 1, 2, none⟩ = some (.int .i64 (nn + 1))) ∧ w7.cell? ⟨K, 0, none⟩ = some (.int .u64 seed) ∧ w7.cell? ⟨K, 1, none⟩ = some (.int .i64 h) ∧ w7.cell? ⟨K, 2, none⟩ = some (.int .i64 nn) := by
            intro w7 h7
            have e0 := (h7.block ws.heap.size (by omega) (by omega)).trans HB0.out
            have e1 := HB1.out.touch h7 (by omega)
            have e2 := HKt.out.touch h7 (by omega)
            exact ⟨⟨(cell_of_row _ _ 0 _ 55 (0, 0) e0).trans rfl, (cell_of_row _ _ 1 _ 55 (0, 0) e0).trans rfl, (cell_of_row _ _ 2 _ 55 (0, 0) e0).trans rfl⟩, ⟨e1.c0, e1.c1, e1.c2⟩, e2.c0, e2.c1, e2.c2⟩
          rw [tsv, tkv]
          go_upto_region 18 with fail
          rw [← HW.out]
          clear HW
          obtain ⟨⟨s0, s1, s2⟩, ⟨n0, n1, n2⟩, k0, k1, k2⟩ := HXD _ (Touch.of_below (Below.refl _ _))
          have y1 : (nn != nn) = false := by simp
          have y2 : (nn + 1 != nn + 1) = false := by simp
          have y3 : (seed != seed) = false := by simp
          have y4 : (h != h) = false := by simp
          have hn2a : nn + 1 ≤ 9223372036854775807 := by omega
          go_wp2_with fail
          refine (implTreeVerify_any root h (some ⟨wr.heap.size, 0, none⟩) 2 2 [(k : Int), z] nn (some ⟨g1, 0, none⟩) 18 c1 ez a2 H c2 pz _ hHt.out (by decide) HO1.out.toRow HO2.out.toRow).mono ?_
          rintro e wv ⟨rfl, hbv⟩
          rw [decide_eq_true HTK.out]
          clear s0 s1 s2 n0 n1 n2 k0 k1 k2
          obtain ⟨⟨s0, s1, s2⟩, ⟨n0, n1, n2⟩, k0, k1, k2⟩ := HXD _ (Touch.of_below hbv)
          go_wp2_with fail
          refine (implTreeRoot_any seed h (nn + 1) _ hs).mono ?_
          rintro e wq ⟨rfl, hbq⟩
          rw [rootR_of hkP2, ← HRT.out, pairU]
          clear s0 s1 s2 n0 n1 n2 k0 k1 k2
          have hbvq := keepT hbv hbq
          go_upto_region 25 with fail
          have hdr : Below wt.heap.size wt wq.drew := hbvq.drew
          have hbwt := keepT hbw hbt
          have HCD : Hid (Row wq.drew a n bs) := H0.out.kept (keepT hbwt hdr)
          have HOD : Hid (OwnU wm.heap.size wq.drew (some ⟨g1, 0, none⟩) 18 c1 ez) := HO1.out.kept hdr
          obtain ⟨⟨s0, s1, s2⟩, _⟩ := HXD _ (Touch.of_below hbvq)
          obtain ⟨⟨t0, t1, t2⟩, _⟩ := HXD _ (Touch.of_below hdr)
          have HCJ : Hid (∀ j : Nat, j < 18 → wq.drew.cell? ⟨g1, j, none⟩ = some (.int .u64 (ez.getD j 0)) ∧ wq.drew.frozen? ⟨g1, j, none⟩ = false) := by
            intro j hj
            obtain ⟨b', off', hbe, _, hcj⟩ := HOD.out.toRow.get j hj
            simp only [Option.some.injEq, Addr.mk.injEq, and_true] at hbe
            obtain ⟨rfl, rfl⟩ := hbe
            rw [Nat.zero_add] at hcj
            exact ⟨hcj, HOD.out.row.frozenAt _⟩
          go_region_with ((go_at_call 12; refine (byteAt_n a n c bs 1 18 _ HCD.out (by decide) (by decide)).mono ?_; rintro e wj ⟨jj, rfl, hj0, hj1, hwj⟩; subst hwj; obtain ⟨j, rfl⟩ := Int.eq_ofNat_of_zero_le hj0; have hj18 : j < 18 := (by omega); obtain ⟨hcj, hfj⟩ := HCJ.out j hj18))
          all_goals
            obtain ⟨y, hy⟩ : ∃ y, y = bits BinOp.xor .u64 (ez[j]?.getD 0) 1 := ⟨_, rfl⟩
            have hyb : U64 y := by rw [hy]; exact bits_u64_range _ _ _
            rw [← hy]
            clear hy hcj hfj HCD HCJ HOD s0 s1 s2 t0 t1 t2 hdr
            have hOq := HO1.out.kept hbvq
            have hst1 := (hOq.row.stored j (.int .u64 y)).1
            rw [← List.map_set] at hst1
            have HO1z : Hid (OwnU wm.heap.size (wq.setCell ⟨g1, j, none⟩ (.int .u64 y)).drew (some ⟨g1, 0, none⟩) 18 c1 (ez.set j y)) := (show OwnU wm.heap.size (wq.setCell ⟨g1, j, none⟩ (.int .u64 y)) (some ⟨g1, 0, none⟩) 18 c1 (ez.set j y) from ⟨hst1, u64_set hOq.rng _ hyb⟩).kept ((Below.refl _ _).drew)
            have htz0 : Touch g1 (g1 + 1) wt (wq.setCell ⟨g1, j, none⟩ (.int .u64 y)) := (Touch.of_below hbvq).setCell (by simp) (by simp) _
            have htz : Touch g1 (g1 + 1) wt (wq.setCell ⟨g1, j, none⟩ (.int .u64 y)).drew := ⟨htz0.os, htz0.tape, htz0.output, htz0.size, htz0.block⟩
            have hbz : Below w.heap.size w (wq.setCell ⟨g1, j, none⟩ (.int .u64 y)).drew := ((keepT hbwt hbvq).setCell (by have := hbm.size; simp; omega) _).drew
            obtain ⟨wz, hwz⟩ : ∃ wz, wz = (wq.setCell ⟨g1, j, none⟩ (.int .u64 y)).drew := ⟨_, rfl⟩
            rw [← hwz] at HO1z htz hbz ⊢
            clear hwz hst1 hOq htz0
            have HO2z : Hid (OwnU M wz a2 H c2 pz) := HO2.out.touch1 hg1M htz
            have HMz : Hid (Row wz (some ⟨wr.heap.size, 0, none⟩) 2 [(k : Int), z]) := hHt.out.touch (p := wr.heap.size) (q := wr.heap.size + 1) (fun b off ha _ => by simp at ha; omega) (by omega) htz
            have HYD : ∀ w7, Below wz.heap.size wz w7 → (w7.cell? ⟨K, 1, none⟩ = some (.int .i64 h) ∧ w7.cell? ⟨ws.heap.size, 0, none⟩ = some (.int .i64 nn) ∧ w7.cell? ⟨ws.heap.size, 1, none⟩ = some (.slice (some ⟨g1, 0, none⟩) 18 c1) ∧ w7.cell? ⟨ws.heap.size, 2, none⟩ = some (.slice a2 H c2)) ∧ (w7.cell? ⟨ws.heap.size + 1, 0, none⟩ = some (.int .u64 seed) ∧ w7.cell? ⟨ws.heap.size + 1, 1, none⟩ = some (.int .i64 h) ∧ w7.cell? ⟨ws.heap.size + 1, 2, none⟩ = some (.int .i64 (nn + 1))) ∧ KeyAt w7 K seed h nn := by
              intro w7 h7
              have ht7 : Touch g1 (g1 + 1) wt w7 := htz.trans (Touch.of_below h7)
              obtain ⟨e0, e1, e2⟩ := HXD w7 ht7
              exact ⟨⟨e2.2.1, e0.1, e0.2.1, e0.2.2⟩, e1, HKt.out.touch ht7 (by omega)⟩
            go_upto_region 26 with fail
            have hd2 : Below wz.heap.size wz wz.drew := (Below.refl _ _).drew
            have T0 := (HYD _ (Below.refl _ _)).1
            have T1 := (HYD _ hd2).1
            obtain ⟨vb, hvb⟩ : ∃ vb, vb = decide (tvP root h [(k : Int), z] nn (ez.set j y) pz) := ⟨_, rfl⟩
            have HVB : Hid (decide (tvP root h [(k : Int), z] nn (ez.set j y) pz) = vb) := hvb.symm
            have zvb : (vb != vb) = false := by simp
            clear hvb
            go_region_held_law (fun w7 => w7.cell? ⟨K, 1, none⟩ = some (.int .i64 h) ∧ w7.cell? ⟨ws.heap.size, 0, none⟩ = some (.int .i64 nn) ∧ w7.cell? ⟨ws.heap.size, 1, none⟩ = some (.slice (some ⟨g1, 0, none⟩) 18 c1) ∧ w7.cell? ⟨ws.heap.size, 2, none⟩ = some (.slice a2 H c2)) (first | assumption | exact T0 | exact T1 | exact T2 | exact T3)
              (first
                | (go_at_call 25; refine (implTreeVerify_any root h (some ⟨wr.heap.size, 0, none⟩) 2 2 [(k : Int), z] nn (some ⟨g1, 0, none⟩) 18 c1 (ez.set j y) a2 H c2 pz _ (HMz.out.kept hd2) (by decide) (HO1z.out.kept hd2).toRow (HO2z.out.kept hd2).toRow).mono ?_; rintro e wa ⟨rfl, hba⟩; rw [HVB.out]; have hza := keepT hd2 hba; have T2 := (HYD _ hza).1)
                | (go_at_call 26; refine (specTreeVerify_any root h (some ⟨wr.heap.size, 0, none⟩) 2 2 [(k : Int), z] nn (some ⟨g1, 0, none⟩) 18 c1 (ez.set j y) a2 H c2 pz _ (HMz.out.kept hza) (by decide) (HO1z.out.kept hza).toRow (HO2z.out.kept hza).toRow).mono ?_; rintro e wb ⟨rfl, hbb⟩; rw [HVB.out]; have hzb := keepT hza hbb; have T3 := (HYD _ hzb).1))
            all_goals
              clear T0 T1 T2 T3
              obtain ⟨_, ⟨n0, n1, n2⟩, hKb⟩ := HYD _ hzb
              have k0 := hKb.c0
              have k1 := hKb.c1
              have k2 := hKb.c2
              have x0 := hKb.fz 0
              have x1 := hKb.fz 1
              have x2 := hKb.fz 2
              have HKb : Hid (KeyAt wb K seed h nn) := hKb
              clear hKb
              go_wp2
              refine ⟨⟨k + 1, nn + 1, by go_num, by omega, by omega, by omega, ?_, (((keepT hbz hzb).setCell hKw _).setCell hKw _).setCell hKw _⟩, by simp [intOf]; omega⟩
              show _ = _
              exact heap_setCell_same _ _ 2 _ 49 _ (heap_setCell_same _ _ 1 _ 49 _ (heap_setCell_same _ _ 0 _ 49 _ HKb.out))
  · have hno : rootR seed h nx = (0, false) := by unfold rootR; rw [if_neg hk]
    rw [hno] at HT
    obtain rfl : ok = false := by have := HT.out; simp at this; exact this.2
    clear HT hno
    have k0 := hK4.c0
    have k1 := hK4.c1
    have k2 := hK4.c2
    go_wp2_with fail
    refine (implTreeSign_any seed h nx a n c bs _ hs (H0.out.kept hB4) (by omega)).mono ?_
    rintro e w5 ⟨v, rfl, hsg, hb5⟩
    cases hsg with
    | bad _ =>
      rw [tsv, tkv]
      go_wp2_with fail
      refine (lives_any _).mono ?_
      rintro e w6 ⟨rfl, hb6⟩
      go_wp2
      go_ret
      exact ⟨rfl, keepT (((keepT hB4 hb5).alloc (keepT hB4 hb5).size _).alloc (by have := (keepT hB4 hb5).size; simp; omega) _) hb6⟩
    | used hk' _ => exact absurd hk' hk
    | made hk' _ _ _ _ _ _ _ _ _ _ => exact absurd hk' hk

end Go.Proofs.Yteemdeggdcoenaa
