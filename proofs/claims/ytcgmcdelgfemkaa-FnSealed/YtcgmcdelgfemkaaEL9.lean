import Derived.Test.YtcgmcdelgfemkaaEL8
import Derived.Test.YtcgmcdelgfemkaaEL2
import Derived.Deep.RegionHeld3
import Derived.Deep.RegionWith
import Derived.BigQuiet
namespace Go.Proofs.Ytcgmcdelgfemkaa
open Go.RowKit Go.Sort

theorem BlkS.row {w : World} {g : Nat} {x : Int} (h : BlkS w g x) : ∀ W, Below w.heap.size w W → W.cell? ⟨g, 0, none⟩ = some (.int .i64 1) ∧ W.cell? ⟨g, 1, none⟩ = some (.int .u64 x) ∧ W.cell? ⟨g, 2, none⟩ = some (.int .i64 0) ∧ W.cell? ⟨g, 3, none⟩ = some (.int .i64 0) := fun _ hW => (h.kept hW).cells
/-- What region 6 leaves: the envelope in its box. -/
def Boxed6 (t : EnvV) (w5 : World) (e ok : Value) (wx : World) : Prop :=
  ∃ (g B X : Nat) (wa : Option Addr) (wn wc : Nat) (ba : Option Addr) (bn bc : Nat), e = .pointer (some ⟨g, 0, none⟩) ∧ ok = .bool t.ok ∧ BlkV wx g (.int .i64 t.eph) (.slice wa wn wc) (.slice ba bn bc) (.int .u64 t.tg) ∧ EvW B X wx wa wn wc t.ws ba bn bc t.bs ∧ (w5.heap.size ≤ g ∧ w5.heap.size ≤ B ∧ (g < B ∨ X ≤ g)) ∧ (wa = none → wc = 0) ∧ (ba = none → bc = 0) ∧ Below w5.heap.size w5 wx
theorem Boxed6.below {t : EnvV} {w5 wx : World} {e ok : Value} (h : Boxed6 t w5 e ok wx) : Below w5.heap.size w5 wx := by
  obtain ⟨_, _, _, _, _, _, _, _, _, _, _, _, _, _, _, _, h⟩ := h
  exact h
/-- A box laid ahead of the call. -/
def Zed (w5 w : World) (g : Nat) : Prop := BlkV w g (.int .i64 0) (.slice none 0 0) (.slice none 0 0) (.int .u64 0) ∧ w5.heap.size ≤ g
theorem Zed.kept {w5 w w' : World} {g : Nat} (h : Zed w5 w g) (hb : Below w.heap.size w w') : Zed w5 w' g := ⟨h.1.kept hb, h.2⟩
theorem zed_new {w5 w : World} (h : w5.heap.size ≤ w.heap.size) : Zed w5 (w.alloc (.cells #[.int .i64 0, .slice none 0 0, .slice none 0 0, .int .u64 0] 44)) w.heap.size := ⟨heap_alloc_new w _, h⟩
theorem boxed_late {t : EnvV} {w5 wq wr : World} (wa : Option Addr) (wn wc : Nat) (ba : Option Addr) (bn bc : Nat) (hE : EvW wq.heap.size wr.heap.size wr wa wn wc t.ws ba bn bc t.bs) (h1 : wa = none → wc = 0) (h2 : ba = none → bc = 0) (hq : Below w5.heap.size w5 wq) (hr : Below wq.heap.size wq wr) :
    Boxed6 t w5 (.pointer (some ⟨wr.heap.size, 0, none⟩)) (.bool t.ok) (wr.alloc (.cells #[.int .i64 t.eph, .slice wa wn wc, .slice ba bn bc, .int .u64 t.tg] 44)) := by
  have hb : Below wr.heap.size wr (wr.alloc (.cells #[.int .i64 t.eph, .slice wa wn wc, .slice ba bn bc, .int .u64 t.tg] 44)) := (Below.refl _ _).alloc (Nat.le_refl _) _
  have hs := hr.size
  have hs5 := hq.size
  exact ⟨wr.heap.size, wq.heap.size, wr.heap.size, wa, wn, wc, ba, bn, bc, rfl, rfl, heap_alloc_new wr _, hE.kept hb, ⟨by omega, hs5, .inr (Nat.le_refl _)⟩, h1, h2, keepT (keepT hq hr) hb⟩
theorem boxed_early {t : EnvV} {w5 wq wr : World} {g : Nat} (wa : Option Addr) (wn wc : Nat) (ba : Option Addr) (bn bc : Nat) (hE : EvW wq.heap.size wr.heap.size wr wa wn wc t.ws ba bn bc t.bs) (h1 : wa = none → wc = 0) (h2 : ba = none → bc = 0) (hq : Below w5.heap.size w5 wq) (hr : Below wq.heap.size wq wr) (hz : Zed w5 wq g) :
    Boxed6 t w5 (.pointer (some ⟨g, 0, none⟩)) (.bool t.ok) ((((wr.setCell ⟨g, 0, none⟩ (.int .i64 t.eph)).setCell ⟨g, 1, none⟩ (.slice wa wn wc)).setCell ⟨g, 2, none⟩ (.slice ba bn bc)).setCell ⟨g, 3, none⟩ (.int .u64 t.tg)) := by
  have hl := hz.1.lt
  have hs5 := hq.size
  exact ⟨g, wq.heap.size, wr.heap.size, wa, wn, wc, ba, bn, bc, rfl, rfl, heap_set4 (hz.1.kept hr) _ _ _ _, hE.touch (touch4 wr g _ _ _ _) (.inr hl), ⟨hz.2, hs5, .inl hl⟩, h1, h2, belowV (keepT hq hr) g hz.2 _ _ _ _⟩

set_option maxRecDepth 10000 in
set_option maxHeartbeats 8000000 in
theorem lawSealed_walk (a : Option Addr) (n c : Nat) (z0 : List Int) (b : Option Addr) (m d : Nat) (z1 : List Int) (w : World) (hr0 : IsRow .u8 w a n c z0) (hr1 : IsRow .u8 w b m d z1) :
    Calls Try.prog 4 #[.slice a n c, .slice b m d] w fun e w' => e = .returned (.bool true) ∧ Below w.heap.size w w' := by
  obtain ⟨hrow0, hmax0⟩ := hr0.row
  obtain ⟨hrow1, hmax1⟩ := hr1.row
  obtain ⟨cs, hcs⟩ : ∃ cs, cs = z0.take n := ⟨_, rfl⟩
  obtain ⟨ms, hms⟩ : ∃ ms, ms = z1.take m := ⟨_, rfl⟩
  rw [← hcs] at hrow0
  rw [← hms] at hrow1
  clear hcs hr0 hms hr1
  unfold maxLen at hmax0 hmax1
  have HA : Hid (Row w a n cs) := hrow0
  have HB : Hid (Row w b m ms) := hrow1
  clear hrow0 hrow1
  by_cases hbig : 1048576 < n
  · go_enter Try.func4, Try.ntmps4
    go_wp2_with fail
    refine (big_anyE a n c _ (by omega)).mono ?_
    rintro e w1 ⟨rfl, hw⟩
    have hw2 := hw.symm
    subst hw2
    rw [decide_eq_true hbig]
    go_wp2
    go_ret
    exact ⟨rfl, Below.refl _ _⟩
  by_cases hbig1 : 1048576 < m
  · go_enter Try.func4, Try.ntmps4
    go_wp2_with fail
    refine (big_anyE a n c _ (by omega)).mono ?_
    rintro e w1 ⟨rfl, hw⟩
    have hw2 := hw.symm
    subst hw2
    rw [decide_eq_false hbig]
    go_wp2_with fail
    refine (big_anyE b m d _ (by omega)).mono ?_
    rintro e w1 ⟨rfl, hw⟩
    have hw2 := hw.symm
    subst hw2
    rw [decide_eq_true hbig1]
    go_wp2
    go_ret
    exact ⟨rfl, Below.refl _ _⟩
  go_enter Try.func4, Try.ntmps4
  go_wp2_with fail
  refine (big_anyE a n c _ (by omega)).mono ?_
  rintro e w1 ⟨rfl, hw⟩
  have hw2 := hw.symm
  subst hw2
  rw [decide_eq_false hbig]
  go_wp2_with fail
  refine (big_anyE b m d _ (by omega)).mono ?_
  rintro e w1 ⟨rfl, hw⟩
  have hw2 := hw.symm
  subst hw2
  rw [decide_eq_false hbig1]
  go_wp2_with fail
  refine (drawSealMsg_any a n c cs _ HA.out (by omega)).mono ?_
  rintro e w1 ⟨a1, n1, c1, xs, dv, eph, rfl, hn1, hx1, hc1, he0, he1, hb1⟩
  have HX1 : Hid (Row w1 a1 n1 xs) := hx1
  clear hx1
  obtain ⟨v0, hv0⟩ : ∃ v0, v0 = byN ms 0 30 := ⟨_, rfl⟩
  have hvb := byN_bd ms 0 30 (by decide)
  rw [← hv0] at hvb
  obtain ⟨hv00, hv01⟩ := hvb
  obtain ⟨u, rfl⟩ := Int.eq_ofNat_of_zero_le hv00
  have HV0 : Hid ((u : Int) = byN ms 0 30) := hv0
  have hu30 : u < 30 := by omega
  clear hv0 hv00 hv01
  obtain ⟨v1, hv1⟩ : ∃ v1, v1 = byN ms 1 30 := ⟨_, rfl⟩
  have hvb := byN_bd ms 1 30 (by decide)
  rw [← hv1] at hvb
  obtain ⟨hv10, hv11⟩ := hvb
  obtain ⟨v, rfl⟩ := Int.eq_ofNat_of_zero_le hv10
  have HV1 : Hid ((v : Int) = byN ms 1 30) := hv1
  have hv30 : v < 30 := by omega
  clear hv1 hv10 hv11
  obtain ⟨xa, hxa⟩ : ∃ xa, xa = ((7000 + 313 * u : Nat) : Int) := ⟨_, rfl⟩
  obtain ⟨xb, hxb⟩ : ∃ xb, xb = ((7000 + 313 * (30 + v) : Nat) : Int) := ⟨_, rfl⟩
  have hxa1 : 7000 ≤ xa := by omega
  have hxa2 : xa ≤ 40000 := by omega
  have hxb1 : 7000 ≤ xb := by omega
  have hxb2 : xb ≤ 40000 := by omega
  have HXA : Hid (xa = ((7000 + 313 * u : Nat) : Int)) := hxa
  have HXB : Hid (xb = ((7000 + 313 * (30 + v) : Nat) : Int)) := hxb
  clear hxa hxb
  go_wp2_with fail
  refine (byteAt_v b m d ms 0 30 _ (HB.out.kept hb1) (by decide) (by decide)).mono ?_
  rintro e w2 ⟨rfl, hw⟩
  subst hw
  rw [← HV0.out]
  go_wp2_with fail
  refine (groupSecret_any u _ (by omega)).mono ?_
  rintro e w2 ⟨rfl, hb2⟩
  rw [← HXA.out]
  obtain ⟨w3, hw3⟩ : ∃ w3, w3 = w2.alloc (.cells #[.int .i64 1, .int .u64 xa, .int .i64 0, .int .i64 0] 40) := ⟨_, rfl⟩
  have hb3 : Below w2.heap.size w2 w3 := by rw [hw3]; exact (Below.refl _ _).alloc (Nat.le_refl _) _
  have HS3 : Hid (BlkS w3 w2.heap.size xa) := by rw [hw3]; exact heap_alloc_new w2 _
  have HW3 : Hid (w3 = w2.alloc (.cells #[.int .i64 1, .int .u64 xa, .int .i64 0, .int .i64 0] 40)) := hw3
  have K3 : Below w1.heap.size w1 w3 := keepT hb2 hb3
  clear hw3
  unfold scv
  go_upto_region 5 with fail
  rw [← HW3.out]
  clear HW3
  go_wp2_with fail
  refine (byteAt_v b m d ms 1 30 _ (HB.out.kept (keepT hb1 K3)) (by decide) (by decide)).mono ?_
  rintro e w4 ⟨rfl, hw⟩
  subst hw
  rw [← HV1.out]
  have HVC : Hid ((30 : Int) + (v : Int) = ((30 + v : Nat) : Int)) := by show _ = _; omega
  go_wp2_with fail
  rw [HVC.out]
  refine (groupSecret_any (30 + v) _ (by omega)).mono ?_
  rintro e w4 ⟨rfl, hb4⟩
  rw [← HXB.out]
  obtain ⟨w5, hw5⟩ : ∃ w5, w5 = w4.alloc (.cells #[.int .i64 1, .int .u64 xb, .int .i64 0, .int .i64 0] 40) := ⟨_, rfl⟩
  have hb5 : Below w4.heap.size w4 w5 := by rw [hw5]; exact (Below.refl _ _).alloc (Nat.le_refl _) _
  have HT5 : Hid (BlkS w5 w4.heap.size xb) := by rw [hw5]; exact heap_alloc_new w4 _
  have HW5 : Hid (w5 = w4.alloc (.cells #[.int .i64 1, .int .u64 xb, .int .i64 0, .int .i64 0] 40)) := hw5
  have K35 : Below w3.heap.size w3 w5 := keepT hb4 hb5
  have HS5 : Hid (BlkS w5 w2.heap.size xa) := HS3.out.kept K35
  have K5 : Below w1.heap.size w1 w5 := keepT K3 K35
  have s1 := hb1.size
  have s2 := hb2.size
  have s3 := HS3.out.lt
  have s4 := hb4.size
  have s5 := HT5.out.lt
  clear hw5 HS3 hb2 hb3 hb4 hb5 K3 K35
  unfold scv
  go_upto_region 6 with fail
  rw [← HW5.out]
  clear HW5
  obtain ⟨t, ht⟩ : ∃ t, t = sealR xs [pubX xa, pubX xb] eph := ⟨_, rfl⟩
  have HT : Hid (sealR xs [pubX xa, pubX xb] eph = t) := ht.symm
  clear ht
  have hsa : secP xa := ⟨by omega, by omega⟩
  have hsb : secP xb := ⟨by omega, by omega⟩
  have HXC : Hid (∀ W, Below w5.heap.size w5 W → Row W a1 n1 xs) := fun W hW => HX1.out.kept (keepT K5 hW)
  have HRT := fun W => rowPu_two W xa xb
  have HR1 := fun W => rowPu_one W xb
  have HPA := fun W => pubOfLaw_any xa W hsa
  have HPB := fun W => pubOfLaw_any xb W hsb
  obtain ⟨ya, hya⟩ : ∃ ya, ya = gp 4 xa := ⟨_, rfl⟩
  obtain ⟨yb, hyb⟩ : ∃ yb, yb = gp 4 xb := ⟨_, rfl⟩
  rw [← hya] at HPA
  rw [← hyb] at HPB
  rw [← hya, ← hyb] at HRT
  rw [← hyb] at HR1
  clear hya hyb
  obtain ⟨G1, hG1⟩ : ∃ G1, G1 = w2.heap.size := ⟨_, rfl⟩
  obtain ⟨G2, hG2⟩ : ∃ G2, G2 = w4.heap.size := ⟨_, rfl⟩
  rw [← hG1] at HS5 s3 ⊢
  rw [← hG2] at HT5 s5 ⊢
  have sg1 : w1.heap.size ≤ G1 := by omega
  have sg2 : w1.heap.size ≤ G2 := by have := HS5.out.lt; omega
  clear hG1 hG2 s2 s3 s4
  have HXD : ∀ (w7 : World), Below w5.heap.size w5 w7 → (w7.cell? ⟨G1, 0, none⟩ = some (.int .i64 1) ∧ w7.cell? ⟨G1, 1, none⟩ = some (.int .u64 xa) ∧ w7.cell? ⟨G1, 2, none⟩ = some (.int .i64 0) ∧ w7.cell? ⟨G1, 3, none⟩ = some (.int .i64 0)) ∧ (w7.cell? ⟨G2, 0, none⟩ = some (.int .i64 1) ∧ w7.cell? ⟨G2, 1, none⟩ = some (.int .u64 xb) ∧ w7.cell? ⟨G2, 2, none⟩ = some (.int .i64 0) ∧ w7.cell? ⟨G2, 3, none⟩ = some (.int .i64 0)) := fun w7 h7 => ⟨HS5.out.row w7 h7, HT5.out.row w7 h7⟩
  go_cut [10, 11] (fun e ok wx => Boxed6 t w5 e ok wx)
  case first =>
    have hcur : Below w5.heap.size w5 w5.drew := (Below.refl _ _).drew
    have SS0 := HXD w5.drew hcur
    have SA0 := HXD (w5.drew.alloc (.cells #[.int .i64 0, .slice none 0 0, .slice none 0 0, .int .u64 0] 44)) (hcur.alloc hcur.size _)
    have HZ0 : Hid (Zed w5 (w5.drew.alloc (.cells #[.int .i64 0, .slice none 0 0, .slice none 0 0, .int .u64 0] 44)) w5.heap.size) := zed_new (w := w5.drew) (Nat.le_refl _)
    unfold scv at HPA HPB
    go_region_held3 (fun w7 => (w7.cell? ⟨G1, 0, none⟩ = some (.int .i64 1) ∧ w7.cell? ⟨G1, 1, none⟩ = some (.int .u64 xa) ∧ w7.cell? ⟨G1, 2, none⟩ = some (.int .i64 0) ∧ w7.cell? ⟨G1, 3, none⟩ = some (.int .i64 0)) ∧ (w7.cell? ⟨G2, 0, none⟩ = some (.int .i64 1) ∧ w7.cell? ⟨G2, 1, none⟩ = some (.int .u64 xb) ∧ w7.cell? ⟨G2, 2, none⟩ = some (.int .i64 0) ∧ w7.cell? ⟨G2, 3, none⟩ = some (.int .i64 0))) (first | assumption | exact SS0 | exact SA0 | exact SS1 | exact SA1 | exact SS2 | exact SA2 | exact SB2 | exact SC2 | exact SD2 | exact SS4 | exact SA4 | exact SL4 | exact SE4)
      (first
        | (go_at_call 16; first
            | ((with_reducible refine (HPA w5.drew).mono ?_); rintro e w6 ⟨rfl, hb6⟩; have hc6 : Below w5.heap.size w5 w6 := keepT hcur hb6; have SS1 := HXD _ hc6; have SA1 := HXD (w6.alloc (.cells #[.int .i64 0, .slice none 0 0, .slice none 0 0, .int .u64 0] 44)) (hc6.alloc hc6.size _); have HZ6 : Hid (Zed w5 (w6.alloc (.cells #[.int .i64 0, .slice none 0 0, .slice none 0 0, .int .u64 0] 44)) w6.heap.size) := zed_new hc6.size; clear hb6)
            | ((with_reducible refine (HPA _).mono ?_); rintro e w6 ⟨rfl, hb6⟩; have hc6 : Below w5.heap.size w5 w6 := keepT (hcur.alloc hcur.size _) hb6; have SS1 := HXD _ hc6; have HY6 : Hid (Zed w5 w6 w5.heap.size) := HZ0.out.kept hb6; clear hb6)
            | ((with_reducible refine (HPB w6).mono ?_); rintro e w7 ⟨rfl, hb7⟩; have hc7 : Below w5.heap.size w5 w7 := keepT hc6 hb7; have SS2 := HXD _ hc7; have SA2 := HXD (w7.alloc (.cells #[.int .i64 0, .slice none 0 0, .slice none 0 0, .int .u64 0] 44)) (hc7.alloc hc7.size _); have SC2 := HXD ((w7.alloc (.cells #[.int .i64 0, .slice none 0 0, .slice none 0 0, .int .u64 0] 44)).alloc (.cells #[.int .i64 1, .int .u64 ya, .int .i64 0, .int .i64 1, .int .u64 yb, .int .i64 0] 48)) ((hc7.alloc hc7.size _).alloc (hc7.alloc hc7.size _).size _); have SD2 := HXD ((w7.alloc (.cells #[.int .i64 1, .int .u64 ya, .int .i64 0, .int .i64 1, .int .u64 yb, .int .i64 0] 48)).alloc (.cells #[.int .i64 0, .slice none 0 0, .slice none 0 0, .int .u64 0] 44)) ((hc7.alloc hc7.size _).alloc (hc7.alloc hc7.size _).size _); have SB2 := HXD (w7.alloc (.cells #[.int .i64 1, .int .u64 ya, .int .i64 0, .int .i64 1, .int .u64 yb, .int .i64 0] 48)) (hc7.alloc hc7.size _); (first | (have HY7 : Hid (Zed w5 w7 w5.heap.size) := HY6.out.kept hb7) | skip); clear hb7)
            | ((with_reducible refine (HPB (w6.alloc (.cells #[.int .i64 0, .slice none 0 0, .slice none 0 0, .int .u64 0] 44))).mono ?_); rintro e w7 ⟨rfl, hb7⟩; have hc7 : Below w5.heap.size w5 w7 := keepT (hc6.alloc hc6.size _) hb7; have SS2 := HXD _ hc7; have SB2 := HXD (w7.alloc (.cells #[.int .i64 1, .int .u64 ya, .int .i64 0, .int .i64 1, .int .u64 yb, .int .i64 0] 48)) (hc7.alloc hc7.size _); have HY7 : Hid (Zed w5 w7 w6.heap.size) := HZ6.out.kept hb7; clear hb7))
        | (go_at_call 15; first
            | ((with_reducible refine (implSealMsg_any a1 n1 c1 xs _ 2 2 [pubX xa, pubX xb] eph (w7.alloc (.cells #[.int .i64 1, .int .u64 ya, .int .i64 0, .int .i64 1, .int .u64 yb, .int .i64 0] 48)) (HXC.out _ (hc7.alloc hc7.size _)) hc1 (by omega) (HRT w7) (by decide) (pub22_two xa xb) (by omega)).mono ?_); rw [HT.out]; rintro e w8 ⟨ta, tn, tc, ba, bn, bc, rfl, hE, hna, hnb, hb8⟩; have hcq : Below w5.heap.size w5 (w7.alloc (.cells #[.int .i64 1, .int .u64 ya, .int .i64 0, .int .i64 1, .int .u64 yb, .int .i64 0] 48)) := hc7.alloc hc7.size _; have SS4 := HXD _ (keepT hcq hb8); have SA4 := HXD (w8.alloc (.cells #[.int .i64 0, .slice none 0 0, .slice none 0 0, .int .u64 0] 44)) ((keepT hcq hb8).alloc (keepT hcq hb8).size _); have FL := boxed_late (t := t) (w5 := w5) ta tn tc ba bn bc hE hna hnb hcq hb8; have SL4 := HXD _ FL.below; (first | (have hz := HY7.out.kept ((Below.refl w7.heap.size w7).alloc (Nat.le_refl _) (.cells #[.int .i64 1, .int .u64 ya, .int .i64 0, .int .i64 1, .int .u64 yb, .int .i64 0] 48)); have FE := boxed_early (t := t) (w5 := w5) ta tn tc ba bn bc hE hna hnb hcq hb8 hz; have SE4 := HXD _ FE.below; obtain ⟨⟨k0, k1, k2, k3⟩, l0, l1, l2, l3⟩ := (hz.kept hb8).1.cells) | skip); unfold evv; clear hb8)
            | ((with_reducible refine (implSealMsg_any a1 n1 c1 xs _ 2 2 [pubX xa, pubX xb] eph ((w7.alloc (.cells #[.int .i64 0, .slice none 0 0, .slice none 0 0, .int .u64 0] 44)).alloc (.cells #[.int .i64 1, .int .u64 ya, .int .i64 0, .int .i64 1, .int .u64 yb, .int .i64 0] 48)) (HXC.out _ ((hc7.alloc hc7.size _).alloc (hc7.alloc hc7.size _).size _)) hc1 (by omega) ((by first | exact HRT (w7.alloc (.cells #[.int .i64 0, .slice none 0 0, .slice none 0 0, .int .u64 0] 44)) | simpa using HRT (w7.alloc (.cells #[.int .i64 0, .slice none 0 0, .slice none 0 0, .int .u64 0] 44)))) (by decide) (pub22_two xa xb) (by omega)).mono ?_); rw [HT.out]; rintro e w8 ⟨ta, tn, tc, ba, bn, bc, rfl, hE, hna, hnb, hb8⟩; have hcq : Below w5.heap.size w5 ((w7.alloc (.cells #[.int .i64 0, .slice none 0 0, .slice none 0 0, .int .u64 0] 44)).alloc (.cells #[.int .i64 1, .int .u64 ya, .int .i64 0, .int .i64 1, .int .u64 yb, .int .i64 0] 48)) := (hc7.alloc hc7.size _).alloc (hc7.alloc hc7.size _).size _; have SS4 := HXD _ (keepT hcq hb8); have SA4 := HXD (w8.alloc (.cells #[.int .i64 0, .slice none 0 0, .slice none 0 0, .int .u64 0] 44)) ((keepT hcq hb8).alloc (keepT hcq hb8).size _); have hz := ((zed_new (w := w7) hc7.size).kept ((Below.refl _ _).alloc (Nat.le_refl _) (.cells #[.int .i64 1, .int .u64 ya, .int .i64 0, .int .i64 1, .int .u64 yb, .int .i64 0] 48))); have FE := boxed_early (t := t) (w5 := w5) ta tn tc ba bn bc hE hna hnb hcq hb8 hz; have SE4 := HXD _ FE.below; obtain ⟨⟨k0, k1, k2, k3⟩, l0, l1, l2, l3⟩ := (hz.kept hb8).1.cells; unfold evv; clear hb8)
            | ((with_reducible refine (implSealMsg_any a1 n1 c1 xs _ 2 2 [pubX xa, pubX xb] eph ((w7.alloc (.cells #[.int .i64 1, .int .u64 ya, .int .i64 0, .int .i64 1, .int .u64 yb, .int .i64 0] 48)).alloc (.cells #[.int .i64 0, .slice none 0 0, .slice none 0 0, .int .u64 0] 44)) (HXC.out _ ((hc7.alloc hc7.size _).alloc (hc7.alloc hc7.size _).size _)) hc1 (by omega) (((HRT w7).kept ((Below.refl _ _).alloc (Nat.le_refl _) _))) (by decide) (pub22_two xa xb) (by omega)).mono ?_); rw [HT.out]; rintro e w8 ⟨ta, tn, tc, ba, bn, bc, rfl, hE, hna, hnb, hb8⟩; have hcq : Below w5.heap.size w5 ((w7.alloc (.cells #[.int .i64 1, .int .u64 ya, .int .i64 0, .int .i64 1, .int .u64 yb, .int .i64 0] 48)).alloc (.cells #[.int .i64 0, .slice none 0 0, .slice none 0 0, .int .u64 0] 44)) := (hc7.alloc hc7.size _).alloc (hc7.alloc hc7.size _).size _; have SS4 := HXD _ (keepT hcq hb8); have SA4 := HXD (w8.alloc (.cells #[.int .i64 0, .slice none 0 0, .slice none 0 0, .int .u64 0] 44)) ((keepT hcq hb8).alloc (keepT hcq hb8).size _); have hz : Zed w5 ((w7.alloc (.cells #[.int .i64 1, .int .u64 ya, .int .i64 0, .int .i64 1, .int .u64 yb, .int .i64 0] 48)).alloc (.cells #[.int .i64 0, .slice none 0 0, .slice none 0 0, .int .u64 0] 44)) (w7.heap.size + 1) := (by have e : (w7.alloc (.cells #[.int .i64 1, .int .u64 ya, .int .i64 0, .int .i64 1, .int .u64 yb, .int .i64 0] 48)).heap.size = w7.heap.size + 1 := (by simp); rw [← e]; exact zed_new (hc7.alloc hc7.size (.cells #[.int .i64 1, .int .u64 ya, .int .i64 0, .int .i64 1, .int .u64 yb, .int .i64 0] 48)).size); have FE := boxed_early (t := t) (w5 := w5) ta tn tc ba bn bc hE hna hnb hcq hb8 hz; have SE4 := HXD _ FE.below; obtain ⟨⟨k0, k1, k2, k3⟩, l0, l1, l2, l3⟩ := (hz.kept hb8).1.cells; unfold evv; clear hb8)))
    all_goals (
      go_wp2_with fail
      go_meet
      first
      | exact FL
      | exact FE)
  case rest =>
    obtain ⟨g, B, X, ta, tn, tc, ba, bn, bc, rfl, rfl, hBV, hEV, hgs, hna, hnb, hbx⟩ := hcut
    have HBVwc : Hid (BlkV wc g (.int .i64 t.eph) (.slice ta tn tc) (.slice ba bn bc) (.int .u64 t.tg)) := hBV
    have HEVwc : Hid (EvW B X wc ta tn tc t.ws ba bn bc t.bs) := hEV
    have HSawc : Hid (BlkS wc G1 xa) := HS5.out.kept hbx
    have HSbwc : Hid (BlkS wc G2 xb) := HT5.out.kept hbx
    have Kwc : Below w1.heap.size w1 wc := keepT K5 hbx
    have HGS : Hid (w5.heap.size ≤ g ∧ w5.heap.size ≤ B ∧ (g < B ∨ X ≤ g)) := hgs
    have hG1 := HS5.out.lt
    have hG2 := HT5.out.lt
    have hsx := hbx.size
    have hs15 := K5.size
    clear hBV hEV HS5 HT5 HXD HXC hbx hgs HRT HPA
    by_cases hP : n1 ≤ 4000 ∧ secP eph
    · have hF := sealF xs eph u v hu30 hv30 HX1.out.byte (by rw [HX1.out.len]; exact hP.1) hP.2 xa xb HXA.out HXB.out
      rw [HT.out] at hF
      obtain ⟨t1, ht1⟩ : ∃ t1, t1 = sealR xs [pubX xb] eph := ⟨_, rfl⟩
      rw [← ht1] at hF
      have HT1 : Hid (sealR xs [pubX xb] eph = t1) := ht1.symm
      have HF : Hid (SealF xs xa xb t t1) := hF
      obtain rfl : n1 = bn := by rw [← HEVwc.out.br.len, HF.out.ln]; exact HX1.out.len.symm
      obtain rfl : tn = 2 := by rw [← HEVwc.out.wr.len]; exact HF.out.wl
      rw [hF.ok]
      clear hF ht1
      have hn4 : (n1 : Int) ≤ 4000 := by omega
      have hn4n : n1 ≤ 4000 := hP.1
      have HPE : Hid (1 ≤ eph ∧ eph ≤ 500000002) := hP.2
      clear hP
      go_wp2_with fail
      refine (in_t eph 1 500000002 _ HPE.out).mono ?_
      rintro e w6 ⟨rfl, hw⟩
      have hw2 := hw.symm
      subst hw2
      obtain ⟨⟨x0, x1, x2, x3⟩, _⟩ := HBVwc.out.cells
      obtain ⟨y0, y1, y2, y3⟩ := HSawc.out.cells
      obtain ⟨z0, z1, z2, z3⟩ := HSbwc.out.cells
      go_wp2_with fail
      refine (implOpenMsg_any t.eph ta 2 tc ba n1 bc t.tg t.ws t.bs xa _ HEVwc.out.wr HEVwc.out.br hnb (by decide) (by omega)).mono ?_
      rw [HF.out.oa]
      rintro e w6 ⟨a6, n6, c6, rfl, ho, hb⟩
      clear x0 x1 x2 x3 y0 y1 y2 y3 z0 z1 z2 z3
      obtain rfl : n1 = n6 := by rw [← ho.length]; exact HX1.out.len.symm
      have HO6 : Hid (Row w6 a6 n1 xs) := ho.toRow
      have HBVw6 : Hid (BlkV w6 g (.int .i64 t.eph) (.slice ta 2 tc) (.slice ba n1 bc) (.int .u64 t.tg)) := HBVwc.out.kept hb
      have HEVw6 : Hid (EvW B X w6 ta 2 tc t.ws ba n1 bc t.bs) := HEVwc.out.kept hb
      have HSaw6 : Hid (BlkS w6 G1 xa) := HSawc.out.kept hb
      have HSbw6 : Hid (BlkS w6 G2 xb) := HSbwc.out.kept hb
      have Kw6 : Below w1.heap.size w1 w6 := keepT Kwc hb
      clear HBVwc HEVwc HSawc HSbwc
      clear ho
      obtain ⟨⟨x0, x1, x2, x3⟩, _⟩ := HBVw6.out.cells
      obtain ⟨y0, y1, y2, y3⟩ := HSaw6.out.cells
      obtain ⟨z0, z1, z2, z3⟩ := HSbw6.out.cells
      go_wp2_with fail
      refine (implOpenMsg_any t.eph ta 2 tc ba n1 bc t.tg t.ws t.bs xb _ HEVw6.out.wr HEVw6.out.br hnb (by decide) (by omega)).mono ?_
      rw [HF.out.ob]
      rintro e w7 ⟨a7, n7, c7, rfl, ho, hb⟩
      clear x0 x1 x2 x3 y0 y1 y2 y3 z0 z1 z2 z3
      obtain rfl : n1 = n7 := by rw [← ho.length]; exact HX1.out.len.symm
      have HO7 : Hid (Row w7 a7 n1 xs) := ho.toRow
      have HBVw7 : Hid (BlkV w7 g (.int .i64 t.eph) (.slice ta 2 tc) (.slice ba n1 bc) (.int .u64 t.tg)) := HBVw6.out.kept hb
      have HEVw7 : Hid (EvW B X w7 ta 2 tc t.ws ba n1 bc t.bs) := HEVw6.out.kept hb
      have HSaw7 : Hid (BlkS w7 G1 xa) := HSaw6.out.kept hb
      have HSbw7 : Hid (BlkS w7 G2 xb) := HSbw6.out.kept hb
      have Kw7 : Below w1.heap.size w1 w7 := keepT Kw6 hb
      clear HBVw6 HEVw6 HSaw6 HSbw6
      have HO67 : Hid (Row w7 a6 n1 xs) := HO6.out.kept hb
      clear ho HO6
      obtain ⟨⟨x0, x1, x2, x3⟩, _⟩ := HBVw7.out.cells
      obtain ⟨y0, y1, y2, y3⟩ := HSaw7.out.cells
      obtain ⟨z0, z1, z2, z3⟩ := HSbw7.out.cells
      go_wp2_with fail
      refine (implOpenMsg_any t.eph ta 2 tc ba n1 bc t.tg t.ws t.bs 5 _ HEVw7.out.wr HEVw7.out.br hnb (by decide) (by omega)).mono ?_
      rw [HF.out.o5]
      rintro e w8 ⟨a8, n8, c8, rfl, ho, hb⟩
      clear x0 x1 x2 x3 y0 y1 y2 y3 z0 z1 z2 z3
      obtain rfl : n8 = 0 := by rw [← ho.length]; rfl
      have HBVw8 : Hid (BlkV w8 g (.int .i64 t.eph) (.slice ta 2 tc) (.slice ba n1 bc) (.int .u64 t.tg)) := HBVw7.out.kept hb
      have HEVw8 : Hid (EvW B X w8 ta 2 tc t.ws ba n1 bc t.bs) := HEVw7.out.kept hb
      have HSaw8 : Hid (BlkS w8 G1 xa) := HSaw7.out.kept hb
      have HSbw8 : Hid (BlkS w8 G2 xb) := HSbw7.out.kept hb
      have Kw8 : Below w1.heap.size w1 w8 := keepT Kw7 hb
      clear HBVw7 HEVw7 HSaw7 HSbw7
      have HO68 : Hid (Row w8 a6 n1 xs) := HO67.out.kept hb
      have HO78 : Hid (Row w8 a7 n1 xs) := HO7.out.kept hb
      clear ho HO67 HO7
      have zn : ((n1 : Int) != (n1 : Int)) = false := by simp
      obtain ⟨⟨x0, x1, x2, x3⟩, _⟩ := HBVw8.out.cells
      obtain ⟨y0, y1, y2, y3⟩ := HSaw8.out.cells
      obtain ⟨z0, z1, z2, z3⟩ := HSbw8.out.cells
      go_wp2_with fail
      refine (sameBytes_any a6 a1 n1 n1 c6 c1 xs xs _ HO68.out (HX1.out.kept Kw8)).mono ?_
      rintro e w9 ⟨rfl, hw⟩
      subst hw
      rw [decide_eq_true (rfl : xs = xs)]
      go_wp2_with fail
      refine (sameBytes_any a7 a1 n1 n1 c7 c1 xs xs _ HO78.out (HX1.out.kept Kw8)).mono ?_
      rintro e w9 ⟨rfl, hw⟩
      subst hw
      rw [decide_eq_true (rfl : xs = xs)]
      unfold scv at HPB
      go_wp2_with fail
      refine (HPB _).mono ?_
      rintro e w9 ⟨rfl, hb9⟩
      clear x0 x1 x2 x3 y0 y1 y2 y3 z0 z1 z2 z3
      have HBVw9 : Hid (BlkV w9 g (.int .i64 t.eph) (.slice ta 2 tc) (.slice ba n1 bc) (.int .u64 t.tg)) := HBVw8.out.kept hb9
      have HEVw9 : Hid (EvW B X w9 ta 2 tc t.ws ba n1 bc t.bs) := HEVw8.out.kept hb9
      have HSaw9 : Hid (BlkS w9 G1 xa) := HSaw8.out.kept hb9
      have HSbw9 : Hid (BlkS w9 G2 xb) := HSbw8.out.kept hb9
      have Kw9 : Below w1.heap.size w1 w9 := keepT Kw8 hb9
      clear HBVw8 HEVw8 HSaw8 HSbw8
      obtain ⟨w10, hw10⟩ : ∃ w10, w10 = w9.alloc (.cells #[.int .i64 1, .int .u64 yb, .int .i64 0] 48) := ⟨_, rfl⟩
      have hb10 : Below w9.heap.size w9 w10 := by rw [hw10]; exact (Below.refl _ _).alloc (Nat.le_refl _) _
      have HP10 : Hid (RowPu w10 (some ⟨w9.heap.size, 0, none⟩) 1 [pubX xb]) := by rw [hw10]; exact HR1 w9
      have HW10 : Hid (w10 = w9.alloc (.cells #[.int .i64 1, .int .u64 yb, .int .i64 0] 48)) := hw10
      clear hw10
      have HBVw10 : Hid (BlkV w10 g (.int .i64 t.eph) (.slice ta 2 tc) (.slice ba n1 bc) (.int .u64 t.tg)) := HBVw9.out.kept hb10
      have HEVw10 : Hid (EvW B X w10 ta 2 tc t.ws ba n1 bc t.bs) := HEVw9.out.kept hb10
      have HSaw10 : Hid (BlkS w10 G1 xa) := HSaw9.out.kept hb10
      have HSbw10 : Hid (BlkS w10 G2 xb) := HSbw9.out.kept hb10
      have Kw10 : Below w1.heap.size w1 w10 := keepT Kw9 hb10
      clear HBVw9 HEVw9 HSaw9 HSbw9
      obtain ⟨⟨x0, x1, x2, x3⟩, _⟩ := HBVw10.out.cells
      obtain ⟨y0, y1, y2, y3⟩ := HSaw10.out.cells
      obtain ⟨z0, z1, z2, z3⟩ := HSbw10.out.cells
      go_wp2_with fail
      rw [← HW10.out]
      refine (implSealMsg_any a1 n1 c1 xs (some ⟨w9.heap.size, 0, none⟩) 1 1 [pubX xb] eph _ (HX1.out.kept Kw10) hc1 (by omega) HP10.out (by decide) (pub22_one xb) (by omega)).mono ?_
      rw [HT1.out]
      rintro e w11 ⟨ta1, tn1, tc1, ba1, bn1, bc1, rfl, hE1, _, _, hb11⟩
      obtain rfl : tn1 = 1 := by rw [← hE1.wr.len]; exact HF.out.wl1
      rw [HF.out.ok1]
      clear x0 x1 x2 x3 y0 y1 y2 y3 z0 z1 z2 z3
      have HBVw11 : Hid (BlkV w11 g (.int .i64 t.eph) (.slice ta 2 tc) (.slice ba n1 bc) (.int .u64 t.tg)) := HBVw10.out.kept hb11
      have HEVw11 : Hid (EvW B X w11 ta 2 tc t.ws ba n1 bc t.bs) := HEVw10.out.kept hb11
      have HSaw11 : Hid (BlkS w11 G1 xa) := HSaw10.out.kept hb11
      have HSbw11 : Hid (BlkS w11 G2 xb) := HSbw10.out.kept hb11
      have Kw11 : Below w1.heap.size w1 w11 := keepT Kw10 hb11
      clear HBVw10 HEVw10 HSaw10 HSbw10
      obtain ⟨w12, hw12⟩ : ∃ w12, w12 = w11.alloc (.cells #[.int .i64 t1.eph, .slice ta1 1 tc1, .slice ba1 bn1 bc1, .int .u64 t1.tg] 44) := ⟨_, rfl⟩
      have hb12 : Below w11.heap.size w11 w12 := by rw [hw12]; exact (Below.refl _ _).alloc (Nat.le_refl _) _
      have HV12 : Hid (BlkV w12 w11.heap.size (.int .i64 t1.eph) (.slice ta1 1 tc1) (.slice ba1 bn1 bc1) (.int .u64 t1.tg)) := by rw [hw12]; exact heap_alloc_new w11 _
      have HWR12 : Hid (RowWr w12 ta1 1 t1.ws) := hE1.wr.kept hb12
      have HW12 : Hid (w12 = w11.alloc (.cells #[.int .i64 t1.eph, .slice ta1 1 tc1, .slice ba1 bn1 bc1, .int .u64 t1.tg] 44)) := hw12
      clear hw12 hE1
      have HBVw12 : Hid (BlkV w12 g (.int .i64 t.eph) (.slice ta 2 tc) (.slice ba n1 bc) (.int .u64 t.tg)) := HBVw11.out.kept hb12
      have HEVw12 : Hid (EvW B X w12 ta 2 tc t.ws ba n1 bc t.bs) := HEVw11.out.kept hb12
      have HSaw12 : Hid (BlkS w12 G1 xa) := HSaw11.out.kept hb12
      have HSbw12 : Hid (BlkS w12 G2 xb) := HSbw11.out.kept hb12
      have Kw12 : Below w1.heap.size w1 w12 := keepT Kw11 hb12
      clear HBVw11 HEVw11 HSaw11 HSbw11
      unfold evv
      go_upto_region 17 with fail
      rw [← HW12.out]
      clear HW12
      obtain ⟨⟨x0, x1, x2, x3⟩, _⟩ := HBVw12.out.cells
      obtain ⟨⟨p0, p1, p2, p3⟩, _⟩ := HV12.out.cells
      rw [HF.out.tg] at p3
      obtain ⟨q, hq⟩ : ∃ q, q = t.ws.getD 1 (0, 0) := ⟨_, rfl⟩
      obtain ⟨b1, o1, hta1, _, r0, r1⟩ := HWR12.out.get 0 (by decide)
      obtain ⟨b2, o2, hta, _, r2, r3⟩ := HEVw12.out.wr.get 1 (by decide)
      rw [HF.out.w01, ← hq] at r0 r1
      rw [← hq] at r2 r3
      rw [hta1] at p1
      rw [hta] at x1
      have r0' : w12.cell? ⟨b1, o1, none⟩ = some (.int .u64 q.1) := r0
      have r1' : w12.cell? ⟨b1, o1 + 1, none⟩ = some (.int .u64 q.2) := r1
      have r2' : w12.cell? ⟨b2, o2 + 2, none⟩ = some (.int .u64 q.1) := r2
      have r3' : w12.cell? ⟨b2, o2 + 3, none⟩ = some (.int .u64 q.2) := r3
      have r4' : w12.cell? ⟨b2, o2 + 2 + 1, none⟩ = some (.int .u64 q.2) := r3
      have zt : (t.tg != t.tg) = false := by simp
      have zt2 : (t.tg == t.tg) = true := by simp
      have zq1 : (q.1 == q.1) = true := by simp
      have zq2 : (q.2 == q.2) = true := by simp
      clear hq r0 r1 r2 r3
      go_quiet (fail)
      have hd13 : Below w12.heap.size w12 (w12.drewN nq) := by first | exact below_drewN (Below.refl _ _) _ | exact (Below.refl _ _).drewN _ | exact below_dq (Below.refl _ _) _
      obtain ⟨w13, hw13⟩ : ∃ w13, w13 = w12.drewN nq := ⟨_, rfl⟩
      rw [← hw13] at hd13 ⊢
      clear hw13 x0 x1 x2 x3 p0 p1 p2 p3 r0' r1' r2' r3' r4' zt zt2 zq1 zq2 HV12 HWR12 HPB HR1 hta hta1
      have HBVw13 : Hid (BlkV w13 g (.int .i64 t.eph) (.slice ta 2 tc) (.slice ba n1 bc) (.int .u64 t.tg)) := HBVw12.out.kept hd13
      have HEVw13 : Hid (EvW B X w13 ta 2 tc t.ws ba n1 bc t.bs) := HEVw12.out.kept hd13
      have HSaw13 : Hid (BlkS w13 G1 xa) := HSaw12.out.kept hd13
      have HSbw13 : Hid (BlkS w13 G2 xb) := HSbw12.out.kept hd13
      have Kw13 : Below w1.heap.size w1 w13 := keepT Kw12 hd13
      clear HBVw12 HEVw12 HSaw12 HSbw12
      have B13 : Below w.heap.size w w13 := keepT hb1 Kw13
      obtain ⟨⟨x0, x1, x2, x3⟩, _⟩ := HBVw13.out.cells
      by_cases hz : n1 = 0
      · have hzi : ((n1 : Int) == 0) = true := by simpa using hz
        clear hz
        go_wp2_with fail
        refine (lives_any _).mono ?_
        rintro e w14 ⟨rfl, hb14⟩
        go_wp2
        go_ret
        exact ⟨rfl, keepT B13 hb14⟩
      · have hzi : ((n1 : Int) == 0) = false := by simpa using hz
        have hn0 : 0 < n1 := by omega
        clear hz
        obtain ⟨v2, hv2⟩ : ∃ v2, v2 = byN ms 2 200 := ⟨_, rfl⟩
        have hv2b := byN_bd ms 2 200 (by decide)
        rw [← hv2] at hv2b
        obtain ⟨hv20, hv21⟩ := hv2b
        obtain ⟨u2, rfl⟩ := Int.eq_ofNat_of_zero_le hv20
        have HV2 : Hid ((u2 : Int) = byN ms 2 200) := hv2
        clear hv2 hv20
        have hprod : u2 * n1 ≤ 800000 := Nat.le_trans (Nat.mul_le_mul (show u2 ≤ 200 by omega) hn4n) (by decide)
        obtain ⟨P, hP⟩ : ∃ P, P = u2 * n1 := ⟨_, rfl⟩
        have hPi : (u2 : Int) * (n1 : Int) = (P : Int) := by rw [hP]; exact (Int.natCast_mul _ _).symm
        have HPL : Hid (P / 200 < n1) := by
          show _ < _
          rw [hP, Nat.div_lt_iff_lt_mul (by decide), Nat.mul_comm n1 200]
          exact Nat.mul_lt_mul_of_pos_right (show u2 < 200 by omega) hn0
        rw [← hP] at hprod
        clear hP
        go_wp2_with fail
        refine (byteAt_v b m d ms 2 200 _ (HB.out.kept B13) (by decide) (by decide)).mono ?_
        rintro e w9 ⟨rfl, hw⟩
        subst hw
        rw [← HV2.out]
        have HPI : Hid ((P : Int) / 200 = ((P / 200 : Nat) : Int)) := by show _ = _; omega
        obtain ⟨i, hi⟩ : ∃ i, i = P / 200 := ⟨_, rfl⟩
        rw [← hi] at HPI HPL
        have hil : i < n1 := HPL.out
        have hili : (i : Int) < (n1 : Int) := by omega
        clear hi
        obtain ⟨v3, hv3⟩ : ∃ v3, v3 = byN ms 3 255 := ⟨_, rfl⟩
        have hv3b := byN_bd ms 3 255 (by decide)
        rw [← hv3] at hv3b
        obtain ⟨hv30, hv31⟩ := hv3b
        obtain ⟨u3, rfl⟩ := Int.eq_ofNat_of_zero_le hv30
        have HV3 : Hid (byN ms 3 255 = (u3 : Int)) := hv3.symm
        clear hv3 hv30
        have hO := HEVw13.out.bo hn0
        obtain ⟨gp, hgp⟩ := hO.shape hn0
        have HIG := HEVw13.out.sep
        subst hgp
        obtain ⟨hgB, hgs⟩ := hO.base
        have hd8 : Below w13.heap.size w13 w13.drew := (Below.refl _ _).drew
        have hod := hO.kept hd8
        obtain ⟨b', off', e', hlb', hc'⟩ := hod.toRow.get i hil
        simp only [Option.some.injEq, Addr.mk.injEq, and_true] at e'
        obtain ⟨rfl, rfl⟩ := e'
        rw [Nat.zero_add] at hc'
        have hfr : w13.drew.frozen? ⟨gp, i, none⟩ = false := hod.row.frozenAt i
        have hyb := hO.byte i
        obtain ⟨y, hy⟩ : ∃ y, y = t.bs.getD i 0 := ⟨_, rfl⟩
        rw [← hy] at hc' hyb
        have hvb : (0 : Int) ≤ 1 + (u3 : Int) ∧ 1 + (u3 : Int) ≤ 255 := ⟨by omega, by omega⟩
        have hvc : (1 : Int) ≤ 1 + (u3 : Int) ∧ 1 + (u3 : Int) ≤ 255 := ⟨by omega, by omega⟩
        have hw1 : IntKind.i64.wrap (1 + (u3 : Int)) = 1 + (u3 : Int) := by rw [IntKind.wrap_i64]; omega
        have hw8 : IntKind.u8.wrap (1 + (u3 : Int)) = 1 + (u3 : Int) := by first | (rw [IntKind.wrap_u8]; omega) | (show (1 + (u3 : Int)) % 256 = _; omega)
        obtain ⟨z, hz⟩ : ∃ z, z = bits .xor .u8 y (1 + (u3 : Int)) := ⟨_, rfl⟩
        have hzb : 0 ≤ z ∧ z ≤ 255 := by rw [hz]; exact xor8_range y (1 + (u3 : Int)) hyb hvb
        have hzn : y ≠ z := by rw [hz]; exact xor8_other y (1 + (u3 : Int)) hyb hvc
        have HU2 : Hid (openR t.eph t.ws (t.bs.set i z) t.tg xa = ([], 2)) := HF.out.tu i z hO.byte (by rw [hO.length]; exact hil) hzb (by rw [← hy]; exact hzn)
        have HZ : Hid (bits .xor .u8 y (1 + (u3 : Int)) = z) := hz.symm
        have hs1 : Own B (w13.setCell ⟨gp, i, none⟩ (.int .u8 z)) (some ⟨gp, 0, none⟩) n1 bc (t.bs.set i z) := hO.store i z hzb
        have HN : Hid (Own B (w13.setCell ⟨gp, i, none⟩ (.int .u8 z)).drew (some ⟨gp, 0, none⟩) n1 bc (t.bs.set i z)) := hs1.kept (Below.refl _ _).drew
        have HTO : Hid (Touch gp (gp + 1) w13 (w13.setCell ⟨gp, i, none⟩ (.int .u8 z)).drew) := ((Touch.same gp (gp + 1) w13).setCell (p := ⟨gp, i, none⟩) (Nat.le_refl _) (Nat.lt_succ_self _) _).drewN 1
        have xd : w13.drew.cell? ⟨g, 2, none⟩ = some (.slice (some ⟨gp, 0, none⟩) n1 bc) := x2
        have HMR : Hid (Row w13.drew b m ms) := (HB.out.kept B13).kept hd8
        have HB13 : Hid (Below w.heap.size w w13) := B13
        clear hs1 hod hy hz hzn hO hyb hd8 HPL B13 hvb hvc
        go_upto_region 22 with fail
        rw [HPI.out]
        go_cut [20] (fun v wx => v = .int .i64 (i : Int) ∧ (w13.setCell ⟨gp, i, none⟩ (.int .u8 z)).drew = wx)
        case first =>
          go_region_with (go_at_call 12; refine (byteAt_v b m d ms 3 255 _ HMR.out (by decide) (by decide)).mono ?_; rintro e w9 ⟨rfl, hw⟩; subst hw; rw [HV3.out])
          all_goals
            go_wp2
            go_meet
            exact ⟨rfl, by rw [HZ.out]⟩
        case rest =>
          obtain ⟨rfl, hwx⟩ := hcut
          obtain ⟨w9, hw9⟩ : ∃ w9, w9 = (w13.setCell ⟨gp, i, none⟩ (.int .u8 z)).drew := ⟨_, rfl⟩
          rw [← hw9] at HN HTO hwx
          subst hwx
          clear hw9 hc' hfr x0 x1 x2 x3 xd
          have hgE : gp < X := by
            obtain ⟨M, h1, h2, h3⟩ := HIG
            rcases h3 with ⟨_, h4⟩ | ⟨h4, _⟩
            · exact (h4 gp 0 rfl hn0).2
            · have := (h4 gp 0 rfl hn0).2; omega
          have HX9 : Hid (BlkV w9 g (.int .i64 t.eph) (.slice ta 2 tc) (.slice (some ⟨gp, 0, none⟩) n1 bc) (.int .u64 t.tg)) := HBVw13.out.touch HTO.out (by have h := HGS.out; omega)
          have HA9 : Hid (BlkS w9 G1 xa) := HSaw13.out.touch HTO.out (by have h := HGS.out; omega)
          have HSR : Hid (RowWr w9 ta 2 t.ws) := by
            obtain ⟨M, h1, h2, h3⟩ := HIG
            rcases h3 with ⟨h5, h4⟩ | ⟨h4, h5⟩
            · exact HEVw13.out.wr.touch h5 (.inl (h4 gp 0 rfl hn0).1) HTO.out
            · exact HEVw13.out.wr.touch h5 (.inr (h4 gp 0 rfl hn0).2) HTO.out
          have B9 : Below w.heap.size w w9 := HB13.out.trans (HTO.out.below (by have h := HGS.out; omega) HB13.out.size)
          obtain ⟨⟨x0, x1, x2, x3⟩, _⟩ := HX9.out.cells
          obtain ⟨y0, y1, y2, y3⟩ := HA9.out.cells
          go_wp2_with fail
          refine (implOpenMsg_any t.eph ta 2 tc (some ⟨gp, 0, none⟩) n1 bc t.tg t.ws (t.bs.set i z) xa _ HSR.out HN.out.toRow hnb (by decide) (by omega)).mono ?_
          rw [HU2.out]
          rintro e w20 ⟨a20, n20, c20, rfl, ho20, hb20⟩
          obtain rfl : n20 = 0 := by rw [← ho20.length]; rfl
          have B20 := keepT B9 hb20
          go_wp2_with fail
          refine (lives_any _).mono ?_
          rintro e w21 ⟨rfl, hb21⟩
          go_wp2
          go_ret
          exact ⟨rfl, keepT B20 hb21⟩
    · have hV : t = ⟨0, [], [], 0, false⟩ := by rw [← HT.out]; exact sealR_not _ _ _ (by rw [HX1.out.len]; exact hP)
      have HV : Hid (t = ⟨0, [], [], 0, false⟩) := hV
      obtain rfl : bn = 0 := by rw [← HEVwc.out.br.len, hV]; rfl
      obtain rfl : tn = 0 := by rw [← HEVwc.out.wr.len, hV]; rfl
      have hok : t.ok = false := by rw [hV]
      rw [hok]
      clear hV hok
      obtain ⟨⟨x0, x1, x2, x3⟩, _⟩ := HBVwc.out.cells
      obtain ⟨y0, y1, y2, y3⟩ := HSawc.out.cells
      obtain ⟨z0, z1, z2, z3⟩ := HSbwc.out.cells
      by_cases hn4 : n1 ≤ 4000
      · have hn4i : (n1 : Int) ≤ 4000 := by omega
        have hne : ¬ (1 ≤ eph ∧ eph ≤ 500000002) := fun h => hP ⟨hn4, h⟩
        clear hP
        go_wp2_with fail
        refine (in_f eph 1 500000002 _ hne).mono ?_
        rintro e w6 ⟨rfl, hw⟩
        have hw2 := hw.symm
        subst hw2
        go_wp2_with fail
        refine (lives_any _).mono ?_
        rintro e w7 ⟨rfl, hb7⟩
        clear x0 x1 x2 x3
        obtain ⟨⟨x0, x1, x2, x3⟩, _⟩ := (HBVwc.out.kept hb7).cells
        go_wp2
        go_ret
        exact ⟨rfl, keepT (keepT hb1 Kwc) hb7⟩
      · have hn4i : ¬ (n1 : Int) ≤ 4000 := by omega
        clear hP
        go_wp2_with fail
        refine (lives_any _).mono ?_
        rintro e w7 ⟨rfl, hb7⟩
        clear x0 x1 x2 x3
        obtain ⟨⟨x0, x1, x2, x3⟩, _⟩ := (HBVwc.out.kept hb7).cells
        go_wp2
        go_ret
        exact ⟨rfl, keepT (keepT hb1 Kwc) hb7⟩

end Go.Proofs.Ytcgmcdelgfemkaa
