import Derived.Test.YtmggaegjfkpjoaaSA6
import Derived.Test.YtmggaegjfkpjoaaTouch
namespace Go.Proofs.Ytmggaegjfkpjoaa
open Go.RowKit

theorem saV_len (sc x h n : Int) (ms : List Int) : (saV sc x h n ms).1.length ≤ 1000 := by
  unfold saV
  split
  · rename_i hk
    split
    · rename_i h1
      have hg : grpP x h n := hk.elim (fun a => a.2) (fun a => absurd a.1 (by omega))
      have hs : secP x := hg.1
      show (sgG x ms).length ≤ 1000
      unfold sgG
      rw [List.length_append]
      have e1 : (signR x ms).1.1 ≤ 9223372036854775807 := by unfold signR; rw [if_pos hs]; exact Int.le_trans (chalN_bd _ _ _).2 (by decide)
      have e2 : (signR x ms).1.2 ≤ 9223372036854775807 := by unfold signR; rw [if_pos hs]; show (nonN x ms + sigE x ms * x) % 500000003 ≤ _; omega
      have := putI_len _ e1
      have := putI_len _ e2
      omega
    · rename_i h1
      have hkk : kP h n := hk.elim (fun a => absurd a.1 h1) (fun a => a.2)
      show (saT x h n ms).1.length ≤ 1000
      unfold saT
      split
      · simp
      · show (sgT x h n ms).length ≤ 1000
        unfold sgT
        rw [List.length_append, flatL_len, List.length_append, endSs_len, pathN_len]
        have hb : n ≤ 9223372036854775807 := by
          have a1 := hkk.2.2
          have a2 : 2 ^ h.toNat ≤ 2 ^ 5 := Nat.pow_le_pow_right (by decide) (by have := hkk.1; omega)
          omega
        have := putI_len n hb
        have := hkk.1
        omega
  · simp
/-- The boxes of the law: the secret that came in, the one that the specification told, the one that the program told. -/
structure Sxs (K sB gB : Nat) (sc x h n : Int) (t : Sc4) (W : World) : Prop where
  k : W.heap[K]? = some (.cells #[.int .i64 sc, .int .u64 x, .int .i64 h, .int .i64 n] 46)
  s : W.heap[sB]? = some (.cells #[.int .i64 t.1, .int .u64 t.2.1, .int .i64 t.2.2.1, .int .i64 t.2.2.2] 47)
  g : W.heap[gB]? = some (.cells #[.int .i64 t.1, .int .u64 t.2.1, .int .i64 t.2.2.1, .int .i64 t.2.2.2] 47)
theorem Sxs.touch {K sB gB : Nat} {sc x h n : Int} {t : Sc4} {W W' : World} {lo hi : Nat} (b : Sxs K sB gB sc x h n t W) (ht : Touch lo hi W W') (h1 : K < lo ∨ hi ≤ K) (h2 : sB < lo ∨ hi ≤ sB) (h3 : gB < lo ∨ hi ≤ gB) : Sxs K sB gB sc x h n t W' :=
  ⟨(ht.block _ (Array.getElem?_eq_some_iff.1 b.k).1 h1).trans b.k, (ht.block _ (Array.getElem?_eq_some_iff.1 b.s).1 h2).trans b.s, (ht.block _ (Array.getElem?_eq_some_iff.1 b.g).1 h3).trans b.g⟩
theorem Sxs.kept {K sB gB : Nat} {sc x h n : Int} {t : Sc4} {W W' : World} (b : Sxs K sB gB sc x h n t W) (hb : Below W.heap.size W W') : Sxs K sB gB sc x h n t W' :=
  ⟨(hb.block _ (Array.getElem?_eq_some_iff.1 b.k).1).trans b.k, (hb.block _ (Array.getElem?_eq_some_iff.1 b.s).1).trans b.s, (hb.block _ (Array.getElem?_eq_some_iff.1 b.g).1).trans b.g⟩
theorem touch_grownS {w w' : World} {r : Option Nat} {lo hi : Nat} (hg : w.grownBy w' r) (hr : ∀ k, r = some k → lo ≤ k ∧ k < hi) : Touch lo hi w w' :=
  ⟨hg.os, hg.tape, hg.output, hg.size, fun k hk ho => hg.block k hk (fun e => by have := hr k e.symm; omega)⟩
theorem own_touchS {w w' : World} {B lo hi : Nat} {a : Option Addr} {n cap : Nat} {bs : List Int} (h : Own B w a n cap bs) (ht : Touch lo hi w w') (hd : hi ≤ B) : Own B w' a n cap bs := by
  refine ⟨⟨h.row.1, ?_⟩, h.byte⟩
  rcases h.row.2 with hv | ⟨g, cap, cur, hv, hb, hg, rest⟩
  · exact .inl hv
  · exact .inr ⟨g, cap, cur, hv, hb, (ht.block g (Array.getElem?_eq_some_iff.1 hg).1 (by omega)).trans hg, rest⟩

set_option maxHeartbeats 1000000 in
theorem eqSecret_same (t : Sc4) (w : World) :
    Calls Try.prog 25 #[scw t, scw t] w fun e w' => e = .returned (.bool true) ∧ Below w.heap.size w w' := by
  obtain ⟨a, b, c, d⟩ := t
  unfold scw
  have z1 : (a != a) = false := by simp
  have z2 : (b != b) = false := by simp
  have z3 : (c != c) = false := by simp
  have z4 : (d != d) = false := by simp
  have hbb : Below w.heap.size w ((w.alloc (.cells #[.int .i64 a, .int .u64 b, .int .i64 c, .int .i64 d] 47)).alloc (.cells #[.int .i64 a, .int .u64 b, .int .i64 c, .int .i64 d] 47)) := two_below _ _ _
  go_enter Try.func25, Try.ntmps25
  go_wp2
  go_ret
  exact ⟨rfl, hbb⟩

set_option maxRecDepth 10000 in
set_option maxHeartbeats 16000000 in
theorem lawSignAny_walk (HSPEC : ∀ (seed h next : Int) (am : Option Addr) (n c : Nat) (bs : List Int) (w : World), U64 seed → Row w am n bs → n ≤ 1000000000000 → Calls Try.prog 8 #[tkv seed h next, .slice am n c] w fun e w' => ∃ v, e = .returned v ∧ SgR seed h next bs w.heap.size w' v ∧ Below w.heap.size w w')
    (sc x h n : Int) (a : Option Addr) (nn c : Nat) (ms : List Int) (w : World) (hx : U64 x) (hr : Row w a nn ms) (hmax : nn ≤ 9223372036854775807) :
    Calls Try.prog 5 #[scv sc x h n, .slice a nn c] w fun e w' => e = .returned (.bool true) ∧ Below w.heap.size w w' := by
  obtain ⟨w1, hw1⟩ : ∃ w1, w1 = w.alloc (.cells #[.int .i64 sc, .int .u64 x, .int .i64 h, .int .i64 n] 46) := ⟨_, rfl⟩
  have hb0 : Below w.heap.size w w1 := by rw [hw1]; exact (Below.refl _ _).alloc (Nat.le_refl _) _
  have hk1 : w1.heap[w.heap.size]? = some (.cells #[.int .i64 sc, .int .u64 x, .int .i64 h, .int .i64 n] 46) := by rw [hw1]; exact heap_alloc_new w _
  have hlw : w.heap.size < w1.heap.size := (Array.getElem?_eq_some_iff.1 hk1).1
  have HK1 : Hid (_ = _) := hk1
  have HW1 : Hid (_ = _) := hw1
  have HRM : Hid (∀ w', Below w1.heap.size w1 w' → Row w' a nn ms) := fun w' hw' => hr.kept (keepT hb0 hw')
  have HS : Hid (_) := HSPEC
  clear hw1 hr HSPEC hk1
  rw [scv]
  by_cases hbig : 1048576 < nn
  · go_enter Try.func5, Try.ntmps5
    go_upto_region 1 with fail
    rw [← HW1.out]
    clear HW1
    go_wp2
    go_ret
    exact ⟨rfl, hb0⟩
  have hn : nn ≤ 1048576 := by omega
  clear hmax
  have hml : 1048576 ≤ maxLen := by unfold maxLen; omega
  obtain ⟨L, hL⟩ : ∃ L, L = (saV sc x h n ms).1.length := ⟨_, rfl⟩
  obtain ⟨bs, hbs⟩ : ∃ bs, bs = (saV sc x h n ms).1 := ⟨_, rfl⟩
  obtain ⟨t, ht⟩ : ∃ t, t = (saV sc x h n ms).2.1 := ⟨_, rfl⟩
  obtain ⟨cd, hcd⟩ : ∃ cd, cd = (saV sc x h n ms).2.2 := ⟨_, rfl⟩
  have hL1 : L ≤ 1000 := by rw [hL]; exact saV_len sc x h n ms
  have HSP : Hid (∀ (am : Option Addr) (c : Nat) (w : World), Row w am nn ms → (am = none → c = 0) → Calls Try.prog 22 #[scv sc x h n, .slice am nn c] w fun e w' => ∃ a cap, e = .returned (.tuple #[.slice a L cap, scw t, .int .i64 cd]) ∧ Own w.heap.size w' a L cap bs ∧ Below w.heap.size w w') := by
    intro am c w' h1 h2
    have := specSignAny_walk HS.out sc x h n am nn c ms w' hx h1 hn h2
    rwa [← hL, ← hbs, ← ht, ← hcd] at this
  have HIM : Hid (∀ (am : Option Addr) (c : Nat) (w : World), Row w am nn ms → (am = none → c = 0) → Calls Try.prog 24 #[scv sc x h n, .slice am nn c] w fun e w' => ∃ a cap, e = .returned (.tuple #[.slice a L cap, scw t, .int .i64 cd]) ∧ Own w.heap.size w' a L cap bs ∧ Below w.heap.size w w') := by
    intro am c w' h1 h2
    have := implSignAny_any sc x h n am nn c ms w' hx h1 hn h2
    rwa [← hL, ← hbs, ← ht, ← hcd] at this
  clear hL hbs ht hcd HS
  have t0 : (cd != cd) = false := by simp
  obtain ⟨k0, k1, k2, k3⟩ := cells4 HK1.out
  go_enter Try.func5, Try.ntmps5
  go_upto_region 1 with fail
  rw [← HW1.out]
  clear HW1
  go_wp2_with fail
  refine (toSecret_any sc x h n _).mono ?_
  rintro e w2 ⟨rfl, hb2⟩
  clear k0 k1 k2 k3
  go_wp2_with fail
  refine (toByteS_any a nn c ms _ (HRM.out _ hb2) hn).mono ?_
  rintro e w3 ⟨a3, rfl, ho3, hb3⟩
  have hc3 := keepT hb2 hb3
  have HR3 : Hid (Row w3 a3 nn ms) := ho3.toRow
  have hn3 := ho3.nil
  clear ho3
  go_wp2_with fail
  refine (HSP.out a3 nn _ HR3.out hn3).mono ?_
  rintro e w4 ⟨aw, cw, rfl, how, hb4⟩
  rw [scw]
  have hc4 := keepT hc3 hb4
  obtain ⟨w5, hw5⟩ : ∃ w5, w5 = w4.alloc (.cells #[.int .i64 t.1, .int .u64 t.2.1, .int .i64 t.2.2.1, .int .i64 t.2.2.2] 47) := ⟨_, rfl⟩
  have hb5 : Below w4.heap.size w4 w5 := by rw [hw5]; exact (Below.refl _ _).alloc (Nat.le_refl _) _
  have HB5 : Hid (w5.heap[w4.heap.size]? = some (.cells #[.int .i64 t.1, .int .u64 t.2.1, .int .i64 t.2.2.1, .int .i64 t.2.2.2] 47)) := by show _ = _; rw [hw5]; exact heap_alloc_new w4 _
  have hl5 : w4.heap.size < w5.heap.size := (Array.getElem?_eq_some_iff.1 HB5.out).1
  have hc5 := keepT hc4 hb5
  have HOW5 : Hid (Own w3.heap.size w5 aw L cw bs) := how.kept hb5
  have HIN : Hid (In aw L w3.heap.size w5.heap.size) := HOW5.out.in_
  have HW5 : Hid (_ = _) := hw5
  clear hw5 how HR3
  go_upto_region 4 with fail
  rw [← HW5.out]
  clear HW5
  go_wp2_with fail
  refine (toByteS_any a nn c ms _ (HRM.out _ hc5) hn).mono ?_
  rintro e w6 ⟨ax, rfl, hox, hb6⟩
  have hc6 := keepT hc5 hb6
  have hs6 := hb6.size
  have HOX : Hid (Own w5.heap.size w6 ax nn nn ms) := hox
  have hnx := hox.nil
  have hxlt : ∀ k, (Value.slice ax nn nn).ownBlock = some k → w5.heap.size ≤ k ∧ k < w6.heap.size := fun k hk => ⟨(hox.row.lt k hk).1, (hox.row.lt k hk).2⟩
  have HXL : Hid (∀ k, (Value.slice ax nn nn).ownBlock = some k → w5.heap.size ≤ k ∧ k < w6.heap.size) := hxlt
  clear hox hxlt
  have hk6 := (hc6.block _ hlw).trans HK1.out
  obtain ⟨k0, k1, k2, k3⟩ := cells4 hk6
  clear hk6
  go_wp2_with fail
  refine (toSecret_any sc x h n _).mono ?_
  rintro e w7 ⟨rfl, hb7⟩
  have hc7 := keepT hc6 hb7
  have hs7 := hb7.size
  have HOX7 : Hid (Own w5.heap.size w7 ax nn nn ms) := HOX.out.kept hb7
  clear k0 k1 k2 k3 HOX
  go_wp2_with fail
  refine (HIM.out ax nn _ HOX7.out.toRow hnx).mono ?_
  rintro e w8 ⟨ag, cg, rfl, hog, hb8⟩
  rw [scw]
  have hc8 := keepT hc7 hb8
  obtain ⟨w9, hw9⟩ : ∃ w9, w9 = w8.alloc (.cells #[.int .i64 t.1, .int .u64 t.2.1, .int .i64 t.2.2.1, .int .i64 t.2.2.2] 47) := ⟨_, rfl⟩
  have hb9 : Below w8.heap.size w8 w9 := by rw [hw9]; exact (Below.refl _ _).alloc (Nat.le_refl _) _
  have hB9 : w9.heap[w8.heap.size]? = some (.cells #[.int .i64 t.1, .int .u64 t.2.1, .int .i64 t.2.2.1, .int .i64 t.2.2.2] 47) := by rw [hw9]; exact heap_alloc_new w8 _
  have hs8 := hb8.size
  have hs9 : w8.heap.size < w9.heap.size := (Array.getElem?_eq_some_iff.1 hB9).1
  have hc9 := keepT hc8 hb9
  have h59 : Below w5.heap.size w5 w9 := keepT hb6 (keepT hb7 (keepT hb8 hb9))
  have HX9 : Hid (Sxs w.heap.size w4.heap.size w8.heap.size sc x h n t w9) := ⟨(hc9.block _ hlw).trans HK1.out, (h59.block _ hl5).trans HB5.out, hB9⟩
  have HOG : Hid (Own w7.heap.size w9 ag L cg bs) := hog.kept hb9
  have hglt : ∀ k, (Value.slice ag L cg).ownBlock = some k → w7.heap.size ≤ k ∧ k < w8.heap.size := fun k hk => ⟨(hog.row.lt k hk).1, (hog.row.lt k hk).2⟩
  have HGL : Hid (∀ k, (Value.slice ag L cg).ownBlock = some k → w7.heap.size ≤ k ∧ k < w8.heap.size) := hglt
  have HOX9 : Hid (Own w5.heap.size w9 ax nn nn ms) := HOX7.out.kept (keepT hb8 hb9)
  have HOW9 : Hid (Row w9 aw L bs) := (HOW5.out.kept h59).toRow
  have HW9 : Hid (_ = _) := hw9
  clear hw9 hB9 hog hglt HOX7 HOW5 HB5
  go_upto_region 6 with fail
  rw [← HW9.out]
  clear HW9
  go_wp2_with fail
  refine (eqByteS_any ag aw L L cg cw bs bs _ HOG.out.toRow HOW9.out (by omega) (by omega)).mono ?_
  rintro e w10 ⟨rfl, hb10⟩
  rw [decide_eq_true (rfl : bs = bs)]
  have HX10 : Hid (_) := HX9.out.kept hb10
  obtain ⟨s0, s1, s2, s3⟩ := cells4 HX10.out.s
  obtain ⟨g0, g1, g2, g3⟩ := cells4 HX10.out.g
  clear HX9
  go_wp2_with fail
  refine (eqSecret_same t _).mono ?_
  rintro e w11 ⟨rfl, hb11⟩
  clear s0 s1 s2 s3 g0 g1 g2 g3
  have h9_11 := keepT hb10 hb11
  have hc11 := keepT hc9 h9_11
  go_wp2_with fail
  refine (toByteS_any a nn c ms _ (HRM.out _ hc11) hn).mono ?_
  rintro e w12 ⟨a12, rfl, ho12, hb12⟩
  have h9_12 := keepT h9_11 hb12
  have HR12 : Hid (Row w12 a12 nn ms) := ho12.toRow
  clear ho12
  go_wp2_with fail
  refine (eqByteS_any ax a12 nn nn nn nn ms ms _ (HOX9.out.kept h9_12).toRow HR12.out (by omega) (by omega)).mono ?_
  rintro e w13 ⟨rfl, hb13⟩
  rw [decide_eq_true (rfl : ms = ms)]
  have h9_13 := keepT h9_12 hb13
  have hc13 := keepT hc9 h9_13
  have HX13 : Hid (_) := HX10.out.kept (keepT hb11 (keepT hb12 hb13))
  have HG13 : Hid (_) := HOG.out.kept h9_13
  have HW13 : Hid (_) := HOW9.out.kept h9_13
  have hs13 := h9_13.size
  clear HR12 HX10 HOG HOW9 hb10 hb11 hb12 hb13 h9_11 h9_12
  go_wp2_with fail
  refine (markByteS_any w5.heap.size ax nn nn 1 ms _ (HOX9.out.kept h9_13) (by omega) (by decide)).mono ?_
  rintro e w14 ⟨rfl, _, hg14⟩
  have ht14 : Touch w5.heap.size w6.heap.size w13 w14 := touch_grownS hg14 HXL.out
  have hsz1 := hc5.size
  have hc14 : Below w1.heap.size w1 w14 := hc13.trans (ht14.below (by omega) (by have := hc13.size; omega))
  have HX14 : Hid (_) := HX13.out.touch ht14 (.inl (by omega)) (.inl (by omega)) (.inr (by omega))
  have HG14 : Hid (_) := own_touchS HG13.out ht14 hs7
  have HW14 : Hid (Row w14 aw L bs) := HW13.out.touch HIN.out (.inl (Nat.le_refl _)) ht14
  have hs14 := ht14.size
  clear ht14 hg14 HX13 HG13 HW13 h9_13 HOX9
  have kz : ¬ (((1 + nn : Nat) : Int) < 0) := by omega
  obtain ⟨kk, hkk⟩ : ∃ kk : Int, kk = ((1 + nn : Nat) : Int) := ⟨_, rfl⟩
  rw [← hkk] at kz ⊢
  clear hkk
  go_wp2_with fail
  refine (eqByteS_any ag aw L L cg cw bs bs _ HG14.out.toRow HW14.out (by omega) (by omega)).mono ?_
  rintro e w15 ⟨rfl, hb15⟩
  rw [decide_eq_true (rfl : bs = bs)]
  have HX15 : Hid (_) := HX14.out.kept hb15
  obtain ⟨s0, s1, s2, s3⟩ := cells4 HX15.out.s
  obtain ⟨g0, g1, g2, g3⟩ := cells4 HX15.out.g
  go_wp2_with fail
  refine (eqSecret_same t _).mono ?_
  rintro e w16 ⟨rfl, hb16⟩
  clear s0 s1 s2 s3 g0 g1 g2 g3
  have h14_16 := keepT hb15 hb16
  have hc16 := keepT hc14 h14_16
  have HX16 : Hid (_) := HX15.out.kept hb16
  have HG16 : Hid (_) := HG14.out.kept h14_16
  have HW16 : Hid (_) := HW14.out.kept h14_16
  have hs16 := h14_16.size
  clear HX14 HX15 HG14 HW14 hb15 hb16 h14_16
  go_wp2_with fail
  refine (markByteS_int w7.heap.size ag L cg 1 bs _ HG16.out (by omega) (by decide) (by decide)).mono ?_
  rintro e w17 ⟨rfl, ho17, hg17⟩
  have ht17 : Touch w7.heap.size w8.heap.size w16 w17 := touch_grownS hg17 HGL.out
  have hc17 : Below w1.heap.size w1 w17 := hc16.trans (ht17.below (by have := hc7.size; omega) (by have := hc16.size; omega))
  have HX17 : Hid (_) := HX16.out.touch ht17 (.inl (by have := hc7.size; omega)) (.inl (by omega)) (.inr (by omega))
  have HW17 : Hid (Row w17 aw L bs) := HW16.out.touch HIN.out (.inl (by omega)) ht17
  have HM17 : Hid (_) := ho17.toRow
  clear ht17 hg17 HX16 HG16 HW16 ho17
  have tq : ((1 : Int) + (L : Int) != 1 + (L : Int)) = false := by simp
  have tz : ¬ ((1 : Int) + (L : Int) < 0) := by omega
  go_wp2_with fail
  refine (heldByteS_int ag L cg 1 _ HM17.out (by omega) (by decide) (by decide)).mono ?_
  rintro e w18 ⟨rfl, hw18⟩
  subst hw18
  obtain ⟨k0, k1, k2, k3⟩ := cells4 HX17.out.k
  go_wp2_with fail
  refine (toSecret_any sc x h n _).mono ?_
  rintro e w19 ⟨rfl, hb19⟩
  clear k0 k1 k2 k3
  go_wp2_with fail
  refine (toByteS_any a nn c ms _ (HRM.out _ (keepT hc17 hb19)) hn).mono ?_
  rintro e w20 ⟨a20, rfl, ho20, hb20⟩
  have HR20 : Hid (Row w20 a20 nn ms) := ho20.toRow
  have hn20 := ho20.nil
  clear ho20
  go_wp2_with fail
  refine (HIM.out a20 nn _ HR20.out hn20).mono ?_
  rintro e w21 ⟨ah, ch, rfl, hoh, hb21⟩
  rw [scw]
  obtain ⟨w22, hw22⟩ : ∃ w22, w22 = w21.alloc (.cells #[.int .i64 t.1, .int .u64 t.2.1, .int .i64 t.2.2.1, .int .i64 t.2.2.2] 47) := ⟨_, rfl⟩
  have hb22 : Below w21.heap.size w21 w22 := by rw [hw22]; exact (Below.refl _ _).alloc (Nat.le_refl _) _
  have HB22 : Hid (w22.heap[w21.heap.size]? = some (.cells #[.int .i64 t.1, .int .u64 t.2.1, .int .i64 t.2.2.1, .int .i64 t.2.2.2] 47)) := by show _ = _; rw [hw22]; exact heap_alloc_new w21 _
  have h18_22 := keepT hb19 (keepT hb20 (keepT hb21 hb22))
  have HW22 : Hid (_ = _) := hw22
  clear hw22 HR20
  go_upto_region 23 with fail
  rw [← HW22.out]
  clear HW22
  have HOH : Hid (_) := (hoh.kept hb22).toRow
  have HWE : Hid (_) := HW17.out.kept h18_22
  clear hoh
  go_wp2_with fail
  refine (eqByteS_any ah aw L L ch cw bs bs _ HOH.out HWE.out (by omega) (by omega)).mono ?_
  rintro e w23 ⟨rfl, hb23⟩
  rw [decide_eq_true (rfl : bs = bs)]
  have h18_23 := keepT h18_22 hb23
  obtain ⟨s0, s1, s2, s3⟩ := cells4 (HX17.out.kept h18_23).s
  obtain ⟨g0, g1, g2, g3⟩ := cells4 ((hb23.block _ (Array.getElem?_eq_some_iff.1 HB22.out).1).trans HB22.out)
  go_wp2_with fail
  refine (eqSecret_same t _).mono ?_
  rintro e w24 ⟨rfl, hb24⟩
  clear s0 s1 s2 s3 g0 g1 g2 g3
  have h18_24 := keepT h18_23 hb24
  have HM24 : Hid (_) := HM17.out.kept h18_24
  go_wp2_with fail
  refine (heldByteS_int ag L cg 1 _ HM24.out (by omega) (by decide) (by decide)).mono ?_
  rintro e w25 ⟨rfl, hw25⟩
  subst hw25
  go_wp2
  go_ret
  exact ⟨rfl, keepT hb0 (keepT hc17 h18_24)⟩

end Go.Proofs.Ytmggaegjfkpjoaa
