import Derived.Test.YtjkkokjojaknkaaDoorLLaxSame
import Derived.Test.YtjkkokjojaknkaaDoorSI2
import Derived.Deep.RegionWith
namespace Go.Proofs.YtjkkokjojaknkaaDoor
open Go.RowKit

theorem wrapOneF (z : Nat) (h : z < 255) : IntKind.u8.wrap (IntKind.i64.wrap (1 + (z : Int))) = 1 + (z : Int) := by
  have h1 : IntKind.i64.wrap (1 + (z : Int)) = 1 + (z : Int) := by rw [IntKind.wrap_i64]; omega
  rw [h1, IntKind.wrap_u8]
  omega
theorem u8_xorF (x z : Int) (h0 : 0 ≤ x) (h1 : x ≤ 255) (h2 : 0 ≤ z) (h3 : z ≤ 255) : bits .xor .u8 x z = ((x.toNat ^^^ z.toNat : Nat) : Int) := by
  have key : ∀ k : Fin 256, ∀ j : Fin 256, bits .xor .u8 ((k.val : Nat) : Int) ((j.val : Nat) : Int) = ((k.val ^^^ j.val : Nat) : Int) := by decide +kernel
  have := key ⟨x.toNat, by omega⟩ ⟨z.toNat, by omega⟩
  rwa [Int.toNat_of_nonneg h0, Int.toNat_of_nonneg h2] at this
theorem xor8_neF (x z : Int) (hx : 0 ≤ x ∧ x ≤ 255) (hz : 1 ≤ z ∧ z ≤ 255) : (0 ≤ bits .xor .u8 x z ∧ bits .xor .u8 x z ≤ 255) ∧ x ≠ bits .xor .u8 x z := by
  rw [u8_xorF x z hx.1 hx.2 (by omega) hz.2]
  have hlt : x.toNat ^^^ z.toNat < 2 ^ 8 := Nat.xor_lt_two_pow (by omega) (by omega)
  refine ⟨by omega, fun e => ?_⟩
  have h1 : x.toNat = x.toNat ^^^ z.toNat := by omega
  have h2 : x.toNat ^^^ (x.toNat ^^^ z.toNat) = z.toNat := by rw [← Nat.xor_assoc, Nat.xor_self, Nat.zero_xor]
  rw [← h1, Nat.xor_self] at h2
  omega
set_option maxRecDepth 10000 in
set_option maxHeartbeats 400000 in
theorem byteAt_F (a : Option Addr) (n cap : Nat) (bs : List Int) (i : Nat) (m : Int) (w : World) (h : Row w a n bs) (hm : 0 < m) (_hm' : m ≤ 1000000000) :
    Calls Tryd.prog 22 #[.slice a n cap, .int .i64 (i : Int), .int .i64 m] w fun e w' => ∃ v : Nat, e = .returned (.int .i64 (v : Int)) ∧ (v : Int) < m ∧ w = w' := by
  have H : Hid (Row w a n bs) := h
  clear h
  by_cases hlt : i < n
  · obtain ⟨b, off, rfl, hb, hc⟩ := H.out.get i hlt
    obtain ⟨x, hx⟩ : ∃ x, x = bs.getD i 0 := ⟨_, rfl⟩
    have hxb := H.out.byte i
    rw [← hx] at hc hxb
    obtain ⟨hx0, hx1⟩ := hxb
    clear hx
    have hlti : (i : Int) < (n : Int) := by omega
    have h3 := Int.emod_nonneg x (show m ≠ 0 by omega)
    have h4 := Int.emod_lt_of_pos x hm
    have H3 : Hid (0 ≤ x % m ∧ x % m < m) := ⟨h3, h4⟩
    clear h3 h4
    go_enter Tryd.func22, Tryd.ntmps22
    go_wp2
    go_ret
    exact ⟨(x % m).toNat, by rw [Int.toNat_of_nonneg H3.out.1]; rfl, by rw [Int.toNat_of_nonneg H3.out.1]; exact H3.out.2, rfl⟩
  · have hge : (n : Int) ≤ (i : Int) := by omega
    go_enter Tryd.func22, Tryd.ntmps22
    go_wp2
    go_ret
    exact ⟨0, rfl, hm, rfl⟩
/-- Two bytes of one item's form with none of it in common. -/
theorem two_more {l : List Int} (h : cO (readR false l) = 0) (hb : ∀ i, 0 ≤ l.getD i 0 ∧ l.getD i 0 ≤ 255) : cO (readR false (l ++ [0, 0])) ≠ 0 := by
  cases h1 : readR false l with
  | no c p =>
    have := readR_code h1
    rw [h1] at h
    simp only [cO] at h
    omega
  | ok x nx =>
    have h2 := readR_exact hb h1
    by_cases hl : l.length + 2 ≤ 20000
    · rw [readR_more h2 (m := [0, 0]) (by decide) hl]
      show (6 : Int) ≠ 0
      decide
    · cases h3 : readR false (l ++ [0, 0]) with
      | no c p =>
        have := readR_code h3
        simp only [cO]
        omega
      | ok y ny =>
        exfalso
        unfold readR at h3
        rw [if_pos (by rw [List.length_append]; show 20000 < l.length + 2; omega)] at h3
        cases h3
theorem differ {l m : List Int} (hb : ∀ i, 0 ≤ l.getD i 0 ∧ l.getD i 0 ≤ 255) (hc : ∀ i, 0 ≤ m.getD i 0 ∧ m.getD i 0 ≤ 255) (hne : l ≠ m) (h1 : cO (readR false l) = 0) (h2 : cO (readR false m) = 0) : yO (readR false l) ≠ yO (readR false m) := by
  cases h3 : readR false l with
  | no c p =>
    have := readR_code h3
    rw [h3] at h1
    simp only [cO] at h1
    omega
  | ok x nx =>
    cases h4 : readR false m with
    | no c p =>
      have := readR_code h4
      rw [h4] at h2
      simp only [cO] at h2
      omega
    | ok y ny =>
      intro e
      have e1 : x = y := e
      have h5 := readR_exact hb h3
      have h6 := readR_exact hc h4
      rw [e1, h6] at h5
      exact hne (Option.some.inj h5).symm
theorem set_ne (l : List Int) (i : Nat) (v : Int) (hi : i < l.length) (h : l.getD i 0 ≠ v) : l ≠ l.set i v := by
  intro e
  have h1 : (l.set i v).getD i 0 = v := by simp [hi]
  rw [← e] at h1
  exact h h1

set_option maxRecDepth 10000 in
set_option maxHeartbeats 40000000 in
theorem lawOneForm_walk (a : Option Addr) (n cap : Nat) (bs : List Int) (am : Option Addr) (nm capm : Nat) (bm : List Int) (w : World) (hE : ErrT w) (hrow : Row w a n bs) (hn63 : n ≤ 9223372036854775807) (hrowm : Row w am nm bm) (hnm63 : nm ≤ 9223372036854775807) :
    Calls Tryd.prog 5 #[.slice a n cap, .slice am nm capm] w fun e w' => e = .returned (.bool true) ∧ Below w.heap.size w w' := by
  have HR : Hid (Row w a n bs) := hrow
  have HRM : Hid (Row w am nm bm) := hrowm
  have HE : Hid (ErrT w) := hE
  have hw0 : 0 < w.heap.size := hE.1
  obtain ⟨i0, hi, hz0, hz1, hz2⟩ := info_parts Tryd.info5
  have HI5 : Hid (_ ∧ _ ∧ _ ∧ _) := ⟨hi, hz0, hz1, hz2⟩
  clear hrow hrowm hE hi hz0 hz1 hz2
  by_cases hbig : 1048576 < n
  · have hd : decide (1048576 < (n : Int)) = true := by simp; omega
    go_enter Tryd.func5, Tryd.ntmps5
    go_wp2_with (go_at_call 8; refine (big_anyI _ _ _ _ (by omega)).mono ?_; rintro e w' ⟨rfl, rfl⟩; rw [hd])
    go_ret
    exact ⟨rfl, Below.refl _ _⟩
  have hd : decide (1048576 < (n : Int)) = false := by simp; omega
  by_cases hbig2 : 1048576 < nm
  · have hd2 : decide (1048576 < (nm : Int)) = true := by simp; omega
    go_enter Tryd.func5, Tryd.ntmps5
    go_wp2_with fail
    refine (big_anyI _ _ _ _ (by omega)).mono ?_
    rintro e w' ⟨rfl, rfl⟩
    rw [hd]
    go_wp2_with fail
    refine (big_anyI _ _ _ _ (by omega)).mono ?_
    rintro e w' ⟨rfl, rfl⟩
    rw [hd2]
    go_wp2
    go_ret
    exact ⟨rfl, Below.refl _ _⟩
  have hd2 : decide (1048576 < (nm : Int)) = false := by simp; omega
  go_enter Tryd.func5, Tryd.ntmps5
  go_wp2_with fail
  refine (big_anyI _ _ _ _ (by omega)).mono ?_
  rintro e w' ⟨rfl, rfl⟩
  rw [hd]
  go_wp2_with fail
  refine (big_anyI _ _ _ _ (by omega)).mono ?_
  rintro e w' ⟨rfl, rfl⟩
  rw [hd2]
  go_wp2_with fail
  refine (drawReadItem_any a n cap bs _ HR.out (by omega)).mono ?_
  rintro e w1 ⟨ab, kb, cb, l, bo, rfl, hk, hrow1, hnil, hkc, b1⟩
  have HS1 : Hid (LS w w1 ab kb l) := ⟨b1, hrow1, HE.out.below hw0 b1⟩
  have HLN : Hid (l.length = kb) := hrow1.len
  have hby := hrow1.byte
  have HBY : Hid (∀ i, 0 ≤ l.getD i 0 ∧ l.getD i 0 ≤ 255) := hby
  clear b1 hrow1 hby hd hd2 hbig hbig2
  by_cases hk0 : kb = 0
  · subst hk0
    go_wp2_with fail
    refine (lives_any _).mono ?_
    rintro e w2 ⟨rfl, b2⟩
    have HS2 := HS1.out.on b2
    go_wp2
    go_ret
    exact ⟨rfl, HS2.bel⟩
  have hkb : ((kb : Int) == 0) = false := by simp [hk0]
  have hk1 : 0 < kb := by omega
  go_wp2_with fail
  refine (copied_any ab kb cb l w1 HS1.out.b hnil (by omega)).mono ?_
  rintro e w2 ⟨a2, c2, rfl, o2, b2⟩
  obtain ⟨g2, rfl⟩ := o2.shape hk1
  have HS2 : Hid (_) := HS1.out.on b2
  have HO2 : Hid (OwnB w1.heap.size w2.heap.size w2 (some ⟨g2, 0, none⟩) kb c2 l) := o2.ownB
  have HIN : Hid (In ab kb 0 w1.heap.size) := HS1.out.b.in_
  have HRM2 : Hid (Row w2 am nm bm) := HRM.out.kept HS2.out.bel
  have hz21 := b2.size
  have hz10 := HS1.out.bel.size
  clear b2 o2 HS1
  go_wp2_with fail
  refine (byteAt_F am nm capm bm 0 (kb : Int) w2 HRM2.out (by omega) (by omega)).mono ?_
  rintro e wz ⟨i, rfl, hik, rfl⟩
  have hi63 : i < kb := by omega
  obtain ⟨v0, hv0⟩ : ∃ v0, v0 = l.getD i 0 := ⟨_, rfl⟩
  have HV0 : Hid (v0 = l.getD i 0) := hv0
  have hvr : 0 ≤ v0 ∧ v0 ≤ 255 := by rw [hv0]; exact HBY.out i
  have hc0 : w2.cell? ⟨g2, i, none⟩ = some (.int .u8 v0) := by
    obtain ⟨b, off, ha, _, hc⟩ := HO2.out.own.toRow.get i hi63
    cases ha
    rw [hv0]
    simpa using hc
  have hfr : w2.frozen? ⟨g2, i, none⟩ = false := HO2.out.own.row.frozenAt i
  have hg2 := HO2.out.own.base
  clear hv0
  go_upto_region 8 with fail
  go_cut [53] (fun _ wx => ∃ v : Int, Hid ((0 ≤ v ∧ v ≤ 255) ∧ v0 ≠ v) ∧ Hid (Own w1.heap.size wx (some ⟨g2, 0, none⟩) kb c2 (l.set i v)) ∧ Hid (Touch w1.heap.size w2.heap.size w2 wx))
  case first =>
    have HRMd : Hid (Row w2.drew am nm bm) := HRM2.out.drew
    go_region_with (go_at_call 22; refine (byteAt_F am nm capm bm 1 255 _ HRMd.out (by decide) (by decide)).mono ?_; rintro e wz ⟨z, rfl, hz, rfl⟩)
    all_goals
      have hq : IntKind.u8.wrap (IntKind.i64.wrap (1 + (z : Int))) = 1 + (z : Int) := wrapOneF z (by omega)
      rw [hq]
      have hxo := xor8_neF v0 (1 + (z : Int)) hvr (by omega)
      have hst := (HO2.out.own.store i (bits .xor .u8 v0 (1 + (z : Int))) hxo.1).drew
      have htt : Touch w1.heap.size w2.heap.size w2 (w2.setCell ⟨g2, i, none⟩ (.int .u8 (bits .xor .u8 v0 (1 + (z : Int))))).drew := (touch_set w2 g2 i _ hg2.1 hg2.2).trans (Touch.of_below (Below.refl _ _).drew)
      have HF : Hid (_ ∧ _ ∧ _) := ⟨hxo, hst, htt⟩
      clear hxo hst htt hq
      go_wp2_with fail
      go_meet
      exact ⟨_, HF.out.1, HF.out.2.1, HF.out.2.2⟩
  case rest =>
  obtain ⟨v, HV, HOv, HT⟩ := hcut
  obtain ⟨w3, hw3⟩ : ∃ w3, w3 = wc := ⟨_, rfl⟩
  rw [← hw3] at HOv HT ⊢
  clear hw3
  have hb23 : Below w.heap.size w w3 := HS2.out.bel.trans (HT.out.below hz10 HS2.out.bel.size)
  have HS3 : Hid (LS w w3 ab kb l) := ⟨hb23, HS2.out.b.touch HIN.out (.inl (Nat.le_refl _)) HT.out, HE.out.below hw0 hb23⟩
  have HM : Hid (l ≠ l.set i v) := set_ne l i v (by rw [HLN.out]; exact hi63) (by rw [← HV0.out]; exact HV.out.2)
  clear HS2 HO2 HRM2 HIN hc0 hfr hg2 hb23 HV HV0 HT hvr hz21 hz10
  obtain ⟨lm, hlm⟩ : ∃ lm, lm = l.set i v := ⟨_, rfl⟩
  rw [← hlm] at HOv HM
  clear hlm
  have HBM : Hid (∀ i, 0 ≤ lm.getD i 0 ∧ lm.getD i 0 ≤ 255) := HOv.out.byte
  have HDF : Hid (cO (readR false l) = 0 → cO (readR false lm) = 0 → yO (readR false l) ≠ yO (readR false lm)) := differ HBY.out HBM.out HM.out
  have HTM : Hid (cO (readR false l) = 0 → cO (readR false (l ++ [0, 0])) ≠ 0) := fun h => two_more h HBY.out
  obtain ⟨x, hx⟩ : ∃ x, x = yO (readR false l) := ⟨_, rfl⟩
  obtain ⟨y, hy⟩ : ∃ y, y = yO (readR false lm) := ⟨_, rfl⟩
  obtain ⟨c1, hc1⟩ : ∃ c, c = cO (readR false l) := ⟨_, rfl⟩
  obtain ⟨c2_, hc2⟩ : ∃ c, c = cO (readR false lm) := ⟨_, rfl⟩
  obtain ⟨c3, hc3⟩ : ∃ c, c = cO (readR false (l ++ [0, 0])) := ⟨_, rfl⟩
  obtain ⟨p1, hp1⟩ : ∃ c, c = pO (readR false l) := ⟨_, rfl⟩
  obtain ⟨p2, hp2⟩ : ∃ c, c = pO (readR false lm) := ⟨_, rfl⟩
  have HR1 : Hid (∀ (a : Option Addr) (cap : Nat) (W : World), ErrT W → Row W a kb l → kb ≤ cap → Calls Tryd.prog 14 #[.slice a kb cap, .bool false] W fun ev w' => RdI x c1 p1 W ev w') := by
    intro a cap W h1 h2 h3
    rw [hx, hc1, hp1]
    exact read_any a kb cap false l W h1 h2 h3 (by omega)
  have HR2 : Hid (∀ (a : Option Addr) (cap : Nat) (W : World), ErrT W → Row W a kb lm → kb ≤ cap → Calls Tryd.prog 14 #[.slice a kb cap, .bool false] W fun ev w' => RdI y c2_ p2 W ev w') := by
    intro a cap W h1 h2 h3
    rw [hy, hc2, hp2]
    exact read_any a kb cap false lm W h1 h2 h3 (by omega)
  have HR3 : Hid (∀ (a : Option Addr) (cap : Nat) (W : World), ErrT W → Row W a (kb + 2) (l ++ [0, 0]) → kb + 2 ≤ cap → Calls Tryd.prog 14 #[.slice a (kb + 2) cap, .bool false] W fun ev w' => ∃ z p3, RdI z c3 p3 W ev w') := by
    intro a cap W h1 h2 h3
    rw [hc3]
    exact (read_any a (kb + 2) cap false (l ++ [0, 0]) W h1 h2 h3 (by omega)).mono fun ev w' h => ⟨_, _, h⟩
  have HS1r : Hid (∀ (a : Option Addr) (cap : Nat) (W : World), Row W a kb l → kb ≤ cap → Calls Tryd.prog 21 #[.slice a kb cap, .bool false] W fun ev w' => RdI x c1 p1 W ev w') := by
    intro a cap W h2 h3
    rw [hx, hc1, hp1]
    exact sread_any a kb cap false l W h2 h3 (by omega)
  rw [← hx, ← hy, ← hc1, ← hc2] at HDF
  rw [← hc1, ← hc3] at HTM
  have HDF' : Hid (c1 = 0 → c2_ = 0 → x ≠ y) := HDF
  have HTM' : Hid (c1 = 0 → c3 ≠ 0) := HTM
  clear hx hy hc1 hc2 hc3 hp1 hp2 HDF HTM HM HBM
  have t1 : (c1 != c1) = false := by simp
  have hcc2 := own_capI HOv.out
  go_wp2_with fail
  refine (copied_any ab kb cb l w3 HS3.out.b hnil (by omega)).mono ?_
  rintro e w4 ⟨a4, c4, rfl, o4, b4⟩
  have HS4 : Hid (_) := HS3.out.on b4
  have HV4 : Hid (_) := HOv.out.kept b4
  clear b4 HS3 HOv
  go_wp2_with fail
  refine (HR1.out a4 c4 w4 HS4.out.err o4.toRow (own_capI o4)).mono ?_
  rintro e w5 ⟨b5, abx, nbx, cbx, akx, nkx, ckx, rfl, rx, nx, lx, kx, wx⟩
  have X := ix_new (ck := ckx) rx nx lx kx wx
  have hal : Below w5.heap.size w5 (w5.alloc (.cells #[.int .i64 x.cls, .int .i64 x.tag, .bool x.cons, .slice abx nbx cbx, .slice akx nkx ckx] 26)) := (Below.refl _ _).alloc (Nat.le_refl _) _
  have HS6 := (HS4.out.on b5).on hal
  have HV6 := (HV4.out.kept b5).kept hal
  clear b5 hal o4 HS4 HV4 rx nx lx kx wx
  unfold itv
  go_wp2_with fail
  obtain ⟨W6, hW6⟩ : ∃ W, W = w5.alloc (.cells #[.int .i64 x.cls, .int .i64 x.tag, .bool x.cons, .slice abx nbx cbx, .slice akx nkx ckx] 26) := ⟨_, rfl⟩
  rw [← hW6] at X HS6 HV6 ⊢
  obtain ⟨g9, hg9⟩ : ∃ g, g = w5.heap.size := ⟨_, rfl⟩
  rw [← hg9] at X ⊢
  have HX6 : Hid (_) := X
  have HS6' : Hid (LS w W6 ab kb l) := HS6
  have HV6' : Hid (Own w1.heap.size W6 (some ⟨g2, 0, none⟩) kb c2 lm) := HV6
  clear hW6 hg9 X HS6 HV6
  refine (HR2.out (some ⟨g2, 0, none⟩) c2 W6 HS6'.out.err HV6'.out.toRow hcc2).mono ?_
  rintro e w7 ⟨b7, aby, nby, cby, aky, nky, cky, rfl, ry, ny, ly, ky, wy⟩
  have Y := ix_new (ck := cky) ry ny ly ky wy
  have hal : Below w7.heap.size w7 (w7.alloc (.cells #[.int .i64 y.cls, .int .i64 y.tag, .bool y.cons, .slice aby nby cby, .slice aky nky cky] 26)) := (Below.refl _ _).alloc (Nat.le_refl _) _
  have HS8 := (HS6'.out.on b7).on hal
  have HX8 := (HX6.out.kept b7).kept hal
  clear b7 hal HS6' HX6 HV6' ry ny ly ky wy
  unfold itv
  go_wp2_with fail
  obtain ⟨W8, hW8⟩ : ∃ W, W = w7.alloc (.cells #[.int .i64 y.cls, .int .i64 y.tag, .bool y.cons, .slice aby nby cby, .slice aky nky cky] 26) := ⟨_, rfl⟩
  rw [← hW8] at Y HX8 HS8 ⊢
  obtain ⟨g12, hg12⟩ : ∃ g, g = w7.heap.size := ⟨_, rfl⟩
  rw [← hg12] at Y ⊢
  have HY8 : Hid (_) := Y
  have HX8' : Hid (IX W8 g9 12 x abx nbx cbx akx nkx ckx) := HX8
  have HS8' : Hid (LS w W8 ab kb l) := HS8
  clear hW8 hg12 Y HX8 HS8
  refine (HS1r.out ab cb W8 HS8'.out.b hkc).mono ?_
  rintro e wA ⟨bA, abv, nbv, cbv, akv, nkv, ckv, rfl, _⟩
  have hal : Below wA.heap.size wA (wA.alloc (.cells #[.int .i64 x.cls, .int .i64 x.tag, .bool x.cons, .slice abv nbv cbv, .slice akv nkv ckv] 26)) := (Below.refl _ _).alloc (Nat.le_refl _) _
  have HSB := (HS8'.out.on bA).on hal
  have HXB := (HX8'.out.kept bA).kept hal
  have HYB := (HY8.out.kept bA).kept hal
  clear bA hal HS8' HX8' HY8
  unfold itv
  go_upto_region 12 with fail
  obtain ⟨WB, hWB⟩ : ∃ W, W = wA.alloc (.cells #[.int .i64 x.cls, .int .i64 x.tag, .bool x.cons, .slice abv nbv cbv, .slice akv nkv ckv] 26) := ⟨_, rfl⟩
  rw [← hWB] at HSB HXB HYB ⊢
  have HSC : Hid (LS w WB ab kb l) := HSB
  have HXC : Hid (IX WB g9 12 x abx nbx cbx akx nkx ckx) := HXB
  have HYC : Hid (IX WB g12 12 y aby nby cby aky nky cky) := HYB
  clear hWB HSB HXB HYB HR1 HR2 HS1r
  go_cut [88] (fun c wx => ∃ b : Bool, c = .bool b ∧ Hid (b = false ∧ LS w wx ab kb l))
  case first =>
    by_cases hc1 : c1 = 0
    · have z1 : (c1 == 0) = true := by simp [hc1]
      by_cases hc2 : c2_ = 0
      · have z2 : (c2_ == 0) = true := by simp [hc2]
        have HNE : Hid (x ≠ y) := HDF'.out hc1 hc2
        clear hc1 hc2
        obtain ⟨d0, d1, d2, d3, d4⟩ := HXC.out.cells
        obtain ⟨e0, e1, e2, e3, e4⟩ := HYC.out.cells
        go_wp2_with fail
        refine (sameS_all 12 12 x y abx nbx cbx akx nkx ckx aby nby cby aky nky cky WB HXC.out.row HXC.out.kids HYC.out.row HYC.out.kids).mono ?_
        rintro e wD ⟨bq, rfl, hbq, bD⟩
        obtain rfl : bq = false := by
          cases bq with
          | false => rfl
          | true => exact absurd (hbq.out rfl) HNE.out
        have HF : Hid (_) := HSC.out.on bD
        clear hbq bD
        go_wp2_with fail
        go_meet
        exact ⟨false, rfl, ⟨rfl, HF.out⟩⟩
      · have z2 : (c2_ == 0) = false := by simp [hc2]
        clear hc1 hc2
        go_wp2_with fail
        go_meet
        exact ⟨false, rfl, ⟨rfl, HSC.out⟩⟩
    · have z1 : (c1 == 0) = false := by simp [hc1]
      clear hc1
      go_wp2_with fail
      go_meet
      exact ⟨false, rfl, ⟨rfl, HSC.out⟩⟩
  case rest =>
  obtain ⟨b, rfl, hb⟩ := hcut
  obtain ⟨hb1, hb2⟩ := hb.out
  subst hb1
  have HSD : Hid (LS w wc ab kb l) := hb2
  clear hb hb2 HSC HXC HYC HDF' t1
  go_wp2_with fail
  refine (copied_any ab kb cb l wc HSD.out.b hnil (by omega)).mono ?_
  rintro e wE ⟨aE, cE, rfl, oE, bE⟩
  have hal : Below wE.heap.size wE (wE.alloc (.cells #[.int .u8 0, .int .u8 0] 5)) := (Below.refl _ _).alloc (Nat.le_refl _) _
  have HO2 : Hid (_ ∧ _) := ⟨oE.kept hal, own_two _ wE (Nat.le_refl _) 0 0 (by decide) (by decide)⟩
  have bE2 := bE.trans (hal.mono bE.size)
  obtain ⟨hi, hz0, hz1, hz2⟩ := HI5.out
  clear oE hal bE
  go_wp2_with (at_builtin; refine wpList_append_row _ rfl (.tmp 91) (.tmp 92) 22 rfl wc.heap.size i0 Tryd.underlying22 hi hz0 hz1 hz2 _ _ _ rfl HO2.out.1.row (some ⟨wE.heap.size, 0, none⟩) 2 2 [0, 0] rfl HO2.out.2.toRow (by intro h; cases h) (by omega) (by have := bE2.size; omega) ?_; intro vF wF hvF hgF; obtain ⟨aF, cF, rfl, oF⟩ := own_appended (xs := l) (ys := [0, 0]) hvF HO2.out.1.byte HO2.out.2.byte; have bF := below_appended bE2 bE2.size HO2.out.1.row hgF; have HF : Hid (_ ∧ _) := ⟨HSD.out.on bF, oF⟩; clear hvF hgF bF oF)
  refine (HR3.out aF cF wF HF.out.1.err HF.out.2.toRow (own_capI HF.out.2)).mono ?_
  rintro e wG ⟨z3, p3, bG, abz, nbz, cbz, akz, nkz, ckz, rfl, _⟩
  have hal : Below wG.heap.size wG (wG.alloc (.cells #[.int .i64 z3.cls, .int .i64 z3.tag, .bool z3.cons, .slice abz nbz cbz, .slice akz nkz ckz] 26)) := (Below.refl _ _).alloc (Nat.le_refl _) _
  have HSH : Hid (_) := (HF.out.1.on bG).on hal
  clear bG hal HF HSD HO2 bE2 hi hz0 hz1 hz2
  unfold itv
  go_wp2_with fail
  refine (lives_any _).mono ?_
  rintro e wI ⟨rfl, bI⟩
  have HSI := HSH.out.on bI
  by_cases hc1 : c1 = 0
  · have z1 : (c1 != 0) = false := by simp [hc1]
    have z3n : (c3 != 0) = true := by simp [HTM'.out hc1]
    clear hc1
    go_wp2
    go_ret
    exact ⟨rfl, HSI.bel⟩
  · have z1 : (c1 != 0) = true := by simp [hc1]
    clear hc1
    go_wp2
    go_ret
    exact ⟨rfl, HSI.bel⟩

end Go.Proofs.YtjkkokjojaknkaaDoor
