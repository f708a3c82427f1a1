import Derived.Test.YtjkkokjojaknkaaDoorG03
import Derived.Deep.DeepCutAuto
namespace Go.Proofs.YtjkkokjojaknkaaDoor
open Go.RowKit

/-- What lies there: the bytes, the errors' handle. -/
structure LS (w W : World) (ab : Option Addr) (kb : Nat) (l : List Int) : Prop where
  bel : Below w.heap.size w W
  b : Row W ab kb l
  err : ErrT W
theorem LS.on {w W W' : World} {ab : Option Addr} {kb : Nat} {l : List Int} (h : LS w W ab kb l) (hb : Below W.heap.size W W') : LS w W' ab kb l := ⟨h.bel.trans (hb.mono h.bel.size), h.b.kept hb, h.err.kept hb⟩

set_option maxRecDepth 10000 in
set_option maxHeartbeats 40000000 in
theorem lawLaxSame_walk (a : Option Addr) (n cap : Nat) (bs : List Int) (w : World) (hE : ErrT w) (hrow : Row w a n bs) (hn63 : n ≤ 9223372036854775807) :
    Calls Tryd.prog 4 #[.slice a n cap] w fun e w' => e = .returned (.bool true) ∧ Below w.heap.size w w' := by
  have HR : Hid (Row w a n bs) := hrow
  have HE : Hid (ErrT w) := hE
  have hw0 : 0 < w.heap.size := hE.1
  clear hrow hE
  by_cases hbig : 1048576 < n
  · have hd : decide (1048576 < (n : Int)) = true := by simp; omega
    go_enter Tryd.func4, Tryd.ntmps4
    go_wp2_with (go_at_call 8; refine (big_anyI _ _ _ _ (by omega)).mono ?_; rintro e w' ⟨rfl, rfl⟩; rw [hd])
    go_ret
    exact ⟨rfl, Below.refl _ _⟩
  have hd : decide (1048576 < (n : Int)) = false := by simp; omega
  go_enter Tryd.func4, Tryd.ntmps4
  go_wp2_with (go_at_call 8; refine (big_anyI _ _ _ _ (by omega)).mono ?_; rintro e w' ⟨rfl, rfl⟩; rw [hd])
  refine (drawReadItem_any a n cap bs _ HR.out (by omega)).mono ?_
  rintro e w1 ⟨ab, kb, cb, l, bo, rfl, hk, hrow1, hnil, hkc, b1⟩
  have HS1 : Hid (LS w w1 ab kb l) := ⟨b1, hrow1, HE.out.below hw0 b1⟩
  have HLX := lax_cases hrow1.byte
  have HLN : Hid (l.length = kb) := hrow1.len
  obtain ⟨x, hx⟩ : ∃ x, x = yO (readR false l) := ⟨_, rfl⟩
  obtain ⟨y, hy⟩ : ∃ y, y = yO (readR true l) := ⟨_, rfl⟩
  obtain ⟨c1, hc1⟩ : ∃ c, c = cO (readR false l) := ⟨_, rfl⟩
  obtain ⟨c2, hc2⟩ : ∃ c, c = cO (readR true l) := ⟨_, rfl⟩
  obtain ⟨p1, hp1⟩ : ∃ c, c = pO (readR false l) := ⟨_, rfl⟩
  obtain ⟨p2, hp2⟩ : ∃ c, c = pO (readR true l) := ⟨_, rfl⟩
  obtain ⟨cn, hcn⟩ : ∃ c, c = cnL l := ⟨_, rfl⟩
  have HR1 : Hid (∀ (a : Option Addr) (cap : Nat) (W : World), ErrT W → Row W a kb l → kb ≤ cap → Calls Tryd.prog 14 #[.slice a kb cap, .bool false] W fun ev w' => RdI x c1 p1 W ev w') := by
    intro a cap W h1 h2 h3
    rw [hx, hc1, hp1]
    exact read_any a kb cap false l W h1 h2 h3 (by omega)
  have HR2 : Hid (∀ (a : Option Addr) (cap : Nat) (W : World), ErrT W → Row W a kb l → kb ≤ cap → Calls Tryd.prog 14 #[.slice a kb cap, .bool true] W fun ev w' => RdI y c2 p2 W ev w') := by
    intro a cap W h1 h2 h3
    rw [hy, hc2, hp2]
    exact read_any a kb cap true l W h1 h2 h3 (by omega)
  have HS1r : Hid (∀ (a : Option Addr) (cap : Nat) (W : World), Row W a kb l → kb ≤ cap → Calls Tryd.prog 21 #[.slice a kb cap, .bool false] W fun ev w' => RdI x c1 p1 W ev w') := by
    intro a cap W h2 h3
    rw [hx, hc1, hp1]
    exact sread_any a kb cap false l W h2 h3 (by omega)
  have HS2r : Hid (∀ (a : Option Addr) (cap : Nat) (W : World), Row W a kb l → kb ≤ cap → Calls Tryd.prog 21 #[.slice a kb cap, .bool true] W fun ev w' => RdI y c2 p2 W ev w') := by
    intro a cap W h2 h3
    rw [hy, hc2, hp2]
    exact sread_any a kb cap true l W h2 h3 (by omega)
  have HC : Hid (∀ (a : Option Addr) (cap : Nat) (W : World), ErrT W → Row W a kb l → kb ≤ cap → Calls Tryd.prog 16 #[.slice a kb cap] W fun ev w' => Below W.heap.size W w' ∧ ∃ a cap, ev = .returned (.tuple #[.slice a cn.length cap, .int .i64 c2, .int .i64 p2]) ∧ Own W.heap.size w' a cn.length cap cn) := by
    intro a cap W h1 h2 h3
    rw [hcn, hc2, hp2]
    exact implCanon_any a kb cap l W h1 h2 h3 (by omega)
  rw [← hx, ← hy, ← hc1, ← hc2, ← hcn] at HLX
  have HLXH : Hid (_ ∨ _) := HLX
  clear HLX hx hy hc1 hc2 hp1 hp2 hcn b1 hrow1
  have t1 : (c1 != c1) = false := by simp
  have t2 : (c2 != c2) = false := by simp
  go_wp2_with fail
  refine (copied_any ab kb cb l _ HS1.out.b hnil (by omega)).mono ?_
  rintro e w2 ⟨a2, c2_, rfl, o2, b2⟩
  have HS2 : Hid (_) := HS1.out.on b2
  clear b2 HS1
  go_wp2_with fail
  refine (HR1.out a2 c2_ w2 HS2.out.err o2.toRow (own_capI o2)).mono ?_
  rintro e w3 ⟨b3, abx, nbx, cbx, akx, nkx, ckx, rfl, rx, nx, lx, kx, wx⟩
  have X := ix_new (ck := ckx) rx nx lx kx wx
  have hal : Below w3.heap.size w3 (w3.alloc (.cells #[.int .i64 x.cls, .int .i64 x.tag, .bool x.cons, .slice abx nbx cbx, .slice akx nkx ckx] 26)) := (Below.refl _ _).alloc (Nat.le_refl _) _
  have HS4 := (HS2.out.on b3).on hal
  clear b3 hal o2 HS2 rx nx lx kx wx
  unfold itv
  go_wp2_with fail
  obtain ⟨W4, hW4⟩ : ∃ W, W = w3.alloc (.cells #[.int .i64 x.cls, .int .i64 x.tag, .bool x.cons, .slice abx nbx cbx, .slice akx nkx ckx] 26) := ⟨_, rfl⟩
  rw [← hW4] at X HS4 ⊢
  obtain ⟨g5, hg5⟩ : ∃ g, g = w3.heap.size := ⟨_, rfl⟩
  rw [← hg5] at X ⊢
  have HX4 : Hid (_) := X
  have HS4' : Hid (LS w W4 ab kb l) := HS4
  clear hW4 hg5 X HS4
  refine (copied_any ab kb cb l W4 HS4'.out.b hnil (by omega)).mono ?_
  rintro e w5 ⟨a5, c5, rfl, o5, b5⟩
  have HS5 : Hid (_) := HS4'.out.on b5
  have HX5 : Hid (_) := HX4.out.kept b5
  clear b5 HS4' HX4
  go_wp2_with fail
  refine (HR2.out a5 c5 w5 HS5.out.err o5.toRow (own_capI o5)).mono ?_
  rintro e w6 ⟨b6, aby, nby, cby, aky, nky, cky, rfl, ry, ny, ly, ky, wy⟩
  have Y := ix_new (ck := cky) ry ny ly ky wy
  have hal : Below w6.heap.size w6 (w6.alloc (.cells #[.int .i64 y.cls, .int .i64 y.tag, .bool y.cons, .slice aby nby cby, .slice aky nky cky] 26)) := (Below.refl _ _).alloc (Nat.le_refl _) _
  have HS7 := (HS5.out.on b6).on hal
  have HX7 := (HX5.out.kept b6).kept hal
  clear b6 hal o5 HS5 HX5 ry ny ly ky wy
  unfold itv
  go_wp2_with fail
  obtain ⟨W7, hW7⟩ : ∃ W, W = w6.alloc (.cells #[.int .i64 y.cls, .int .i64 y.tag, .bool y.cons, .slice aby nby cby, .slice aky nky cky] 26) := ⟨_, rfl⟩
  rw [← hW7] at Y HX7 HS7 ⊢
  obtain ⟨g8, hg8⟩ : ∃ g, g = w6.heap.size := ⟨_, rfl⟩
  rw [← hg8] at Y ⊢
  have HY7 : Hid (_) := Y
  have HX7' : Hid (IX W7 g5 12 x abx nbx cbx akx nkx ckx) := HX7
  have HS7' : Hid (LS w W7 ab kb l) := HS7
  clear hW7 hg8 Y HX7 HS7
  refine (copied_any ab kb cb l W7 HS7'.out.b hnil (by omega)).mono ?_
  rintro e w8 ⟨a8, c8, rfl, o8, b8⟩
  have HS8 : Hid (_) := HS7'.out.on b8
  have HX8 : Hid (_) := HX7'.out.kept b8
  have HY8 : Hid (_) := HY7.out.kept b8
  clear b8 HS7' HX7' HY7
  go_wp2_with fail
  refine (HC.out a8 c8 w8 HS8.out.err o8.toRow (own_capI o8)).mono ?_
  rintro e w9 ⟨b9, a9, c9, rfl, o9⟩
  obtain ⟨m, hm⟩ : ∃ m, m = cn.length := ⟨_, rfl⟩
  have HM : Hid (m = cn.length) := hm
  rw [← hm] at o9 ⊢
  have HS9 : Hid (_) := HS8.out.on b9
  have HX9 : Hid (_) := HX8.out.kept b9
  have HY9 : Hid (_) := HY8.out.kept b9
  have HC9 : Hid (_) := o9
  clear b9 o9 o8 hm HS8 HX8 HY8
  go_wp2_with fail
  refine (HS1r.out ab cb w9 HS9.out.b hkc).mono ?_
  rintro e wA ⟨bA, abv, nbv, cbv, akv, nkv, ckv, rfl, _⟩
  have hal : Below wA.heap.size wA (wA.alloc (.cells #[.int .i64 x.cls, .int .i64 x.tag, .bool x.cons, .slice abv nbv cbv, .slice akv nkv ckv] 26)) := (Below.refl _ _).alloc (Nat.le_refl _) _
  have HSB := (HS9.out.on bA).on hal
  have HXB := (HX9.out.kept bA).kept hal
  have HYB := (HY9.out.kept bA).kept hal
  have HCB := (HC9.out.kept bA).kept hal
  clear bA hal HS9 HX9 HY9 HC9
  unfold itv
  go_wp2_with fail
  obtain ⟨WB, hWB⟩ : ∃ W, W = wA.alloc (.cells #[.int .i64 x.cls, .int .i64 x.tag, .bool x.cons, .slice abv nbv cbv, .slice akv nkv ckv] 26) := ⟨_, rfl⟩
  rw [← hWB] at HSB HXB HYB HCB ⊢
  have HSC : Hid (LS w WB ab kb l) := HSB
  have HXC : Hid (IX WB g5 12 x abx nbx cbx akx nkx ckx) := HXB
  have HYC : Hid (IX WB g8 12 y aby nby cby aky nky cky) := HYB
  have HCC : Hid (Own w8.heap.size WB a9 m c9 cn) := HCB
  clear hWB HSB HXB HYB HCB
  refine (HS2r.out ab cb WB HSC.out.b hkc).mono ?_
  rintro e wD ⟨bD, abu, nbu, cbu, aku, nku, cku, rfl, _⟩
  have hal : Below wD.heap.size wD (wD.alloc (.cells #[.int .i64 y.cls, .int .i64 y.tag, .bool y.cons, .slice abu nbu cbu, .slice aku nku cku] 26)) := (Below.refl _ _).alloc (Nat.le_refl _) _
  have HSE := (HSC.out.on bD).on hal
  have HXE := (HXC.out.kept bD).kept hal
  have HYE := (HYC.out.kept bD).kept hal
  have HCE := (HCC.out.kept bD).kept hal
  clear bD hal HSC HXC HYC HCC
  unfold itv
  go_upto_region 9 with fail
  obtain ⟨WE, hWE⟩ : ∃ W, W = wD.alloc (.cells #[.int .i64 y.cls, .int .i64 y.tag, .bool y.cons, .slice abu nbu cbu, .slice aku nku cku] 26) := ⟨_, rfl⟩
  rw [← hWE] at HSE HXE HYE HCE ⊢
  have HSF : Hid (LS w WE ab kb l) := HSE
  have HXF : Hid (IX WE g5 12 x abx nbx cbx akx nkx ckx) := HXE
  have HYF : Hid (IX WE g8 12 y aby nby cby aky nky cky) := HYE
  have HCF : Hid (Own w8.heap.size WE a9 m c9 cn) := HCE
  clear hWE HSE HXE HYE HCE
  rcases HLXH.out with ⟨q2, q1, q3⟩ | ⟨q2, l', q1, q3, q4, q5, q6⟩
  · have z2 : (c2 != 0) = true := by simp [q2]
    have z1 : (c1 != 0) = true := by simp [q1]
    have hm0 : m = 0 := by rw [HM.out, q3]; rfl
    subst hm0
    clear q1 q2 q3 HM
    go_wp2_with fail
    refine (lives_any _).mono ?_
    rintro e wG ⟨rfl, bG⟩
    have HSG := HSF.out.on bG
    go_wp2
    go_ret
    exact ⟨rfl, HSG.bel⟩
  · subst q2
    subst q4
    have HEN : Hid (enc 12 y = some cn) := q1
    have hmk : m ≤ kb := by rw [HM.out, ← HLN.out]; exact q3
    have HM2 : Hid (cn.length = m) := HM.out.symm
    have H5 : Hid (_) := q5
    have H6 : Hid (_) := q6
    clear q1 q3 q5 q6 HM HR1 HR2 HS1r HS2r HC
    have hgt : ¬ (kb : Int) < (m : Int) := by omega
    go_wp2_with fail
    refine (copied_any a9 m c9 cn WE HCF.out.toRow HCF.out.nil (by omega)).mono ?_
    rintro e wG ⟨aG, cG, rfl, oG, bG⟩
    have HSG : Hid (_) := HSF.out.on bG
    have HXG : Hid (_) := HXF.out.kept bG
    have HYG : Hid (_) := HYF.out.kept bG
    have HCG : Hid (_) := HCF.out.kept bG
    clear bG HSF HXF HYF HCF
    go_wp2_with fail
    refine (read_back aG m cG false HEN.out wG HSG.out.err oG.toRow (own_capI oG) (by omega)).mono ?_
    rintro e wH ⟨bH, abz, nbz, cbz, akz, nkz, ckz, rfl, rz, nz, lz, kz, wz⟩
    have Z := ix_new (ck := ckz) rz nz lz kz wz
    have hal : Below wH.heap.size wH (wH.alloc (.cells #[.int .i64 y.cls, .int .i64 y.tag, .bool y.cons, .slice abz nbz cbz, .slice akz nkz ckz] 26)) := (Below.refl _ _).alloc (Nat.le_refl _) _
    obtain rfl : nby = nbz := HYG.out.row.len.symm.trans rz.len
    obtain rfl : nky = nkz := HYG.out.kids.len.symm.trans kz.len
    have HSI := (HSG.out.on bH).on hal
    have HXI := (HXG.out.kept bH).kept hal
    have HYI := (HYG.out.kept bH).kept hal
    have HCI := (HCG.out.kept bH).kept hal
    clear bH hal oG HSG HXG HYG HCG rz nz lz kz wz
    unfold itv
    go_wp2_with fail
    obtain ⟨WI, hWI⟩ : ∃ W, W = wH.alloc (.cells #[.int .i64 y.cls, .int .i64 y.tag, .bool y.cons, .slice abz nby cbz, .slice akz nky ckz] 26) := ⟨_, rfl⟩
    rw [← hWI] at Z HSI HXI HYI HCI ⊢
    obtain ⟨gz, hgz⟩ : ∃ g, g = wH.heap.size := ⟨_, rfl⟩
    rw [← hgz] at Z ⊢
    have HZI : Hid (_) := Z
    have HSI' : Hid (LS w WI ab kb l) := HSI
    have HXI' : Hid (IX WI g5 12 x abx nbx cbx akx nkx ckx) := HXI
    have HYI' : Hid (IX WI g8 12 y aby nby cby aky nky cky) := HYI
    have HCI' : Hid (Own w8.heap.size WI a9 m c9 cn) := HCI
    clear hWI hgz Z HSI HXI HYI HCI
    refine (copied_any a9 m c9 cn WI HCI'.out.toRow HCI'.out.nil (by omega)).mono ?_
    rintro e wJ ⟨aJ, cJ, rfl, oJ, bJ⟩
    have HSJ : Hid (_) := HSI'.out.on bJ
    have HXJ : Hid (_) := HXI'.out.kept bJ
    have HYJ : Hid (_) := HYI'.out.kept bJ
    have HZJ : Hid (_) := HZI.out.kept bJ
    have HCJ : Hid (_) := HCI'.out.kept bJ
    clear bJ HSI' HXI' HYI' HZI HCI'
    go_wp2_with fail
    refine (canon_back aJ m cJ HEN.out wJ HSJ.out.err oJ.toRow (own_capI oJ) (by omega)).mono ?_
    rintro e wK ⟨bK, aK, cK, rfl, oK⟩
    rw [HM2.out] at oK ⊢
    have HSK : Hid (_) := HSJ.out.on bK
    have HXK : Hid (_) := HXJ.out.kept bK
    have HYK : Hid (_) := HYJ.out.kept bK
    have HZK : Hid (_) := HZJ.out.kept bK
    have HCK : Hid (_) := HCJ.out.kept bK
    have HAK : Hid (_) := oK
    clear bK oK oJ HSJ HXJ HYJ HZJ HCJ
    obtain ⟨d0, d1, d2, d3, d4⟩ := HYK.out.cells
    obtain ⟨e0, e1, e2, e3, e4⟩ := HZK.out.cells
    go_wp2_with fail
    refine (sameQ_all 12 12 y aby nby cby aky nky cky abz cbz akz ckz wK HYK.out.row HYK.out.kids HZK.out.row HZK.out.kids).mono ?_
    rintro e wL ⟨rfl, bL⟩
    have HSL : Hid (_) := HSK.out.on bL
    have HXL : Hid (_) := HXK.out.kept bL
    have HYL : Hid (_) := HYK.out.kept bL
    have HCL : Hid (_) := HCK.out.kept bL
    have HAL : Hid (_) := HAK.out.kept bL
    clear bL HSK HXK HYK HZK HCK HAK d0 d1 d2 d3 d4 e0 e1 e2 e3 e4
    go_wp2_with fail
    refine (sameBytes_any aK a9 m m cK c9 cn cn wL HAL.out.toRow HCL.out.toRow).mono ?_
    rintro e wz ⟨rfl, rfl⟩
    rw [decide_eq_true (rfl : cn = cn)]
    clear HAL
    go_wp2_with fail
    refine (lives_any _).mono ?_
    rintro e wM ⟨rfl, bM⟩
    have HSM : Hid (_) := HSL.out.on bM
    have HXM : Hid (_) := HXL.out.kept bM
    have HYM : Hid (_) := HYL.out.kept bM
    have HCM : Hid (_) := HCL.out.kept bM
    clear bM HSL HXL HYL HCL
    by_cases hc1 : c1 = 0
    · obtain ⟨hcl, hxy⟩ := H5.out hc1
      have HCLL : Hid (cn = l) := hcl
      subst hc1
      subst hxy
      clear H5 H6 hcl
      obtain rfl : nbx = nby := HXM.out.row.len.symm.trans HYM.out.row.len
      obtain rfl : nkx = nky := HXM.out.kids.len.symm.trans HYM.out.kids.len
      go_wp2_with fail
      refine (sameBytes_any a9 ab m kb c9 cb cn l wM HCM.out.toRow HSM.out.b).mono ?_
      rintro e wz ⟨rfl, rfl⟩
      rw [decide_eq_true HCLL.out]
      obtain ⟨d0, d1, d2, d3, d4⟩ := HXM.out.cells
      obtain ⟨e0, e1, e2, e3, e4⟩ := HYM.out.cells
      go_wp2_with fail
      refine (sameQ_all 12 12 _ abx nbx cbx akx nkx ckx aby cby aky cky wM HXM.out.row HXM.out.kids HYM.out.row HYM.out.kids).mono ?_
      rintro e wN ⟨rfl, bN⟩
      have HSN := HSM.out.on bN
      go_wp2
      go_ret
      exact ⟨rfl, HSN.bel⟩
    · have z1 : (c1 == 0) = false := by simp [hc1]
      have z1n : (c1 != 0) = true := by simp [hc1]
      have HNE : Hid (¬ cn = l) := fun h => hc1 (H6.out h)
      clear hc1 H5 H6
      go_wp2_with fail
      refine (sameBytes_any a9 ab m kb c9 cb cn l wM HCM.out.toRow HSM.out.b).mono ?_
      rintro e wz ⟨rfl, rfl⟩
      rw [decide_eq_false HNE.out]
      go_wp2
      go_ret
      exact ⟨rfl, HSM.out.bel⟩

end Go.Proofs.YtjkkokjojaknkaaDoor
