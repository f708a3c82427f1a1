import Derived.Test.YtjkkokjojaknkaaDoorIB1
import Derived.Deep.RegionWith
namespace Go.Proofs.YtjkkokjojaknkaaDoor
open Go.RowKit

/-- What lies there once the item is drawn twice and its bytes are made. -/
structure IS (w W : World) (x : It) (l : List Int) (g3 g4 : Nat) (ab3 : Option Addr) (nb cb3 : Nat) (ak3 : Option Addr) (nk ck3 : Nat) (ab4 : Option Addr) (cb4 : Nat) (ak4 : Option Addr) (ck4 : Nat) (a0 : Option Addr) (m0 c0 : Nat) : Prop where
  bel : Below w.heap.size w W
  x3 : IX W g3 13 x ab3 nb cb3 ak3 nk ck3
  x4 : IX W g4 13 x ab4 nb cb4 ak4 nk ck4
  b : Row W a0 m0 l
  err : ErrT W
theorem IS.on {w W W' : World} {x : It} {l : List Int} {g3 g4 : Nat} {ab3 : Option Addr} {nb cb3 : Nat} {ak3 : Option Addr} {nk ck3 : Nat} {ab4 : Option Addr} {cb4 : Nat} {ak4 : Option Addr} {ck4 : Nat} {a0 : Option Addr} {m0 c0 : Nat} (h : IS w W x l g3 g4 ab3 nb cb3 ak3 nk ck3 ab4 cb4 ak4 ck4 a0 m0 c0) (hb : Below W.heap.size W W') : IS w W' x l g3 g4 ab3 nb cb3 ak3 nk ck3 ab4 cb4 ak4 ck4 a0 m0 c0 :=
  ⟨h.bel.trans (hb.mono h.bel.size), h.x3.kept hb, h.x4.kept hb, h.b.kept hb, h.err.kept hb⟩

set_option maxRecDepth 10000 in
set_option maxHeartbeats 40000000 in
theorem lawItemBack_walk (a : Option Addr) (n cap : Nat) (bs : List Int) (w : World) (hE : ErrT w) (hrow : Row w a n bs) (hn63 : n ≤ 9223372036854775807) :
    Calls Tryd.prog 3 #[.slice a n cap] w fun e w' => e = .returned (.bool true) ∧ Below w.heap.size w w' := by
  obtain ⟨i0, hi, hz0, hz1, hz2⟩ := info_parts Tryd.info5
  have HI5 : Hid (_ ∧ _ ∧ _ ∧ _) := ⟨hi, hz0, hz1, hz2⟩
  have HR : Hid (Row w a n bs) := hrow
  have HE : Hid (ErrT w) := hE
  have hw0 : 0 < w.heap.size := hE.1
  clear hrow hE hi hz0 hz1 hz2
  by_cases hbig : 1048576 < n
  · have hd : decide (1048576 < (n : Int)) = true := by simp; omega
    go_enter Tryd.func3, Tryd.ntmps3
    go_wp2_with (go_at_call 8; refine (big_anyI _ _ _ _ (by omega)).mono ?_; rintro e w' ⟨rfl, rfl⟩; rw [hd])
    go_ret
    exact ⟨rfl, Below.refl _ _⟩
  have hd : decide (1048576 < (n : Int)) = false := by simp; omega
  obtain ⟨x, hx⟩ : ∃ x, x = dItem bs := ⟨_, rfl⟩
  have hwt := dItem_wt bs
  have HD : Hid (∀ W : World, Row W a n bs → Calls Tryd.prog 9 #[.slice a n cap] W fun e w' => ∃ ab nb cb ak nk ck, e = .returned (itv x ab nb cb ak nk ck) ∧ Row w' ab nb x.body ∧ (ab = none → cb = 0) ∧ nb ≤ 20010 ∧ Kids 13 w' ak nk x.kids ∧ Below W.heap.size W w') := by
    intro W hW
    rw [hx]
    exact drawItemOk_any a n cap bs W hW (by omega)
  rw [← hx] at hwt
  have HW : Hid (wtS 13 x.kids ≤ 1048576) := by have := hwt.2 13; show _ ≤ _; omega
  clear hx hwt
  go_enter Tryd.func3, Tryd.ntmps3
  go_wp2_with (go_at_call 8; refine (big_anyI _ _ _ _ (by omega)).mono ?_; rintro e w' ⟨rfl, rfl⟩; rw [hd])
  refine (HD.out _ HR.out).mono ?_
  rintro e w1 ⟨ab3, nb, cb3, ak3, nk, ck3, rfl, r1, n1, l1, k1, b1⟩
  have X1 := ix_new (ck := ck3) r1 n1 (by omega) k1 HW.out
  have hal : Below w1.heap.size w1 (w1.alloc (.cells #[.int .i64 x.cls, .int .i64 x.tag, .bool x.cons, .slice ab3 nb cb3, .slice ak3 nk ck3] 26)) := (Below.refl _ _).alloc (Nat.le_refl _) _
  have B1 : Below w.heap.size w (w1.alloc (.cells #[.int .i64 x.cls, .int .i64 x.tag, .bool x.cons, .slice ab3 nb cb3, .slice ak3 nk ck3] 26)) := b1.trans (hal.mono b1.size)
  clear r1 n1 l1 k1 b1 hal
  unfold itv
  go_wp2_with fail
  obtain ⟨W1, hW1⟩ : ∃ W, W = w1.alloc (.cells #[.int .i64 x.cls, .int .i64 x.tag, .bool x.cons, .slice ab3 nb cb3, .slice ak3 nk ck3] 26) := ⟨_, rfl⟩
  rw [← hW1] at X1 B1 ⊢
  obtain ⟨g3, hg3⟩ : ∃ g, g = w1.heap.size := ⟨_, rfl⟩
  rw [← hg3] at X1 ⊢
  clear hW1 hg3
  refine (HD.out _ (HR.out.kept B1)).mono ?_
  rintro e w2 ⟨ab4, nb2, cb4, ak4, nk2, ck4, rfl, r2, n2, l2, k2, b2⟩
  obtain rfl : nb = nb2 := X1.row.len.symm.trans r2.len
  obtain rfl : nk = nk2 := X1.kids.len.symm.trans k2.len
  have X2 := X1.kept b2
  have hal : Below w2.heap.size w2 (w2.alloc (.cells #[.int .i64 x.cls, .int .i64 x.tag, .bool x.cons, .slice ab4 nb cb4, .slice ak4 nk ck4] 26)) := (Below.refl _ _).alloc (Nat.le_refl _) _
  have X3 := X2.kept hal
  have Y3 := ix_new (ck := ck4) r2 n2 (by omega) k2 HW.out
  have B2 := B1.trans (b2.mono B1.size)
  have B3 := B2.trans (hal.mono B2.size)
  clear r2 n2 l2 k2 b2 hal X1 X2 B1 B2 HD
  unfold itv
  obtain ⟨c30, c31, c32, c33, c34⟩ := X3.cells
  go_wp2_with fail
  obtain ⟨W3, hW3⟩ : ∃ W, W = w2.alloc (.cells #[.int .i64 x.cls, .int .i64 x.tag, .bool x.cons, .slice ab4 nb cb4, .slice ak4 nk ck4] 26) := ⟨_, rfl⟩
  rw [← hW3] at X3 Y3 B3 c30 c31 c32 c33 c34 ⊢
  obtain ⟨g4, hg4⟩ : ∃ g, g = w2.heap.size := ⟨_, rfl⟩
  rw [← hg4] at Y3 ⊢
  clear hW3 hg4 c30 c31 c32 c33 c34
  refine (implItemBytes_any 13 x ab3 nb cb3 ak3 nk ck3 W3 X3.row X3.nil (by have := X3.nb3; omega) X3.kids).mono ?_
  rintro e w4 ⟨ha, b4⟩
  cases ho : enc 12 x with
  | none =>
    rw [ho] at ha
    obtain rfl : e = .returned (.tuple #[.slice none 0 0, .bool false]) := by
      rcases ha with ⟨_, _, _, _, _, h, _⟩ | ⟨rfl, _⟩
      · exact absurd h.out (by simp)
      · rfl
    have X4 : Hid (_) := X3.kept b4
    have Y4 : Hid (_) := Y3.kept b4
    have B4 := B3.trans (b4.mono B3.size)
    clear b4 X3 Y3 B3 ha
    have HO : Hid (enc 12 x = none) := ho
    clear ho
    obtain ⟨c30, c31, c32, c33, c34⟩ := X4.out.cells
    obtain ⟨c40, c41, c42, c43, c44⟩ := Y4.out.cells
    go_wp2_with fail
    refine (specItemOk_any 13 x ab4 nb cb4 ak4 nk ck4 w4 Y4.out.row Y4.out.nb3 Y4.out.kids Y4.out.wt).mono ?_
    rintro e w5 ⟨rfl, b5⟩
    rw [HO.out]
    have X5 : Hid (_) := X4.out.kept b5
    have B5 := B4.trans (b5.mono B4.size)
    clear b5 c30 c31 c32 c33 c34 c40 c41 c42 c43 c44
    obtain ⟨c30, c31, c32, c33, c34⟩ := X5.out.cells
    go_wp2_with fail
    refine (implItemOk_any 13 x ab3 nb cb3 ak3 nk ck3 w5 X5.out.row X5.out.nil (by have := X5.out.nb3; omega) X5.out.kids).mono ?_
    rintro e w6 ⟨rfl, b6⟩
    rw [HO.out]
    have B6 := B5.trans (b6.mono B5.size)
    clear b6 c30 c31 c32 c33 c34
    go_wp2_with fail
    refine (lives_any _).mono ?_
    rintro e w7 ⟨rfl, b7⟩
    have B7 := B6.trans (b7.mono B6.size)
    go_wp2
    go_ret
    exact ⟨rfl, B7⟩
  | some l =>
    rw [ho] at ha
    obtain ⟨a0, m0, c0, rfl, ow⟩ : ∃ a0 m0 c0, e = .returned (.tuple #[.slice a0 m0 c0, .bool true]) ∧ Own W3.heap.size w4 a0 m0 c0 l := by
      rcases ha with ⟨a0, m0, c0, l', rfl, h, ow⟩ | ⟨_, h⟩
      · obtain rfl := Option.some.inj h.out
        exact ⟨a0, m0, c0, rfl, ow⟩
      · exact absurd h.out (by simp)
    have HO : Hid (enc 12 x = some l) := ho
    have hsome : (enc 12 x).isSome = true := by rw [ho]; rfl
    have hpos := enc_pos ho
    have hl20 := enc_len _ _ _ ho
    have hlm : l.length = m0 := ow.length
    have hcm : m0 ≤ c0 := (own_capI ow)
    obtain ⟨gb, rfl⟩ : ∃ gb, a0 = some ⟨gb, 0, none⟩ := ow.shape (by omega)
    have S4 : IS w w4 x l g3 g4 ab3 nb cb3 ak3 nk ck3 ab4 cb4 ak4 ck4 (some ⟨gb, 0, none⟩) m0 c0 := ⟨B3.trans (b4.mono B3.size), X3.kept b4, Y3.kept b4, ow.toRow, HE.out.below hw0 (B3.trans (b4.mono B3.size))⟩
    have HS4 : Hid (IS w w4 x l g3 g4 ab3 nb cb3 ak3 nk ck3 ab4 cb4 ak4 ck4 (some ⟨gb, 0, none⟩) m0 c0) := S4
    have HSM : Hid ((enc 12 x).isSome = true) := hsome
    have HLM : Hid (l.length = m0) := hlm
    clear ho hsome ha ow b4 X3 Y3 B3 S4 hlm
    have hm20 : m0 ≤ 20000 := by have := HLM.out; omega
    have hm1 : 1 ≤ m0 := by have := HLM.out; omega
    clear hl20 hpos
    have HR4 : Hid (Row w a n bs) := HR.out
    obtain ⟨c0, c1, c2, c3, c4⟩ := HS4.out.x3.cells
    obtain ⟨d0, d1, d2, d3, d4⟩ := HS4.out.x4.cells
    go_wp2_with fail
    refine (specItemOk_any 13 x ab4 nb cb4 ak4 nk ck4 w4 HS4.out.x4.row HS4.out.x4.nb3 HS4.out.x4.kids HS4.out.x4.wt).mono ?_
    rintro e w5 ⟨rfl, b5⟩
    rw [HSM.out]
    have HS5 : Hid (_) := HS4.out.on b5
    clear c0 c1 c2 c3 c4 d0 d1 d2 d3 d4
    clear b5 HS4
    obtain ⟨c0, c1, c2, c3, c4⟩ := HS5.out.x3.cells
    go_wp2_with fail
    refine (implItemOk_any 13 x ab3 nb cb3 ak3 nk ck3 w5 HS5.out.x3.row HS5.out.x3.nil (by have := HS5.out.x3.nb3; omega) HS5.out.x3.kids).mono ?_
    rintro e w6 ⟨rfl, b6⟩
    rw [HSM.out]
    have HS6 : Hid (_) := HS5.out.on b6
    clear c0 c1 c2 c3 c4
    clear b6 HS5
    go_wp2_with fail
    refine (copied_any (some ⟨gb, 0, none⟩) m0 c0 l w6 HS6.out.b (by intro h; cases h) (by omega)).mono ?_
    rintro e w7 ⟨a7, c7, rfl, o7, b7⟩
    have HS7 : Hid (_) := HS6.out.on b7
    clear b7 HS6
    go_wp2_with fail
    refine (read_back a7 m0 c7 false HO.out w7 HS7.out.err o7.toRow (own_capI o7) (by omega)).mono ?_
    rintro e w8 ⟨b8, aby, nby, cby, aky, nky, cky, rfl, ry, ny, ly, ky, wy⟩
    have X9 := ix_new (ck := cky) ry ny ly ky wy
    have hal : Below w8.heap.size w8 (w8.alloc (.cells #[.int .i64 x.cls, .int .i64 x.tag, .bool x.cons, .slice aby nby cby, .slice aky nky cky] 26)) := (Below.refl _ _).alloc (Nat.le_refl _) _
    have HS9 := (HS7.out.on b8).on hal
    obtain rfl : nb = nby := HS7.out.x3.row.len.symm.trans ry.len
    obtain rfl : nk = nky := HS7.out.x3.kids.len.symm.trans ky.len
    clear b8 hal o7 HS7 ry ny ly ky wy
    unfold itv
    go_wp2_with fail
    obtain ⟨W9, hW9⟩ : ∃ W, W = w8.alloc (.cells #[.int .i64 x.cls, .int .i64 x.tag, .bool x.cons, .slice aby nb cby, .slice aky nk cky] 26) := ⟨_, rfl⟩
    rw [← hW9] at X9 HS9 ⊢
    obtain ⟨g7, hg7⟩ : ∃ g, g = w8.heap.size := ⟨_, rfl⟩
    rw [← hg7] at X9 ⊢
    have HX9 : Hid (_) := X9
    have HS9' : Hid (IS w W9 x l g3 g4 ab3 nb cb3 ak3 nk ck3 ab4 cb4 ak4 ck4 (some ⟨gb, 0, none⟩) m0 c0) := HS9
    clear hW9 hg7 X9 HS9
    refine (copied_any (some ⟨gb, 0, none⟩) m0 c0 l W9 HS9'.out.b (by intro h; cases h) (by omega)).mono ?_
    rintro e wA ⟨aA, cA, rfl, oA, bA⟩
    have HSA : Hid (_) := HS9'.out.on bA
    have HXA : Hid (_) := HX9.out.kept bA
    clear bA HS9' HX9
    go_wp2_with fail
    refine (read_back aA m0 cA true HO.out wA HSA.out.err oA.toRow (own_capI oA) (by omega)).mono ?_
    rintro e wB ⟨bB, abz, nbz, cbz, akz, nkz, ckz, rfl, rz, nz, lz, kz, wz⟩
    have ZB := ix_new (ck := ckz) rz nz lz kz wz
    have hal : Below wB.heap.size wB (wB.alloc (.cells #[.int .i64 x.cls, .int .i64 x.tag, .bool x.cons, .slice abz nbz cbz, .slice akz nkz ckz] 26)) := (Below.refl _ _).alloc (Nat.le_refl _) _
    have HSB := (HSA.out.on bB).on hal
    have HXB := (HXA.out.kept bB).kept hal
    obtain rfl : nb = nbz := HSA.out.x3.row.len.symm.trans rz.len
    obtain rfl : nk = nkz := HSA.out.x3.kids.len.symm.trans kz.len
    clear bB hal oA HSA HXA rz nz lz kz wz
    unfold itv
    go_wp2_with fail
    obtain ⟨WC, hWC⟩ : ∃ W, W = wB.alloc (.cells #[.int .i64 x.cls, .int .i64 x.tag, .bool x.cons, .slice abz nb cbz, .slice akz nk ckz] 26) := ⟨_, rfl⟩
    rw [← hWC] at ZB HXB HSB ⊢
    obtain ⟨gA, hgA⟩ : ∃ g, g = wB.heap.size := ⟨_, rfl⟩
    rw [← hgA] at ZB ⊢
    have HZC : Hid (_) := ZB
    have HXC : Hid (IX WC g7 12 x aby nb cby aky nk cky) := HXB
    have HSC : Hid (IS w WC x l g3 g4 ab3 nb cb3 ak3 nk ck3 ab4 cb4 ak4 ck4 (some ⟨gb, 0, none⟩) m0 c0) := HSB
    clear hWC hgA ZB HXB HSB
    refine (copied_any (some ⟨gb, 0, none⟩) m0 c0 l WC HSC.out.b (by intro h; cases h) (by omega)).mono ?_
    rintro e wD ⟨aD, cD, rfl, oD, bD⟩
    have HSD : Hid (_) := HSC.out.on bD
    have HXD : Hid (_) := HXC.out.kept bD
    have HZD : Hid (_) := HZC.out.kept bD
    clear bD HSC HXC HZC
    go_wp2_with fail
    refine (canon_back aD m0 cD HO.out wD HSD.out.err oD.toRow (own_capI oD) (by omega)).mono ?_
    rintro e wE ⟨bE, aE, cE, rfl, oE⟩
    rw [HLM.out] at oE ⊢
    have HSE : Hid (_) := HSD.out.on bE
    have HXE : Hid (_) := HXD.out.kept bE
    have HZE : Hid (_) := HZD.out.kept bE
    have HCE : Hid (_) := oE
    clear bE oE oD HSD HXD HZD
    obtain ⟨d0, d1, d2, d3, d4⟩ := HSE.out.x4.cells
    obtain ⟨e0, e1, e2, e3, e4⟩ := HXE.out.cells
    obtain ⟨f0, f1, f2, f3, f4⟩ := HZE.out.cells
    go_wp2_with fail
    refine (sameQ_all 12 13 x aby nb cby aky nk cky ab4 cb4 ak4 ck4 wE HXE.out.row HXE.out.kids HSE.out.x4.row HSE.out.x4.kids).mono ?_
    rintro e wF ⟨rfl, bF⟩
    have HSF : Hid (_) := HSE.out.on bF
    have HXF : Hid (_) := HXE.out.kept bF
    have HZF : Hid (_) := HZE.out.kept bF
    have HCF : Hid (_) := HCE.out.kept bF
    clear bF HSE HXE HZE HCE
    clear d0 d1 d2 d3 d4 e0 e1 e2 e3 e4 f0 f1 f2 f3 f4
    obtain ⟨d0, d1, d2, d3, d4⟩ := HSF.out.x4.cells
    obtain ⟨f0, f1, f2, f3, f4⟩ := HZF.out.cells
    go_wp2_with fail
    refine (sameQ_all 12 13 x abz nb cbz akz nk ckz ab4 cb4 ak4 ck4 wF HZF.out.row HZF.out.kids HSF.out.x4.row HSF.out.x4.kids).mono ?_
    rintro e wG ⟨rfl, bG⟩
    have HSG : Hid (_) := HSF.out.on bG
    have HXG : Hid (_) := HXF.out.kept bG
    have HCG := HCF.out.kept bG
    clear bG HSF HXF HZF HCF
    clear d0 d1 d2 d3 d4 f0 f1 f2 f3 f4
    go_wp2_with fail
    refine (sameBytes_any aE (some ⟨gb, 0, none⟩) m0 m0 cE c0 l l wG HCG.toRow HSG.out.b).mono ?_
    rintro e wz ⟨rfl, rfl⟩
    rw [decide_eq_true (rfl : l = l)]
    clear HCG
    go_wp2_with fail
    go_loopw [16] (fun i wr => ∃ k : Nat, k ≤ 60 ∧ i = .int .i64 k ∧ Below wG.heap.size wG wr) (fun i _ => 100 - (intOf i).toNat)
    case atStart => exact ⟨0, Nat.zero_le _, rfl, Below.refl _ _⟩
    case round =>
      obtain ⟨k, hk, rfl, hbr⟩ := hrel
      have HSr : Hid (_) := HSG.out.on hbr
      have hsr := hbr.size
      go_upto_region 16 with fail
      go_cut [123] (fun c wx => ∃ b : Bool, c = .bool b ∧ Hid (b = decide (k < m0 ∧ k < 60) ∧ wr = wx))
      case first =>
        by_cases h1 : (k : Int) < (m0 : Int)
        · by_cases h2 : (k : Int) < 60
          · go_wp2_with fail
            go_meet
            exact ⟨true, rfl, ⟨(decide_eq_true (by omega)).symm, rfl⟩⟩
          · go_wp2_with fail
            go_meet
            exact ⟨false, rfl, ⟨(decide_eq_false (by omega)).symm, rfl⟩⟩
        · go_wp2_with fail
          go_meet
          exact ⟨false, rfl, ⟨(decide_eq_false (by omega)).symm, rfl⟩⟩
      case rest =>
      obtain ⟨bb, rfl, hbb⟩ := hcut
      obtain ⟨hb1, hb2⟩ := hbb.out
      subst hb2
      clear hbb
      by_cases hkn : k < m0 ∧ k < 60
      · rw [decide_eq_true hkn] at hb1
        subst hb1
        obtain ⟨hk1, hk2⟩ := hkn
        have hki1 : (k : Int) < (m0 : Int) := by omega
        have hki2 : (k : Int) < 60 := by omega
        have HK : Hid (Row wr (some ⟨gb, 0, none⟩) k (l.take k)) := HSr.out.b.take k (by omega)
        go_wp2_with fail
        refine (copied_any (some ⟨gb, 0, none⟩) k _ (l.take k) wr HK.out (by intro h; cases h) (by omega)).mono ?_
        rintro e wH ⟨aH, cH, rfl, oH, bH⟩
        have HSH : Hid (_) := HSr.out.on bH
        have hbH := hbr.trans (bH.mono hsr)
        clear bH HSr HK
        go_wp2_with fail
        refine (read_short aH k cH HO.out (by have := HLM.out; omega) wH HSH.out.err oH.toRow (own_capI oH) (by omega)).mono ?_
        rintro e wI ⟨bI, abs, nbs, cbs, aks, nks, cks, rfl, _⟩
        have hbI := hbH.trans (bI.mono hbH.size)
        have hal : Below wG.heap.size wG (wI.alloc (.cells #[.int .i64 zeroIt.cls, .int .i64 zeroIt.tag, .bool zeroIt.cons, .slice abs nbs cbs, .slice aks nks cks] 26)) := hbI.alloc hbI.size _
        have t1 : ((k : Int) != (k : Int)) = false := by simp
        have t2 : ((1 : Int) != 1) = false := by simp
        clear bI oH HSH
        unfold itv
        go_wp2
        go_roundw
        case rel => exact ⟨k + 1, by omega, by go_num, hal⟩
        case measure => simp [intOf]; omega
      · rw [decide_eq_false hkn] at hb1
        subst hb1
        have HXr : Hid (_) := HXG.out.kept hbr
        obtain ⟨W1, hW1⟩ : ∃ W1, W1 = wr := ⟨_, rfl⟩
        rw [← hW1] at HSr HXr ⊢
        clear HSG HXG hbr hsr hkn hk hW1
        go_wp2_with fail
        refine (copied_any (some ⟨gb, 0, none⟩) m0 c0 l W1 HSr.out.b (by intro h; cases h) (by omega)).mono ?_
        rintro e wH ⟨aH, cH, rfl, oH, bH⟩
        have hal : Below wH.heap.size wH (wH.alloc (.cells #[.int .u8 5] 5)) := (Below.refl _ _).alloc (Nat.le_refl _) _
        have oH2 := oH.kept hal
        have r5 := own_new wH (Nat.le_refl _) 5 (by decide)
        have HO2 : Hid (_ ∧ _) := ⟨oH2, r5⟩
        have bH2 := bH.trans (hal.mono bH.size)
        obtain ⟨hi, hz0, hz1, hz2⟩ := HI5.out
        clear oH oH2 r5 hal bH
        go_wp2_with (at_builtin; refine wpList_append_row _ rfl (.tmp 144) (.tmp 145) 22 rfl W1.heap.size i0 Tryd.underlying22 hi hz0 hz1 hz2 _ _ _ rfl HO2.out.1.row (some ⟨wH.heap.size, 0, none⟩) 1 1 [5] rfl HO2.out.2 (by intro h; cases h) (by omega) (by have := bH2.size; omega) ?_; intro v1 w1 hv1 hg1)
        obtain ⟨aI, cI, rfl, oI⟩ := own_appended (xs := l) (ys := [5]) hv1 HO2.out.1.byte HO2.out.2.byte
        have bI := below_appended bH2 bH2.size HO2.out.1.row hg1
        have HSI : Hid (_) := HSr.out.on bI
        have HXI : Hid (_) := HXr.out.kept bI
        clear hv1 hg1 bI bH2 HO2 HSr HXr hi hz0 hz1 hz2
        go_wp2_with fail
        refine (read_more aI (m0 + 1) cI (m := [5]) HO.out (by decide) w1 HSI.out.err oI.toRow (own_capI oI) (by omega)).mono ?_
        rintro e wJ ⟨yJ, cJ, pJ, ⟨bJ, abs, nbs, cbs, aks, nks, cks, rfl, _⟩, himp⟩
        have hal : Below wJ.heap.size wJ (wJ.alloc (.cells #[.int .i64 yJ.cls, .int .i64 yJ.tag, .bool yJ.cons, .slice abs nbs cbs, .slice aks nks cks] 26)) := (Below.refl _ _).alloc (Nat.le_refl _) _
        have HSK : Hid (_) := (HSI.out.on bJ).on hal
        have HXK : Hid (_) := (HXI.out.kept bJ).kept hal
        have HIMP : Hid (_) := himp
        clear himp oI bJ hal HSI HXI
        unfold itv
        go_upto_region 22 with fail
        obtain ⟨W2, hW2⟩ : ∃ W, W = wJ.alloc (.cells #[.int .i64 yJ.cls, .int .i64 yJ.tag, .bool yJ.cons, .slice abs nbs cbs, .slice aks nks cks] 26) := ⟨_, rfl⟩
        rw [← hW2] at HSK HXK ⊢
        clear hW2
        go_cut [163] (fun c wx => ∃ b : Bool, c = .bool b ∧ Hid (b = false ∧ W2 = wx))
        case first =>
          by_cases h20 : (m0 : Int) < 20000
          · obtain ⟨rfl, hpJ⟩ := HIMP.out (by rw [HLM.out]; show m0 + 1 ≤ 20000; omega)
            rw [HLM.out] at hpJ
            subst hpJ
            have t1 : ((6 : Int) != 6) = false := by simp
            have t2 : ((m0 : Int) != (m0 : Int)) = false := by simp
            go_wp2_with fail
            go_meet
            exact ⟨false, rfl, ⟨rfl, rfl⟩⟩
          · go_wp2_with fail
            go_meet
            exact ⟨false, rfl, ⟨rfl, rfl⟩⟩
        case rest =>
        obtain ⟨bb, rfl, hbb⟩ := hcut
        obtain ⟨hb1, hb2⟩ := hbb.out
        subst hb1
        subst hb2
        clear hbb HIMP
        obtain ⟨d0, d1, d2, d3, d4⟩ := HSK.out.x4.cells
        go_wp2_with fail
        go_loopw [23] (fun i wr => ∃ k : Nat, k ≤ nk ∧ i = .int .i64 k ∧ Below W2.heap.size W2 wr) (fun i _ => nk - (intOf i).toNat)
        case atStart => exact ⟨0, Nat.zero_le _, rfl, Below.refl _ _⟩
        case round =>
          obtain ⟨k, hk, rfl, hbr⟩ := hrel
          have HSr : Hid (_) := HSK.out.on hbr
          have HXr : Hid (_) := HXK.out.kept hbr
          have hsr := hbr.size
          clear d0 d1 d2 d3 d4
          obtain ⟨d0, d1, d2, d3, d4⟩ := HSr.out.x4.cells
          obtain ⟨e0, e1, e2, e3, e4⟩ := HXr.out.cells
          have HKL : Hid (x.kids.length = nk) := HSr.out.x4.kids.len
          have hnkm : nk ≤ 9223372036854775807 := HSr.out.x4.kids.2.1
          by_cases hkn : k < nk
          · have hkni : (k : Int) < (nk : Int) := by omega
            have hal : Below wr.heap.size wr (wr.alloc (.cells #[.int .i64 (k : Int)] 2)) := (Below.refl _ _).alloc (Nat.le_refl _) _
            have R1 : Hid (_) := row64_one wr (k : Int)
            have HWK : Hid (walkL x [(k : Int)] = some (x.kids.getD k default)) := walkL_one HSM.out k (by rw [HKL.out]; exact hkn)
            obtain ⟨y, hy⟩ : ∃ y, y = x.kids.getD k default := ⟨_, rfl⟩
            have HY : Hid (y = x.kids.getD k default) := hy
            rw [← hy] at HWK
            have HSL : Hid (_) := HSr.out.on hal
            have HXL : Hid (_) := HXr.out.kept hal
            have hbL := hbr.trans (hal.mono hsr)
            clear hy hal HSr HXr
            go_wp2_with fail
            refine (walk_some 12 x y aby nb cby aky nk cky (some ⟨wr.heap.size, 0, none⟩) 1 1 [(k : Int)] _ HXL.out.row HXL.out.nil HXL.out.nb3 HXL.out.kids HXL.out.wt R1.out (by decide) HWK.out).mono ?_
            rintro e wM ⟨bM, dM, abm, nbm, cbm, akm, nkm, ckm, rfl, rm, nm, lm, km, wm⟩
            have XM := ix_new (ck := ckm) rm nm lm km wm
            have hal : Below wM.heap.size wM (wM.alloc (.cells #[.int .i64 y.cls, .int .i64 y.tag, .bool y.cons, .slice abm nbm cbm, .slice akm nkm ckm] 26)) := (Below.refl _ _).alloc (Nat.le_refl _) _
            have HSM2 := (HSL.out.on bM).on hal
            have hbM := (hbL.trans (bM.mono hbL.size)).trans (hal.mono (hbL.trans (bM.mono hbL.size)).size)
            clear rm nm lm km wm bM hal hbL HSL HXL R1 HWK d0 d1 d2 d3 d4 e0 e1 e2 e3 e4
            unfold itv
            go_upto_region 28 with fail
            obtain ⟨W4, hW4⟩ : ∃ W, W = wM.alloc (.cells #[.int .i64 y.cls, .int .i64 y.tag, .bool y.cons, .slice abm nbm cbm, .slice akm nkm ckm] 26) := ⟨_, rfl⟩
            rw [← hW4] at XM HSM2 hbM ⊢
            obtain ⟨gM, hgM⟩ : ∃ g, g = wM.heap.size := ⟨_, rfl⟩
            rw [← hgM] at XM ⊢
            have HXM : Hid (_) := XM
            have HS4 : Hid (IS w W4 x l g3 g4 ab3 nb cb3 ak3 nk ck3 ab4 cb4 ak4 ck4 (some ⟨gb, 0, none⟩) m0 c0) := HSM2
            clear hW4 hgM XM HSM2
            obtain ⟨b2, off2, rfl, hl2, ab5, nb5, cb5, ak5, nk5, ck5, f0, f1, f2, f3, f4, hr5, hn5, hm5, hk5⟩ := HS4.out.x4.kids.2.2 k hkn
            rw [← HY.out] at f0 f1 f2 hr5 hk5
            obtain rfl : nbm = nb5 := HXM.out.row.len.symm.trans hr5.len
            obtain rfl : nkm = nk5 := HXM.out.kids.len.symm.trans hk5.len
            obtain ⟨d0, d1, d2, d3, d4⟩ := HS4.out.x4.cells
            obtain ⟨e0, e1, e2, e3, e4⟩ := HXM.out.cells
            have hbx : Below W4.heap.size W4 W4.drew := (Below.refl _ _).drew
            have R1 : Hid (_) := HXM.out.row.kept hbx
            have K1 : Hid (_) := HXM.out.kids.kept hbx
            have R2 : Hid (_) := hr5.kept hbx
            have K2 : Hid (_) := hk5.kept hbx
            have HB4 : Hid (_) := hbM
            clear hr5 hk5 d0 d1 d2 d3 hbM hbx
            go_cut [189] (fun c wx => ∃ b : Bool, c = .bool b ∧ Hid (b = false ∧ Below W2.heap.size W2 wx))
            case first =>
              go_region_with (go_at_call 17; refine (sameQ_all dM 12 y abm nbm cbm akm nkm ckm ab5 cb5 ak5 ck5 _ R1.out K1.out R2.out K2.out).mono ?_; rintro e w2 ⟨rfl, hb2⟩)
              all_goals
                go_wp2_with fail
                go_meet
                exact ⟨false, rfl, ⟨rfl, HB4.out.drew.trans (hb2.mono (by have := HB4.out.size; simpa using this))⟩⟩
            case rest =>
            obtain ⟨bb, rfl, hbb⟩ := hcut
            obtain ⟨hb1, hb2⟩ := hbb.out
            subst hb1
            clear hbb
            go_wp2
            go_roundw
            case rel => exact ⟨k + 1, by omega, by go_num, hb2⟩
            case measure => simp [intOf]; omega
          · obtain rfl : nk = k := by omega
            have hal : Below wr.heap.size wr (wr.alloc (.cells #[.int .i64 (nk : Int)] 2)) := (Below.refl _ _).alloc (Nat.le_refl _) _
            have R1 : Hid (_) := row64_one wr (nk : Int)
            have HWN : Hid (walkL x [(nk : Int)] = none) := by show _ = _; rw [← HKL.out]; exact walkL_out HSM.out
            have HSL : Hid (_) := HSr.out.on hal
            have HXL : Hid (_) := HXr.out.kept hal
            clear hal HSr HXr HSK HXK hbr hsr hk hkn
            go_wp2_with fail
            refine (walk_none 12 x aby nb cby aky nk cky (some ⟨wr.heap.size, 0, none⟩) 1 1 [(nk : Int)] _ HXL.out.row HXL.out.nil HXL.out.nb3 HXL.out.kids HXL.out.wt R1.out (by decide) HWN.out).mono ?_
            rintro e wM ⟨bM, yM, abm, nbm, cbm, akm, nkm, ckm, rfl⟩
            have hal : Below wM.heap.size wM (wM.alloc (.cells #[.int .i64 yM.cls, .int .i64 yM.tag, .bool yM.cons, .slice abm nbm cbm, .slice akm nkm ckm] 26)) := (Below.refl _ _).alloc (Nat.le_refl _) _
            have HSM2 : Hid (_) := (HSL.out.on bM).on hal
            have HXM : Hid (_) := (HXL.out.kept bM).kept hal
            clear bM hal HSL HXL R1 HWN d0 d1 d2 d3 d4 e0 e1 e2 e3 e4
            unfold itv
            go_upto_region 33 with fail
            obtain ⟨W5, hW5⟩ : ∃ W, W = wM.alloc (.cells #[.int .i64 yM.cls, .int .i64 yM.tag, .bool yM.cons, .slice abm nbm cbm, .slice akm nkm ckm] 26) := ⟨_, rfl⟩
            rw [← hW5] at HSM2 HXM ⊢
            clear hW5
            have R1 : Hid (Row64 W5 none 0 []) := ⟨rfl, fun k hk => by omega⟩
            have HWA : Hid (walkL x [] = some x) := walkL_all HSM.out
            obtain ⟨e0, e1, e2, e3, e4⟩ := HXM.out.cells
            go_wp2_with fail
            refine (walk_some 12 x x aby nb cby aky nk cky none 0 0 [] _ HXM.out.row HXM.out.nil HXM.out.nb3 HXM.out.kids HXM.out.wt R1.out (by decide) HWA.out).mono ?_
            rintro e wN ⟨bN, dN, abn, nbn, cbn, akn, nkn, ckn, rfl, rm, nm, lm, km, wm⟩
            have XN := ix_new (ck := ckn) rm nm lm km wm
            obtain rfl : nb = nbn := HXM.out.row.len.symm.trans rm.len
            obtain rfl : nk = nkn := HXM.out.kids.len.symm.trans km.len
            have hal : Below wN.heap.size wN (wN.alloc (.cells #[.int .i64 x.cls, .int .i64 x.tag, .bool x.cons, .slice abn nb cbn, .slice akn nk ckn] 26)) := (Below.refl _ _).alloc (Nat.le_refl _) _
            have HSN := (HSM2.out.on bN).on hal
            clear rm nm lm km wm bN hal HSM2 HXM R1 HWA e0 e1 e2 e3 e4
            unfold itv
            go_upto_region 34 with fail
            obtain ⟨W6, hW6⟩ : ∃ W, W = wN.alloc (.cells #[.int .i64 x.cls, .int .i64 x.tag, .bool x.cons, .slice abn nb cbn, .slice akn nk ckn] 26) := ⟨_, rfl⟩
            rw [← hW6] at HSN XN ⊢
            obtain ⟨gN, hgN⟩ : ∃ g, g = wN.heap.size := ⟨_, rfl⟩
            rw [← hgN] at XN ⊢
            clear hW6 hgN
            have HXN : Hid (_) := XN
            have HS6 : Hid (IS w W6 x l g3 g4 ab3 nb cb3 ak3 nk ck3 ab4 cb4 ak4 ck4 (some ⟨gb, 0, none⟩) m0 c0) := HSN
            clear XN HSN
            go_wp2_with fail
            refine (lives_any _).mono ?_
            rintro e wP ⟨rfl, bP⟩
            have HSP : Hid (_) := HS6.out.on bP
            have HXP : Hid (_) := HXN.out.kept bP
            clear HS6 HXN bP
            obtain ⟨d0, d1, d2, d3, d4⟩ := HSP.out.x4.cells
            obtain ⟨e0, e1, e2, e3, e4⟩ := HXP.out.cells
            go_wp2_with fail
            refine (sameQ_all dN 13 x abn nb cbn akn nk ckn ab4 cb4 ak4 ck4 wP HXP.out.row HXP.out.kids HSP.out.x4.row HSP.out.x4.kids).mono ?_
            rintro e wQ ⟨rfl, bQ⟩
            have hfin := (HSP.out.on bQ).bel
            go_wp2
            go_ret
            exact ⟨rfl, hfin⟩

end Go.Proofs.YtjkkokjojaknkaaDoor
