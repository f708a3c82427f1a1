import Derived.Test.YtpnaopmpiobemaaB5
import Derived.Test.YtpnaopmpiobemaaM1
import Derived.Deep.RegionHeldLaw
namespace Go.Proofs.Ytpnaopmpiobemaa
open Go.RowKit

set_option maxRecDepth 10000 in
set_option maxHeartbeats 8000000 in
theorem cascadeBytes_law (a : Option Addr) (n c : Nat) (bss : List (List Int)) (w : World) (h : Rows2 w a n bss) (hn : n ≤ 9223372036854775807) (hp : ∀ k, k < n → (bss.getD k []).length ≤ 9223372036854775807) :
    Calls Try.prog 5 #[.agg #[.slice a n c]] w fun e w' => e = .returned (.bool true) ∧ Below w.heap.size w w' := by
  have HL : Hid (bss.length = n) := h.len
  have HP : Hid (∀ k, k < n → (bss.getD k []).length ≤ 9223372036854775807) := hp
  obtain ⟨wb, hwb⟩ : ∃ wb, wb = w.alloc (.cells #[.slice a n c] 35) := ⟨_, rfl⟩
  have hbb : Below w.heap.size w wb := by rw [hwb]; exact (Below.refl _ _).alloc (Nat.le_refl _) _
  have hbx : wb.heap[w.heap.size]? = some (.cells #[.slice a n c] 35) := by rw [hwb]; exact heap_alloc_new w _
  have hsz : w.heap.size < wb.heap.size := (Array.getElem?_eq_some_iff.1 hbx).1
  have HKB : Hid (wb.cell? ⟨w.heap.size, 0, none⟩ = some (.slice a n c)) := (cell_of_row _ _ 0 _ 35 (0, 0) hbx).trans rfl
  have kb := HKB.out
  have HWB : Hid (_ = _) := hwb
  have H0 : Hid (Rows2 w a n bss) := h
  have HBB : Hid (Below w.heap.size w wb) := hbb
  have hm : 1048576 ≤ maxLen := by unfold maxLen; omega
  clear hwb hbx h hp hbb
  go_enter Try.func5, Try.ntmps5
  go_upto_region 1 with fail
  rw [← HWB.out]
  clear HWB
  go_wp2_with fail
  refine (szCascade_any a n c bss _ (H0.out.kept HBB.out) hn HP.out).mono ?_
  rintro e w1 ⟨r, rfl, HR, hb1⟩
  have G1 : Below wb.heap.size wb w1 := hb1
  by_cases hr0 : r < 0
  · go_wp2
    go_ret
    exact ⟨rfl, keepT HBB.out G1⟩
  · have hfit : n + total bss ≤ 1048576 := by rcases HR.out with q | q; exact absurd q hr0; exact q
    have hn1 : n ≤ 1048576 := by omega
    have HT : Hid (total bss ≤ 1048576) := by show _ ≤ _; omega
    clear hfit HR kb hb1
    have k1 : w1.cell? ⟨w.heap.size, 0, none⟩ = some (.slice a n c) := (G1.cell (p := ⟨w.heap.size, 0, none⟩) hsz).trans HKB.out
    have s1 := G1.size
    go_wp2_with fail
    refine (toCascade_any a n c bss _ (H0.out.kept (keepT HBB.out G1)) hn1 HT.out).mono ?_
    rintro e w2 ⟨g2, rfl, hg2, ho2, hb2⟩
    have R2 : Hid (Rows2 w2 (some ⟨g2, 0, none⟩) n bss) := ho2.rows HL.out
    have G2 : Below wb.heap.size wb w2 := keepT G1 hb2
    clear ho2 hb2 k1
    go_wp2_with fail
    refine (specCascadeBytes_any _ n n bss _ R2.out hn1 HT.out).mono ?_
    rintro e w3 ⟨aw, nw, cw, ls, ok, rfl, HR1, hlw, how, hb3⟩
    have HOW : Hid (Own w2.heap.size w3 aw nw cw ls) := how
    have G3 : Below wb.heap.size wb w3 := keepT G2 hb3
    have k3 : w3.cell? ⟨w.heap.size, 0, none⟩ = some (.slice a n c) := (G3.cell (p := ⟨w.heap.size, 0, none⟩) hsz).trans HKB.out
    have s3 := G3.size
    have s2 := G2.size
    have s23 := hb3.size
    clear hb3 G1 G2 R2 hg2 how
    go_wp2_with fail
    refine (toCascade_any a n c bss _ (H0.out.kept (keepT HBB.out G3)) hn1 HT.out).mono ?_
    rintro e w4 ⟨g4, rfl, hg4, ho4, hb4⟩
    have HM4 : Hid (LaidH g4 w4.heap.size w4 n bss) := ho4.at
    have R4 : Hid (Rows2 w4 (some ⟨g4, 0, none⟩) n bss) := ho4.rows HL.out
    have D4 : Below w3.heap.size w3 w4 := hb4
    have s4 := D4.size
    clear ho4 hb4 k3
    obtain ⟨w5, hw5⟩ : ∃ w5, w5 = w4.alloc (.cells #[.slice (some ⟨g4, 0, none⟩) n n] 25) := ⟨_, rfl⟩
    have hb5 : Below w4.heap.size w4 w5 := by rw [hw5]; exact (Below.refl _ _).alloc (Nat.le_refl _) _
    have hx5 : w5.heap[w4.heap.size]? = some (.cells #[.slice (some ⟨g4, 0, none⟩) n n] 25) := by rw [hw5]; exact heap_alloc_new w4 _
    have hs5 : w4.heap.size < w5.heap.size := (Array.getElem?_eq_some_iff.1 hx5).1
    have D5 : Below w3.heap.size w3 w5 := keepT D4 hb5
    have HW5 : Hid (_ = _) := hw5
    have R5 : Hid (Rows2 w5 (some ⟨g4, 0, none⟩) n bss) := R4.out.kept hb5
    have HM5 : Hid (LaidH g4 w4.heap.size w5 n bss) := HM4.out.kept hb5
    clear hw5 HM4 D4 R4
    go_upto_region 7 with fail
    rw [← HW5.out]
    clear HW5
    have HK5 : Hid (w5.cell? ⟨w4.heap.size, 0, none⟩ = some (.slice (some ⟨g4, 0, none⟩) n n)) := (cell_of_row _ _ 0 _ 25 (0, 0) hx5).trans rfl
    have k5 := HK5.out
    go_wp2_with fail
    refine (implCascadeBytes_any _ n n bss _ R5.out hn1 HT.out).mono ?_
    rintro e w6 ⟨ag, ng, cg, ls2, ok2, rfl, hr2, hlg, hog, hb6⟩
    obtain ⟨e1, e2⟩ := cbRes_one hr2.out HR1.out
    subst e1
    subst e2
    have hnn : ng = nw := by have h1 := HOW.out.length; have h2 := hog.length; omega
    subst hnn
    have D6 : Below w5.heap.size w5 w6 := hb6
    have E6 : Below w3.heap.size w3 w6 := keepT D5 hb6
    have HG6 : Hid (Own w5.heap.size w6 ag ng cg ls2) := hog
    have s6 := D6.size
    have t0 : (ok2 != ok2) = false := by simp
    clear hr2 hb6 hog k5 hx5 R5
    go_wp2_with fail
    refine (eqByteS_any ag aw ng ng cg cw ls2 ls2 _ HG6.out.toRow (HOW.out.kept E6).toRow (by omega) (by omega)).mono ?_
    rintro e w7 ⟨rfl, hb7⟩
    rw [decide_eq_true (rfl : ls2 = ls2)]
    have D7 : Below w5.heap.size w5 w7 := keepT D6 hb7
    have E7 : Below w3.heap.size w3 w7 := keepT E6 hb7
    have HG7 : Hid (Own w5.heap.size w7 ag ng cg ls2) := HG6.out.kept hb7
    have s7 := D7.size
    clear hb7 D6 E6 HG6
    have HK1 : Hid (∀ W, Below w7.heap.size w7 W → W.cell? ⟨w.heap.size, 0, none⟩ = some (.slice a n c) ∧ W.cell? ⟨w4.heap.size, 0, none⟩ = some (.slice (some ⟨g4, 0, none⟩) n n)) := fun W hW => by
      have gw : Below wb.heap.size wb W := keepT G3 (keepT E7 hW)
      have gv : Below w5.heap.size w5 W := keepT D7 hW
      exact ⟨(gw.cell (p := ⟨w.heap.size, 0, none⟩) hsz).trans HKB.out, (gv.cell (p := ⟨w4.heap.size, 0, none⟩) hs5).trans HK5.out⟩
    have HM7 : Hid (LaidH g4 w4.heap.size w7 n bss) := HM5.out.kept D7
    have R7 : Hid (Rows2 w7 (some ⟨g4, 0, none⟩) n bss) := by
      obtain ⟨vs, p, hv, h0, hmm, hpk, hhi, hr⟩ := HM7.out
      exact LaidR.rows ⟨vs, p, hv, h0, hmm, Nat.le_trans hpk hhi, hr⟩ HL.out
    have R7' : Hid (Rows2 w7 a n bss) := H0.out.kept (keepT HBB.out (keepT G3 E7))
    have hd7 : Below w7.heap.size w7 w7.drew := (Below.refl _ _).drew
    have s47 : w4.heap.size < w7.heap.size := by omega
    have s07 : w.heap.size < w7.heap.size := by have := (keepT G3 E7).size; omega
    clear HM5
    go_upto_region 10 with fail
    go_region_held_law (fun W => W.cell? ⟨w.heap.size, 0, none⟩ = some (.slice a n c) ∧ W.cell? ⟨w4.heap.size, 0, none⟩ = some (.slice (some ⟨g4, 0, none⟩) n n)) (first | exact HK1.out _ hd7 | exact HK1.out _ (keepT hd7 hb8) | exact HK1.out _ (keepT (keepT hd7 hb8) hb9))
      (first
        | (go_at_call 17; refine (toCascade_any a n c bss _ (R7'.out.kept hd7) hn1 HT.out).mono ?_; rintro e w8 ⟨g8, rfl, hg8, ho8, hb8⟩; have R8 : Hid (Rows2 w8 (some ⟨g8, 0, none⟩) n bss) := ho8.rows HL.out; clear ho8)
        | (go_at_call 10; refine (eqCascade_same _ _ n n n bss _ (R7.out.kept (keepT hd7 hb8)) R8.out hn1 HT.out).mono ?_; rintro e w9 ⟨rfl, hb9⟩; have G9 : Hid (Below w7.heap.size w7 w9) := keepT (keepT hd7 hb8) hb9))
    obtain ⟨ka, kx⟩ := HK1.out _ G9.out
    have D9 : Below w5.heap.size w5 w9 := keepT D7 G9.out
    have E9 : Below w3.heap.size w3 w9 := keepT E7 G9.out
    have HM9 : Hid (LaidH g4 w4.heap.size w9 n bss) := HM7.out.kept G9.out
    have HG9 : Hid (Own w5.heap.size w9 ag ng cg ls2) := HG7.out.kept G9.out
    have s9 := G9.out.size
    clear HK1 HM7 HG7 R7 R7' hd7 D7 E7 hb8 hb9 R8 G9
    go_wp2_with fail
    refine (markCascade_any g4 w4.heap.size n bss _ HM9.out HL.out hn1 HT.out).mono ?_
    rintro e w10 ⟨kk, rfl, ht10⟩
    have s10 := ht10.size
    have hg34 : w3.heap.size ≤ g4 := hg4
    have HG10 : Hid (Own w5.heap.size w10 ag ng cg ls2) := ⟨owns_touchM HG9.out.row ht10 (Nat.le_of_lt hs5), HG9.out.byte⟩
    have HW10 : Hid (Row w10 aw ng ls2) := (HOW.out.kept E9).toRow.touch HOW.out.in_ (.inl hg34) ht10
    have G10 : Below wb.heap.size wb w10 := (keepT G3 E9).trans (ht10.below (by omega) (by omega))
    clear ht10 HM9 HG9 ka kx
    have k0 : ¬ ((kk : Int) < 0) := by omega
    go_wp2_with fail
    refine (eqByteS_any ag aw ng ng cg cw ls2 ls2 _ HG10.out.toRow HW10.out (by omega) (by omega)).mono ?_
    rintro e w11 ⟨rfl, hb11⟩
    rw [decide_eq_true (rfl : ls2 = ls2)]
    have ho11 := HG10.out.kept hb11
    have HW11 : Hid (Row w11 aw ng ls2) := HW10.out.kept hb11
    have G11 : Below wb.heap.size wb w11 := G10.trans (hb11.mono G10.size)
    clear HG10 HW10 hb11 G10
    go_wp2_with fail
    refine (markByteS_int w5.heap.size ag ng cg 1 ls2 _ ho11 (by omega) (by decide) (by decide)).mono ?_
    rintro e w12 ⟨rfl, ho12, hg12⟩
    have hr12 : Row w12 aw ng ls2 := HW11.out.grown (fun b off hab h0 => by have := HOW.out.in_ b off hab h0; omega) ho11 hg12
    have G12 : Below wb.heap.size wb w12 := G11.grown hg12 G11.size (fun k hk => by have := (ho11.row.lt k hk).1; omega)
    have HM12 : Hid (Row w12 ag ng (marks (1 : Int).toNat ng)) := ho12.toRow
    have HW12 : Hid (Row w12 aw ng ls2) := hr12
    have k12 : w12.cell? ⟨w.heap.size, 0, none⟩ = some (.slice a n c) := (G12.cell (p := ⟨w.heap.size, 0, none⟩) hsz).trans HKB.out
    have s12 : w.heap.size < w12.heap.size := by have := G12.size; omega
    clear hr12 ho12 hg12 ho11 HW11 G11
    go_wp2_with fail
    refine (heldByteS_int ag ng cg 1 _ HM12.out (by omega) (by decide) (by decide)).mono ?_
    rintro e w13 ⟨rfl, hw13⟩
    subst hw13
    have t1 : ((1 : Int) + (ng : Int) != 1 + (ng : Int)) = false := by simp
    go_wp2_with fail
    refine (toCascade_any a n c bss _ (H0.out.kept (keepT HBB.out G12)) hn1 HT.out).mono ?_
    rintro e w14 ⟨g14, rfl, hg14, ho14, hb14⟩
    have R14 : Hid (Rows2 w14 (some ⟨g14, 0, none⟩) n bss) := ho14.rows HL.out
    clear ho14 k12
    go_wp2_with fail
    refine (implCascadeBytes_any _ n n bss _ R14.out hn1 HT.out).mono ?_
    rintro e w15 ⟨ar, nr, cr, ls3, ok3, rfl, hr3, hlr, hor, hb15⟩
    obtain ⟨e1, e2⟩ := cbRes_one hr3.out HR1.out
    subst e1
    subst e2
    have hnn : nr = ng := by have h1 := HOW.out.length; have h2 := hor.length; omega
    subst hnn
    have D15 : Below w13.heap.size w13 w15 := keepT hb14 hb15
    clear hr3 hb14 hb15 R14
    go_wp2_with fail
    refine (eqByteS_any ar aw nr nr cr cw ls3 ls3 _ hor.toRow (HW12.out.kept D15) (by omega) (by omega)).mono ?_
    rintro e w16 ⟨rfl, hb16⟩
    rw [decide_eq_true (rfl : ls3 = ls3)]
    have D16 : Below w13.heap.size w13 w16 := keepT D15 hb16
    go_wp2_with fail
    refine (heldByteS_int ag nr cg 1 _ (HM12.out.kept D16) (by omega) (by decide) (by decide)).mono ?_
    rintro e w17 ⟨rfl, hw17⟩
    subst hw17
    go_wp2_with fail
    go_ret
    exact ⟨rfl, keepT HBB.out (keepT G12 D16)⟩

end Go.Proofs.Ytpnaopmpiobemaa
