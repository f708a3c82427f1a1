import Derived.Test.YtpnaopmpiobemaaC7
import Derived.Deep.RegionHeldLaw
namespace Go.Proofs.Ytpnaopmpiobemaa
open Go.RowKit

set_option maxRecDepth 10000 in
set_option maxHeartbeats 4000000 in
theorem inCascade_law (a : Option Addr) (n c : Nat) (bss : List (List Int)) (x : Int) (w : World) (h : Rows2 w a n bss) (hn : n ≤ 9223372036854775807) (hp : ∀ k, k < n → (bss.getD k []).length ≤ 9223372036854775807) (hx : 0 ≤ x ∧ x ≤ 18446744073709551615) :
    Calls Try.prog 4 #[.agg #[.slice a n c], .int .u64 x] w fun e w' => e = .returned (.bool true) ∧ Below w.heap.size w w' := by
  have HL : Hid (bss.length = n) := h.len
  have HP : Hid (∀ k, k < n → (bss.getD k []).length ≤ 9223372036854775807) := hp
  obtain ⟨wb, hwb⟩ : ∃ wb, wb = w.alloc (.cells #[.slice a n c] 35) := ⟨_, rfl⟩
  have hbb : Below w.heap.size w wb := by rw [hwb]; exact (Below.refl _ _).alloc (Nat.le_refl _) _
  have hbx : wb.heap[w.heap.size]? = some (.cells #[.slice a n c] 35) := by rw [hwb]; exact heap_alloc_new w _
  have hsz : w.heap.size < wb.heap.size := (Array.getElem?_eq_some_iff.1 hbx).1
  have kb : wb.cell? ⟨w.heap.size, 0, none⟩ = some (.slice a n c) := (cell_of_row _ _ 0 _ 35 (0, 0) hbx).trans rfl
  have HWB : Hid (_ = _) := hwb
  have HKB : Hid (wb.cell? ⟨w.heap.size, 0, none⟩ = some (.slice a n c)) := kb
  have H0 : Hid (Rows2 w a n bss) := h
  have HBB : Hid (Below w.heap.size w wb) := hbb
  clear hwb hbx h hp hbb
  go_enter Try.func4, Try.ntmps4
  go_upto_region 1 with fail
  rw [← HWB.out]
  clear HWB
  go_wp2_with fail
  refine (szCascade_any a n c bss _ (H0.out.kept HBB.out) hn HP.out).mono ?_
  rintro e w1 ⟨r, rfl, HR, hb1⟩
  have G1 : Below wb.heap.size wb w1 := hb1
  by_cases hr0 : r < 0
  · go_wp2
    go_ret
    exact ⟨rfl, keepT HBB.out G1⟩
  · have hfit : n + total bss ≤ 1048576 := by rcases HR.out with q | q; exact absurd q hr0; exact q
    have hn1 : n ≤ 1048576 := by omega
    have HT : Hid (total bss ≤ 1048576) := by show _ ≤ _; omega
    clear hfit HR kb hb1
    have k1 : w1.cell? ⟨w.heap.size, 0, none⟩ = some (.slice a n c) := (G1.cell (p := ⟨w.heap.size, 0, none⟩) hsz).trans HKB.out
    have s1 := G1.size
    go_wp2_with fail
    refine (toCascade_any a n c bss _ (H0.out.kept (keepT HBB.out G1)) hn1 HT.out).mono ?_
    rintro e w2 ⟨g2, rfl, hg2, ho2, hb2⟩
    have R2 : Hid (Rows2 w2 (some ⟨g2, 0, none⟩) n bss) := ho2.rows HL.out
    have G2 : Below wb.heap.size wb w2 := keepT G1 hb2
    clear ho2 hb2 k1
    go_wp2_with fail
    refine (specInCascade_any _ n n bss x _ R2.out hn HP.out hx).mono ?_
    rintro e w3 ⟨b3, rfl, HB3, hb3⟩
    have G3 : Below wb.heap.size wb w3 := keepT G2 hb3
    have k3 : w3.cell? ⟨w.heap.size, 0, none⟩ = some (.slice a n c) := (G3.cell (p := ⟨w.heap.size, 0, none⟩) hsz).trans HKB.out
    have s3 := G3.size
    clear hb3 G1 G2 R2 hg2
    go_wp2_with fail
    refine (toCascade_any a n c bss _ (H0.out.kept (keepT HBB.out G3)) hn1 HT.out).mono ?_
    rintro e w4 ⟨g4, rfl, hg4, ho4, hb4⟩
    have R4 : Hid (Rows2 w4 (some ⟨g4, 0, none⟩) n bss) := ho4.rows HL.out
    have G4 : Below wb.heap.size wb w4 := keepT G3 hb4
    have s4 := G4.size
    clear ho4 hb4 k3 G3
    obtain ⟨w5, hw5⟩ : ∃ w5, w5 = w4.alloc (.cells #[.slice (some ⟨g4, 0, none⟩) n n] 25) := ⟨_, rfl⟩
    have hb5 : Below w4.heap.size w4 w5 := by rw [hw5]; exact (Below.refl _ _).alloc (Nat.le_refl _) _
    have hx5 : w5.heap[w4.heap.size]? = some (.cells #[.slice (some ⟨g4, 0, none⟩) n n] 25) := by rw [hw5]; exact heap_alloc_new w4 _
    have hs5 : w4.heap.size < w5.heap.size := (Array.getElem?_eq_some_iff.1 hx5).1
    have G5 : Below wb.heap.size wb w5 := keepT G4 hb5
    have HW5 : Hid (_ = _) := hw5
    have R5 : Hid (Rows2 w5 (some ⟨g4, 0, none⟩) n bss) := R4.out.kept hb5
    clear hw5
    go_upto_region 7 with fail
    rw [← HW5.out]
    clear HW5
    have k5 : w5.cell? ⟨w4.heap.size, 0, none⟩ = some (.slice (some ⟨g4, 0, none⟩) n n) := (cell_of_row _ _ 0 _ 25 (0, 0) hx5).trans rfl
    go_wp2_with fail
    refine (implInCascade_any _ n n bss x _ R5.out hn HP.out hx).mono ?_
    rintro e w6 ⟨b6, rfl, HB6, hb6⟩
    have he : b6 = b3 := by rw [Bool.eq_iff_iff, HB6.out, HB3.out]
    subst he
    have G6 : Below wb.heap.size wb w6 := keepT G5 hb6
    have s6 := G6.size
    have HK1 : Hid (∀ W, Below w6.heap.size w6 W → W.cell? ⟨w.heap.size, 0, none⟩ = some (.slice a n c) ∧ W.cell? ⟨w4.heap.size, 0, none⟩ = some (.slice (some ⟨g4, 0, none⟩) n n)) := fun W hW => by
      have gw := keepT G6 hW
      have gv := keepT hb6 hW
      exact ⟨(gw.cell (p := ⟨w.heap.size, 0, none⟩) hsz).trans HKB.out, (gv.cell (p := ⟨w4.heap.size, 0, none⟩) hs5).trans k5⟩
    have R6 : Hid (Rows2 w6 (some ⟨g4, 0, none⟩) n bss) := R5.out.kept hb6
    have R6' : Hid (Rows2 w6 a n bss) := H0.out.kept (keepT HBB.out G6)
    have hd6 : Below w6.heap.size w6 w6.drew := (Below.refl _ _).drew
    have s46 : w4.heap.size < w6.heap.size := by have := hb6.size; omega
    have HG6 : Hid (Below w.heap.size w w6) := keepT HBB.out G6
    clear HB3 HB6 G4 G5 hb5 hb6 hx5 k5 R4 R5 G6
    cases b6 with
    | true =>
      go_upto_region 10 with fail
      go_region_held_law (fun W => W.cell? ⟨w.heap.size, 0, none⟩ = some (.slice a n c) ∧ W.cell? ⟨w4.heap.size, 0, none⟩ = some (.slice (some ⟨g4, 0, none⟩) n n)) (first | exact HK1.out _ hd6 | exact HK1.out _ (keepT hd6 hb7) | exact HK1.out _ (keepT (keepT hd6 hb7) hb8))
        (first
          | (go_at_call 17; refine (toCascade_any a n c bss _ (R6'.out.kept hd6) hn1 HT.out).mono ?_; rintro e w7 ⟨g7, rfl, hg7, ho7, hb7⟩; have R7 : Hid (Rows2 w7 (some ⟨g7, 0, none⟩) n bss) := ho7.rows HL.out; clear ho7)
          | (go_at_call 10; refine (eqCascade_same _ _ n n n bss _ (R6.out.kept (keepT hd6 hb7)) R7.out hn1 HT.out).mono ?_; rintro e w8 ⟨rfl, hb8⟩; have G8 : Hid (Below w.heap.size w w8) := keepT HG6.out (keepT (keepT hd6 hb7) hb8)))
      all_goals
        go_wp2
        go_ret
        exact ⟨rfl, G8.out⟩
    | false =>
      go_upto_region 10 with fail
      go_region_held_law (fun W => W.cell? ⟨w.heap.size, 0, none⟩ = some (.slice a n c) ∧ W.cell? ⟨w4.heap.size, 0, none⟩ = some (.slice (some ⟨g4, 0, none⟩) n n)) (first | exact HK1.out _ hd6 | exact HK1.out _ (keepT hd6 hb7) | exact HK1.out _ (keepT (keepT hd6 hb7) hb8))
        (first
          | (go_at_call 17; refine (toCascade_any a n c bss _ (R6'.out.kept hd6) hn1 HT.out).mono ?_; rintro e w7 ⟨g7, rfl, hg7, ho7, hb7⟩; have R7 : Hid (Rows2 w7 (some ⟨g7, 0, none⟩) n bss) := ho7.rows HL.out; clear ho7)
          | (go_at_call 10; refine (eqCascade_same _ _ n n n bss _ (R6.out.kept (keepT hd6 hb7)) R7.out hn1 HT.out).mono ?_; rintro e w8 ⟨rfl, hb8⟩; have G8 : Hid (Below w.heap.size w w8) := keepT HG6.out (keepT (keepT hd6 hb7) hb8)))
      all_goals
        go_wp2
        go_ret
        exact ⟨rfl, G8.out⟩

end Go.Proofs.Ytpnaopmpiobemaa
