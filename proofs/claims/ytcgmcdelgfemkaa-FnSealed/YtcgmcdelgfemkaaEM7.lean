import Derived.Test.YtcgmcdelgfemkaaEM6
import Derived.Deep.RegionHeldLaw
namespace Go.Proofs.Ytcgmcdelgfemkaa
open Go.RowKit

theorem heap_set2E {w : World} {g t : Nat} {c0 c1 : Value} (h : w.heap[g]? = some (.cells #[c0, c1] t (0, 0))) (v0 v1 : Value) : ((w.setCell ⟨g, 0, none⟩ v0).setCell ⟨g, 1, none⟩ v1).heap[g]? = some (.cells #[v0, v1] t (0, 0)) :=
  heap_setCell_same _ _ 1 _ t _ (heap_setCell_same _ _ 0 _ t _ h)

set_option maxRecDepth 10000 in
set_option maxHeartbeats 8000000 in
theorem sealClosure_any (p : Int × Int × Int) (gk ge : Nat) (k eph : Int) (w : World) (hg : grpK p) (hl : p.1 ≤ 9223372036854775807) (hd : p.2.2 ≤ 9223372036854775807) (he : secP eph) (hk1 : gk < w.heap.size) (hk2 : ge < w.heap.size) (ck : w.cell? ⟨gk, 0, none⟩ = some (.int .u64 k)) (ce : w.cell? ⟨ge, 0, none⟩ = some (.int .i64 eph)) :
    Calls Try.prog 44 #[.agg #[.int .i64 p.1, .int .u64 p.2.1, .int .i64 p.2.2], .pointer (some ⟨gk, 0, none⟩), .pointer (some ⟨ge, 0, none⟩)] w fun e w' => e = .returned (.agg #[.int .u64 (wrapP k eph p).1, .int .u64 (wrapP k eph p).2]) ∧ Below w.heap.size w w' := by
  have hyb := grpK_y hg
  obtain ⟨wb, hwb⟩ : ∃ wb, wb = (w.alloc (.cells #[.int .i64 p.1, .int .u64 p.2.1, .int .i64 p.2.2] 48)).alloc (.cells #[.int .u64 0, .int .u64 0] 53) := ⟨_, rfl⟩
  have hbb : Below w.heap.size w wb := by rw [hwb]; exact two_below _ _ _
  have hx := two_blocks w (.cells #[.int .i64 p.1, .int .u64 p.2.1, .int .i64 p.2.2] 48) (.cells #[.int .u64 0, .int .u64 0] 53)
  rw [← hwb] at hx
  obtain ⟨hx0, hx1⟩ := hx
  have hl0 : w.heap.size < wb.heap.size := (Array.getElem?_eq_some_iff.1 hx0).1
  have hl1 : w.heap.size + 1 < wb.heap.size := (Array.getElem?_eq_some_iff.1 hx1).1
  have HC : ∀ W, Below wb.heap.size wb W → W.cell? ⟨gk, 0, none⟩ = some (.int .u64 k) ∧ W.cell? ⟨w.heap.size, 1, none⟩ = some (.int .u64 p.2.1) ∧ W.cell? ⟨ge, 0, none⟩ = some (.int .i64 eph) := by
    intro W hW
    refine ⟨((keepT hbb hW).cell (p := ⟨gk, 0, none⟩) hk1).trans ck, ?_, ((keepT hbb hW).cell (p := ⟨ge, 0, none⟩) hk2).trans ce⟩
    exact (cell_of_row _ _ 1 _ 48 (0, 0) ((hW.block _ hl0).trans hx0)).trans rfl
  have HD : ∀ W, Below wb.heap.size wb W → W.heap[w.heap.size + 1]? = some (.cells #[.int .u64 0, .int .u64 0] 53) := fun W hW => (hW.block _ hl1).trans hx1
  have p0 : wb.cell? ⟨w.heap.size, 0, none⟩ = some (.int .i64 p.1) := (cell_of_row _ _ 0 _ 48 (0, 0) hx0).trans rfl
  have p1 : wb.cell? ⟨w.heap.size, 1, none⟩ = some (.int .u64 p.2.1) := (cell_of_row _ _ 1 _ 48 (0, 0) hx0).trans rfl
  have p2 : wb.cell? ⟨w.heap.size, 2, none⟩ = some (.int .i64 p.2.2) := (cell_of_row _ _ 2 _ 48 (0, 0) hx0).trans rfl
  have HW : Hid (_ = _) := hwb
  have KI := fun W => implKeyId_any p.1 p.2.1 p.2.2 W ⟨by omega, by omega⟩ hl hd
  unfold kpv at KI
  obtain ⟨id, hid⟩ : ∃ id, id = kidN p.1 p.2.1 p.2.2 := ⟨_, rfl⟩
  have hidb : U64 id := by rw [hid]; exact kidP_bd p
  have HID : Hid (kidP p = id) := hid.symm
  rw [← hid] at KI
  have hsh : 0 ≤ gp p.2.1 eph ∧ gp p.2.1 eph < 1000000007 := gp_bd _ _
  obtain ⟨y, hy⟩ : ∃ y, y = p.2.1 := ⟨_, rfl⟩
  have HY : Hid (p.2.1 = y) := hy.symm
  rw [← hy] at hyb p1 hsh HC KI HW ⊢
  obtain ⟨sh, hshv⟩ : ∃ sh, sh = gp y eph := ⟨_, rfl⟩
  have HSH : Hid (gp y eph = sh) := hshv.symm
  rw [← hshv] at hsh
  have HV : Hid (wrapP k eph p = (id, bits .xor .u64 k (wrN sh id))) := by show _ = _; unfold wrapP; rw [HID.out, HY.out, HSH.out]
  have HE : Hid (secP eph) := he
  have he1 : 0 ≤ eph := by have := he.1; omega
  have he2 : eph ≤ 9223372036854775807 := by have := he.2; omega
  obtain ⟨hy0, hy1⟩ := hyb
  obtain ⟨hs0, hs1⟩ := hsh
  clear hwb hx0 hx1 hid hy hshv he hg ck ce
  go_enter Try.func44, Try.ntmps44
  go_upto_region 1 with fail
  rw [← HW.out]
  clear HW
  go_wp2_with fail
  refine (KI _).mono ?_
  rintro e w2 ⟨rfl, hb2⟩
  clear p0 p1 p2 KI
  have hd2 : Below wb.heap.size wb w2.drew := hb2.drew
  have T0 := HC _ hb2
  have T1 := HC _ hd2
  have q1 : IntKind.i64.wrap y = y := by rw [IntKind.wrap_i64]; omega
  have q2 : wrap64 y = y := by unfold wrap64; omega
  go_upto_region 2 with fail
  go_region_law
    (first
      | (go_simp; go_at_call 47; refine (power_any y eph _ (by omega) (by omega) he1 he2).mono ?_; rintro e wp ⟨rfl, hw⟩; have hw2 := hw.symm; subst hw2; rw [HSH.out])
      | (go_simp; go_at_call 46; refine (wrapMask_any sh id _ (by omega) hidb).mono ?_; rintro e w3 ⟨rfl, hb3⟩; have K3 : Below wb.heap.size wb w3 := keepT hd2 hb3; have T2 := HC _ K3; have D3 := HD _ K3; have e0 : w3.cell? ⟨w.heap.size + 1, 0, none⟩ = some (.int .u64 0) := (cell_of_row _ _ 0 _ 53 (0, 0) D3).trans rfl; have e1 : w3.cell? ⟨w.heap.size + 1, 1, none⟩ = some (.int .u64 0) := (cell_of_row _ _ 1 _ 53 (0, 0) D3).trans rfl; have f0 : w3.frozen? ⟨w.heap.size + 1, 0, none⟩ = false := frozen_of_row w3 _ 0 _ 53 D3; have f1 : w3.frozen? ⟨w.heap.size + 1, 1, none⟩ = false := frozen_of_row w3 _ 1 _ 53 D3))
  all_goals
    clear T0 T1 T2 e0 e1 f0 f1
    go_wp2
    try simp only [Exit.inBlock, Exit.then]
    refine bodyPost_ret (results_Wr rfl _ (w.heap.size + 1) rfl _ (id, bits .xor .u64 k (wrN sh id)) (heap_set2E D3 _ _)) rfl ⟨by rw [HV.out]; rfl, ?_⟩
    exact (((keepT hbb K3).setCell (by simp) _).setCell (by simp) _)

end Go.Proofs.Ytcgmcdelgfemkaa
