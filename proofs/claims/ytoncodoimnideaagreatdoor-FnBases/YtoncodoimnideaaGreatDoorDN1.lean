import Derived.Test.YtoncodoimnideaaGreatDoorN2
import Derived.Test.YtoncodoimnideaaGreatDoorWRd
import Derived.Deep.DeepCutAuto
namespace Go.Proofs.YtoncodoimnideaaGreatDoor
open Go.RowKit

def partW : List ByteArray := [⟨#[65, 99, 109, 101]⟩, ⟨#[97, 99, 109, 101]⟩, ⟨#[32, 65, 67, 77, 69, 32]⟩, ⟨#[65, 99, 109, 101, 32, 32, 67, 111]⟩, ⟨#[97, 99, 109, 101, 32, 99, 111]⟩, ⟨#[120]⟩, ⟨#[89]⟩]
theorem partW_small : ∀ s ∈ partW, s.size ≤ 8 := by decide
def partC : Array Value := #[.string ⟨#[65, 99, 109, 101]⟩, .string ⟨#[97, 99, 109, 101]⟩, .string ⟨#[32, 65, 67, 77, 69, 32]⟩, .string ⟨#[65, 99, 109, 101, 32, 32, 67, 111]⟩, .string ⟨#[97, 99, 109, 101, 32, 99, 111]⟩, .string ⟨#[120]⟩, .string ⟨#[89]⟩]
theorem partC_get (v : Nat) (h : v < 7) : ∃ s : ByteArray, partC[v]? = some (.string s) ∧ s.size ≤ 8 := by
  match v, h with
  | 0, _ | 1, _ | 2, _ | 3, _ | 4, _ | 5, _ | 6, _ => exact ⟨_, rfl, by decide⟩

set_option maxRecDepth 10000 in
set_option maxHeartbeats 2000000 in
theorem drawPart_any (g : Nat) (a : Option Addr) (n cap : Nat) (bs : List Int) (w : World) (h : Rd w g a n cap bs) :
    Calls Tryz.prog 75 #[.pointer (some ⟨g, 0, none⟩)] w fun e w' => ∃ x : PT, e = .returned (ptv x) ∧ x.val.size ≤ 8 ∧ RdPost w g a n cap bs w' := by
  obtain ⟨wb, hwb⟩ : ∃ wb, wb = w.alloc (.cells #[.int .i64 0, .string ⟨#[]⟩] 80) := ⟨_, rfl⟩
  have hbb : Below w.heap.size w wb := by rw [hwb]; exact (Below.refl _ _).alloc (Nat.le_refl _) _
  have hbx : wb.heap[w.heap.size]? = some (.cells #[.int .i64 0, .string ⟨#[]⟩] 80) := by rw [hwb]; exact heap_alloc_new w _
  have hsz : w.heap.size < wb.heap.size := (Array.getElem?_eq_some_iff.1 hbx).1
  have HX : Hid (_ = _) := hbx
  have HWB : Hid (_ = _) := hwb
  have HR : Hid (Rd wb g a n cap bs) := h.kept hbb
  have hgw : g < w.heap.size := h.lt
  have HBB : Hid (Below w.heap.size w wb) := hbb
  clear hwb hbx h hbb
  go_enter Tryz.func75, Tryz.ntmps75
  go_upto_region 1 with fail
  rw [← HWB.out]
  clear HWB
  go_wp2_with fail
  refine (below_any g a n cap bs 3 _ HR.out (by decide)).mono ?_
  rintro e w1 ⟨v1, rfl, hv10, hv11, hp1⟩
  have hv1 : v1 ≤ 2 := by omega
  have s1 := hp1.2.size
  have HX1 : Hid (w1.heap[w.heap.size]? = some (.cells #[.int .i64 0, .string ⟨#[]⟩] 80)) := (hp1.2.block _ hsz (.inr (by omega))).trans HX.out
  have HP1 : Hid (RdPost wb g a n cap bs w1) := hp1
  clear hp1 hv11
  obtain ⟨w2, hw2⟩ : ∃ w2, w2 = w1.alloc (.cells partC 9) := ⟨_, rfl⟩
  have hb2 : Below w1.heap.size w1 w2 := by rw [hw2]; exact (Below.refl _ _).alloc (Nat.le_refl _) _
  have x2 : w2.heap[w1.heap.size]? = some (.cells partC 9) := by rw [hw2]; exact heap_alloc_new w1 _
  have s2 : w1.heap.size < w2.heap.size := (Array.getElem?_eq_some_iff.1 x2).1
  have HW2 : Hid (_ = _) := hw2
  clear hw2
  go_wp2_with fail
  have e2 : w1.alloc (.cells #[.string ⟨#[65, 99, 109, 101]⟩, .string ⟨#[97, 99, 109, 101]⟩, .string ⟨#[32, 65, 67, 77, 69, 32]⟩, .string ⟨#[65, 99, 109, 101, 32, 32, 67, 111]⟩, .string ⟨#[97, 99, 109, 101, 32, 99, 111]⟩, .string ⟨#[120]⟩, .string ⟨#[89]⟩] 9) = w2 := HW2.out.symm
  first | rw [e2] | skip
  clear HW2 e2
  refine (below_any g a n cap bs 7 _ (HP1.out.1.kept hb2) (by decide)).mono ?_
  rintro e w3 ⟨v2, rfl, hv20, hv21, hp3⟩
  obtain ⟨u, rfl⟩ := Int.eq_ofNat_of_zero_le hv20
  have hu : u < 7 := by omega
  obtain ⟨s, hs, hss⟩ := partC_get u hu
  have s3 := hp3.2.size
  have js : w3.cell? ⟨w1.heap.size, u, none⟩ = some (.string s) := (cell_of_row _ _ u _ 9 (0, 0) ((hp3.2.block _ s2 (.inr (by omega))).trans x2)).trans hs
  have x3 : w3.heap[w.heap.size]? = some (.cells #[.int .i64 0, .string ⟨#[]⟩] 80) := (hp3.2.block _ (by omega) (.inr (by omega))).trans ((hb2.block _ (by omega)).trans HX1.out)
  have HX3 : Hid (_ = _) := x3
  have k0 : w3.cell? ⟨w.heap.size, 0, none⟩ = some (.int .i64 0) := (cell_of_row _ _ 0 _ 80 (0, 0) x3).trans rfl
  have k1 : w3.cell? ⟨w.heap.size, 1, none⟩ = some (.string ⟨#[]⟩) := (cell_of_row _ _ 1 _ 80 (0, 0) x3).trans rfl
  have f0 : w3.frozen? ⟨w.heap.size, 0, none⟩ = false := frozen_of_row w3 _ 0 _ 80 x3
  have f1 : w3.frozen? ⟨w.heap.size, 1, none⟩ = false := frozen_of_row w3 _ 1 _ 80 x3
  have hd3 : w1.heap.size < w3.heap.size := by omega
  have hr3 : w.heap.size < w3.heap.size := by omega
  have hui : (u : Int) < 7 := by omega
  have T : Touch g (g + 1) w w3 := ((Touch.of_below HBB.out).trans HP1.out.2).trans ((Touch.of_below hb2).trans hp3.2)
  have HRD : Hid (Rd w3 g a n cap bs) := hp3.1
  have HT : Hid (Touch g (g + 1) w w3) := T
  clear hp3 x3 x2 hs HP1 HX1 hb2 T hv21 hv20
  go_wp2
  have q1 := heap_setCell_same w3 w.heap.size 0 _ 80 (.int .i64 (1 + v1)) HX3.out
  have q2 := heap_setCell_same _ w.heap.size 1 _ 80 (.string s) q1
  have tt : Touch w.heap.size (w.heap.size + 1) w3 ((w3.setCell ⟨w.heap.size, 0, none⟩ (.int .i64 (1 + v1))).setCell ⟨w.heap.size, 1, none⟩ (.string s)) := (touch_set' _ _ _ _ (Nat.le_refl _) (Nat.lt_succ_self _)).trans (touch_set' _ _ _ _ (Nat.le_refl _) (Nat.lt_succ_self _))
  try simp only [Exit.inBlock, Exit.then]
  refine bodyPost_ret (results_pt rfl _ w.heap.size rfl _ _ _ q2) rfl ⟨⟨1 + v1, s⟩, rfl, hss, HRD.out.touch tt hgw, ?_⟩
  have hs3 := HT.out.size
  exact ⟨tt.os.trans HT.out.os, tt.tape.trans HT.out.tape, tt.output.trans HT.out.output, Nat.le_trans hs3 tt.size, fun k hk ho => (tt.block k (by omega) (.inl hk)).trans (HT.out.block k hk ho)⟩

end Go.Proofs.YtoncodoimnideaaGreatDoor
