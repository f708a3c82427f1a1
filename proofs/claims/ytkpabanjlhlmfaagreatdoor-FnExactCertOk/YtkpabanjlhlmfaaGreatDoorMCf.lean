import Derived.Test.YtkpabanjlhlmfaaGreatDoorMCd
import Derived.Test.YtkpabanjlhlmfaaGreatDoorMCc
import Derived.Test.YtkpabanjlhlmfaaGreatDoorMCe
import Derived.Laws.Rows
import Derived.Test.YtkpabanjlhlmfaaGreatDoorN1
import Derived.Deep.Slices
import Derived.ChangeArms
import Derived.ChangeSlices
import Derived.WalkKit
import Derived.ProofKit
import Derived.Test.YtkpabanjlhlmfaaGreatDoorGN3
import Derived.Test.YtkpabanjlhlmfaaGreatDoorMCa
import Derived.OpenShut
import Derived.Handed
import Derived.HandedShaped
set_option linter.unusedVariables false
namespace Go.Proofs.YtkpabanjlhlmfaaGreatDoor
open Go.RowKit

theorem infoSize9 : (Tryz.prog.info? 45).map (·.size) = some 21 := by kernel_rfl
theorem infoSizeL9 : (Tryz.prog.info? 34).map (·.size) = some 21 := by kernel_rfl
theorem opw_not {P : Program} {Q : Exit → Act → World → Prop} {o : Oper} {a : Act} {w : World} {K : Act → World → Prop} (t x : Nat) (ho : o.op = .unOp .not t (.tmp x)) (p : Bool) (hx : aT a x = .bool p) (h : K (a.put o.dst (.bool (!p))) w) : o.wp P a w K Q := by
  refine opw_value (.bool (!p)) ?_ h
  have hx' : a.eval (.tmp x) = .bool p := hx
  unfold execOp
  simp only [ho, hx']
  simp [go_sem]
/-- What is known of a region (RJ). -/
def lc10 (s t : CES) (x : CE) (gx G B : Nat) : RSpec where
  m := 5
  n := 7
  slots := [22, 23, 24, 25, 26, 100005, 100006]
  kills := [[], [], [], [], [], [], []]
  pres := [[], [], [], [], [], [], []]
  fact := fun k v w => match k with
    | 0 => v = .agg #[.int .i64 x.ser, .slice t.a1 t.n1 t.c1, .slice t.a2 t.n2 t.c2, .int .i64 x.frm, .int .i64 x.til, .int .i64 x.key.1, .int .u64 x.key.2.1, .int .i64 x.key.2.2, .bool x.ca, .int .i64 x.room, .int .i64 x.uses, .slice t.a3 t.n3 t.c3, .slice t.a4 t.n4 t.c4, .slice t.a5 t.n5 t.c5, .slice t.a6 t.n6 t.c6, .slice t.a7 t.n7 t.c7, .int .i64 x.need, .int .i64 x.nomap, .int .i64 x.noany, .slice t.a8 t.n8 t.c8, .slice t.a9 t.n9 t.c9]
    | 1 => v = .agg #[.int .i64 x.ser, .slice s.a1 s.n1 s.c1, .slice s.a2 s.n2 s.c2, .int .i64 x.frm, .int .i64 x.til, .int .i64 x.key.1, .int .u64 x.key.2.1, .int .i64 x.key.2.2, .bool x.ca, .int .i64 x.room, .int .i64 x.uses, .slice s.a3 s.n3 s.c3, .slice s.a4 s.n4 s.c4, .slice s.a5 s.n5 s.c5, .slice s.a6 s.n6 s.c6, .slice s.a7 s.n7 s.c7, .int .i64 x.need, .int .i64 x.nomap, .int .i64 x.noany, .slice s.a8 s.n8 s.c8, .slice s.a9 s.n9 s.c9]
    | 2 => ∃ (u : CES), v = CEv u x ∧ CER w u x
    | 3 => v = .bool true
    | 4 => v = .bool false
    | 5 => w.heap[gx]? = some (.cells #[.int .i64 x.ser, .slice t.a1 t.n1 t.c1, .slice t.a2 t.n2 t.c2, .int .i64 x.frm, .int .i64 x.til, .int .i64 x.key.1, .int .u64 x.key.2.1, .int .i64 x.key.2.2, .bool x.ca, .int .i64 x.room, .int .i64 x.uses, .slice t.a3 t.n3 t.c3, .slice t.a4 t.n4 t.c4, .slice t.a5 t.n5 t.c5, .slice t.a6 t.n6 t.c6, .slice t.a7 t.n7 t.c7, .int .i64 x.need, .int .i64 x.nomap, .int .i64 x.noany, .slice t.a8 t.n8 t.c8, .slice t.a9 t.n9 t.c9] 45 (0, 0))
    | _ => w.heap[G]? = some (.cells #[.int .i64 x.ser, .slice s.a1 s.n1 s.c1, .slice s.a2 s.n2 s.c2, .int .i64 x.frm, .int .i64 x.til, .int .i64 x.key.1, .int .u64 x.key.2.1, .int .i64 x.key.2.2, .bool x.ca, .int .i64 x.room, .int .i64 x.uses, .slice s.a3 s.n3 s.c3, .slice s.a4 s.n4 s.c4, .slice s.a5 s.n5 s.c5, .slice s.a6 s.n6 s.c6, .slice s.a7 s.n7 s.c7, .int .i64 x.need, .int .i64 x.nomap, .int .i64 x.noany, .slice s.a8 s.n8 s.c8, .slice s.a9 s.n9 s.c9] 34 (0, 0))
set_option linter.unusedVariables false in
theorem lc10_stb (s t : CES) (x : CE) (gx G B : Nat) (k : Nat) (hk : k < 7) : StB ((lc10 s t x gx G (B)).fact k) := by
  match k, hk with
  | 0, _ => exact fun _ _ _ h _ => h
  | 1, _ => exact fun _ _ _ h _ => h
  | 2, _ => exact fun _ _ _ ⟨u, hv, q_0⟩ hb => ⟨u, hv, q_0.kept hb⟩
  | 3, _ => exact fun _ _ _ h _ => h
  | 4, _ => exact fun _ _ _ h _ => h
  | 5, _ => exact fun _ _ _ q_0 hb => below_kept q_0 hb
  | 6, _ => exact fun _ _ _ q_0 hb => below_kept q_0 hb
  | k + 7, hk => omega

set_option maxRecDepth 10000 in
set_option maxHeartbeats 4000000 in
theorem lawCertOk_walk (s : CES) (x : CE) (w : World) (hm : MaxW w) (hu : U64 x.key.2.1) (h : CER w s x) :
    Calls Tryz.prog 3 #[CEv s x] w fun e w' => e = .returned (.bool true) ∧ Below w.heap.size w w' := by
  have HK : Hid (CER w s x) := h
  have HM : Hid (∀ W, Below w.heap.size w W → MaxW W) := fun W hW => hm.kept hW
  have HU : Hid (U64 x.key.2.1) := hu
  clear h hm hu
  show Calls Tryz.prog 3 #[.agg #[.int .i64 x.ser, .slice s.a1 s.n1 s.c1, .slice s.a2 s.n2 s.c2, .int .i64 x.frm, .int .i64 x.til, .int .i64 x.key.1, .int .u64 x.key.2.1, .int .i64 x.key.2.2, .bool x.ca, .int .i64 x.room, .int .i64 x.uses, .slice s.a3 s.n3 s.c3, .slice s.a4 s.n4 s.c4, .slice s.a5 s.n5 s.c5, .slice s.a6 s.n6 s.c6, .slice s.a7 s.n7 s.c7, .int .i64 x.need, .int .i64 x.nomap, .int .i64 x.noany, .slice s.a8 s.n8 s.c8, .slice s.a9 s.n9 s.c9]] w _
  obtain ⟨w0, hw0⟩ : ∃ w0, w0 = w.alloc (.cells #[.int .i64 x.ser, .slice s.a1 s.n1 s.c1, .slice s.a2 s.n2 s.c2, .int .i64 x.frm, .int .i64 x.til, .int .i64 x.key.1, .int .u64 x.key.2.1, .int .i64 x.key.2.2, .bool x.ca, .int .i64 x.room, .int .i64 x.uses, .slice s.a3 s.n3 s.c3, .slice s.a4 s.n4 s.c4, .slice s.a5 s.n5 s.c5, .slice s.a6 s.n6 s.c6, .slice s.a7 s.n7 s.c7, .int .i64 x.need, .int .i64 x.nomap, .int .i64 x.noany, .slice s.a8 s.n8 s.c8, .slice s.a9 s.n9 s.c9] 34) := ⟨_, rfl⟩
  have B0 : Hid (Below w.heap.size w w0) := by show Below _ _ _; rw [hw0]; exact (Below.refl _ _).alloc (Nat.le_refl _) _
  have L0 : Hid (w0.heap[w.heap.size]? = some (.cells #[.int .i64 x.ser, .slice s.a1 s.n1 s.c1, .slice s.a2 s.n2 s.c2, .int .i64 x.frm, .int .i64 x.til, .int .i64 x.key.1, .int .u64 x.key.2.1, .int .i64 x.key.2.2, .bool x.ca, .int .i64 x.room, .int .i64 x.uses, .slice s.a3 s.n3 s.c3, .slice s.a4 s.n4 s.c4, .slice s.a5 s.n5 s.c5, .slice s.a6 s.n6 s.c6, .slice s.a7 s.n7 s.c7, .int .i64 x.need, .int .i64 x.nomap, .int .i64 x.noany, .slice s.a8 s.n8 s.c8, .slice s.a9 s.n9 s.c9] 34 (0, 0))) := by show _ = _; rw [hw0]; exact heap_alloc_new w _
  have HSZ : Hid (∀ W, Below w.heap.size w W → Calls Tryz.prog 6 #[.agg #[.int .i64 x.ser, .slice s.a1 s.n1 s.c1, .slice s.a2 s.n2 s.c2, .int .i64 x.frm, .int .i64 x.til, .int .i64 x.key.1, .int .u64 x.key.2.1, .int .i64 x.key.2.2, .bool x.ca, .int .i64 x.room, .int .i64 x.uses, .slice s.a3 s.n3 s.c3, .slice s.a4 s.n4 s.c4, .slice s.a5 s.n5 s.c5, .slice s.a6 s.n6 s.c6, .slice s.a7 s.n7 s.c7, .int .i64 x.need, .int .i64 x.nomap, .int .i64 x.noany, .slice s.a8 s.n8 s.c8, .slice s.a9 s.n9 s.c9], .int .i64 1048576] W fun e w' => ∃ r, e = .returned (.int .i64 r) ∧ (r < 0 ∨ (0 ≤ r ∧ r ≤ 1048576 ∧ CEZ x)) ∧ Below W.heap.size W w') := fun W hW => szCert_k s x 1048576 W (HK.out.kept hW) (by decide) (by decide)
  go_enter Tryz.func3, Tryz.ntmps3
  go_upto_region 1 with fail
  rw [← hw0]
  clear hw0
  go_wp2_with (first | (refine wpList_load_row rfl 34 _ rfl w.heap.size rfl 34 #[.int .i64 x.ser, .slice s.a1 s.n1 s.c1, .slice s.a2 s.n2 s.c2, .int .i64 x.frm, .int .i64 x.til, .int .i64 x.key.1, .int .u64 x.key.2.1, .int .i64 x.key.2.2, .bool x.ca, .int .i64 x.room, .int .i64 x.uses, .slice s.a3 s.n3 s.c3, .slice s.a4 s.n4 s.c4, .slice s.a5 s.n5 s.c5, .slice s.a6 s.n6 s.c6, .slice s.a7 s.n7 s.c7, .int .i64 x.need, .int .i64 x.nomap, .int .i64 x.noany, .slice s.a8 s.n8 s.c8, .slice s.a9 s.n9 s.c9] (0, 0) _ L0.out Tryz.underlying34 rfl infoSizeL9 ?_) | fail)
  refine (HSZ.out _ B0.out).mono ?_
  rintro e w1 ⟨r, rfl, hr, hb1⟩
  have B1 : Hid (Below w.heap.size w w1) := B0.out.trans (hb1.mono B0.out.size)
  have L1 : Hid (w1.heap[w.heap.size]? = some (.cells #[.int .i64 x.ser, .slice s.a1 s.n1 s.c1, .slice s.a2 s.n2 s.c2, .int .i64 x.frm, .int .i64 x.til, .int .i64 x.key.1, .int .u64 x.key.2.1, .int .i64 x.key.2.2, .bool x.ca, .int .i64 x.room, .int .i64 x.uses, .slice s.a3 s.n3 s.c3, .slice s.a4 s.n4 s.c4, .slice s.a5 s.n5 s.c5, .slice s.a6 s.n6 s.c6, .slice s.a7 s.n7 s.c7, .int .i64 x.need, .int .i64 x.nomap, .int .i64 x.noany, .slice s.a8 s.n8 s.c8, .slice s.a9 s.n9 s.c9] 34 (0, 0))) := (hb1.block _ (Array.getElem?_eq_some_iff.1 L0.out).1).trans L0.out
  clear hb1 B0 L0 HSZ
  by_cases hneg : r < 0
  · clear hr
    go_wp2
    go_ret
    exact ⟨rfl, B1.out⟩
  have HZ : Hid (CEZ x) := by rcases hr with h | h; exact absurd h hneg; exact h.2.2
  clear hr
  have HTO : Hid (∀ W, Below w.heap.size w W → Calls Tryz.prog 8 #[.agg #[.int .i64 x.ser, .slice s.a1 s.n1 s.c1, .slice s.a2 s.n2 s.c2, .int .i64 x.frm, .int .i64 x.til, .int .i64 x.key.1, .int .u64 x.key.2.1, .int .i64 x.key.2.2, .bool x.ca, .int .i64 x.room, .int .i64 x.uses, .slice s.a3 s.n3 s.c3, .slice s.a4 s.n4 s.c4, .slice s.a5 s.n5 s.c5, .slice s.a6 s.n6 s.c6, .slice s.a7 s.n7 s.c7, .int .i64 x.need, .int .i64 x.nomap, .int .i64 x.noany, .slice s.a8 s.n8 s.c8, .slice s.a9 s.n9 s.c9]] W fun e w' => ∃ t : CES, e = .returned (CEv t x) ∧ CET t ∧ CER w' t x ∧ Below W.heap.size W w') := fun W hW => (toCert_k s x W (HK.out.kept hW) HZ.out).mono fun e w' ⟨t, h1, h2, h3, h4⟩ => ⟨t, h1, h2, h3.now, h4⟩
  go_wp2_with (first | (refine wpList_load_row rfl 34 _ rfl w.heap.size rfl 34 #[.int .i64 x.ser, .slice s.a1 s.n1 s.c1, .slice s.a2 s.n2 s.c2, .int .i64 x.frm, .int .i64 x.til, .int .i64 x.key.1, .int .u64 x.key.2.1, .int .i64 x.key.2.2, .bool x.ca, .int .i64 x.room, .int .i64 x.uses, .slice s.a3 s.n3 s.c3, .slice s.a4 s.n4 s.c4, .slice s.a5 s.n5 s.c5, .slice s.a6 s.n6 s.c6, .slice s.a7 s.n7 s.c7, .int .i64 x.need, .int .i64 x.nomap, .int .i64 x.noany, .slice s.a8 s.n8 s.c8, .slice s.a9 s.n9 s.c9] (0, 0) _ L1.out Tryz.underlying34 rfl infoSizeL9 ?_) | fail)
  refine (HTO.out _ B1.out).mono ?_
  rintro e w2 ⟨t1, rfl, ht1, hk2, hb2⟩
  have B2 : Hid (Below w.heap.size w w2) := B1.out.trans (hb2.mono B1.out.size)
  have L2 : Hid (w2.heap[w.heap.size]? = some (.cells #[.int .i64 x.ser, .slice s.a1 s.n1 s.c1, .slice s.a2 s.n2 s.c2, .int .i64 x.frm, .int .i64 x.til, .int .i64 x.key.1, .int .u64 x.key.2.1, .int .i64 x.key.2.2, .bool x.ca, .int .i64 x.room, .int .i64 x.uses, .slice s.a3 s.n3 s.c3, .slice s.a4 s.n4 s.c4, .slice s.a5 s.n5 s.c5, .slice s.a6 s.n6 s.c6, .slice s.a7 s.n7 s.c7, .int .i64 x.need, .int .i64 x.nomap, .int .i64 x.noany, .slice s.a8 s.n8 s.c8, .slice s.a9 s.n9 s.c9] 34 (0, 0))) := (hb2.block _ (Array.getElem?_eq_some_iff.1 L1.out).1).trans L1.out
  have S2 : Hid (Calls Tryz.prog 7 #[CEv t1 x] w2 (Says (ceP x) w2)) := specCertOk_any t1 x w2 hk2 HZ.out ht1 HU.out
  clear hb2 hk2 ht1 B1 L1
  go_wp2_with fail
  refine S2.out.mono ?_
  rintro e w3 ⟨v3, rfl, hv3, hb3⟩
  have B3 : Hid (Below w.heap.size w w3) := B2.out.trans (hb3.mono B2.out.size)
  have L3 : Hid (w3.heap[w.heap.size]? = some (.cells #[.int .i64 x.ser, .slice s.a1 s.n1 s.c1, .slice s.a2 s.n2 s.c2, .int .i64 x.frm, .int .i64 x.til, .int .i64 x.key.1, .int .u64 x.key.2.1, .int .i64 x.key.2.2, .bool x.ca, .int .i64 x.room, .int .i64 x.uses, .slice s.a3 s.n3 s.c3, .slice s.a4 s.n4 s.c4, .slice s.a5 s.n5 s.c5, .slice s.a6 s.n6 s.c6, .slice s.a7 s.n7 s.c7, .int .i64 x.need, .int .i64 x.nomap, .int .i64 x.noany, .slice s.a8 s.n8 s.c8, .slice s.a9 s.n9 s.c9] 34 (0, 0))) := (hb3.block _ (Array.getElem?_eq_some_iff.1 L2.out).1).trans L2.out
  clear hb3 S2 B2 L2
  go_wp2_with (first | (refine wpList_load_row rfl 34 _ rfl w.heap.size rfl 34 #[.int .i64 x.ser, .slice s.a1 s.n1 s.c1, .slice s.a2 s.n2 s.c2, .int .i64 x.frm, .int .i64 x.til, .int .i64 x.key.1, .int .u64 x.key.2.1, .int .i64 x.key.2.2, .bool x.ca, .int .i64 x.room, .int .i64 x.uses, .slice s.a3 s.n3 s.c3, .slice s.a4 s.n4 s.c4, .slice s.a5 s.n5 s.c5, .slice s.a6 s.n6 s.c6, .slice s.a7 s.n7 s.c7, .int .i64 x.need, .int .i64 x.nomap, .int .i64 x.noany, .slice s.a8 s.n8 s.c8, .slice s.a9 s.n9 s.c9] (0, 0) _ L3.out Tryz.underlying34 rfl infoSizeL9 ?_) | fail)
  refine (HTO.out _ B3.out).mono ?_
  rintro e w4 ⟨t, rfl, ht, hk4, hb4⟩
  have B4 : Hid (Below w.heap.size w w4) := B3.out.trans (hb4.mono B3.out.size)
  have L4 : Hid (w4.heap[w.heap.size]? = some (.cells #[.int .i64 x.ser, .slice s.a1 s.n1 s.c1, .slice s.a2 s.n2 s.c2, .int .i64 x.frm, .int .i64 x.til, .int .i64 x.key.1, .int .u64 x.key.2.1, .int .i64 x.key.2.2, .bool x.ca, .int .i64 x.room, .int .i64 x.uses, .slice s.a3 s.n3 s.c3, .slice s.a4 s.n4 s.c4, .slice s.a5 s.n5 s.c5, .slice s.a6 s.n6 s.c6, .slice s.a7 s.n7 s.c7, .int .i64 x.need, .int .i64 x.nomap, .int .i64 x.noany, .slice s.a8 s.n8 s.c8, .slice s.a9 s.n9 s.c9] 34 (0, 0))) := (hb4.block _ (Array.getElem?_eq_some_iff.1 L3.out).1).trans L3.out
  have hz4 : (w4.alloc (.cells #[.int .i64 0, .slice none 0 0, .slice none 0 0, .int .i64 0, .int .i64 0, .int .i64 0, .int .u64 0, .int .i64 0, .bool false, .int .i64 0, .int .i64 0, .slice none 0 0, .slice none 0 0, .slice none 0 0, .slice none 0 0, .slice none 0 0, .int .i64 0, .int .i64 0, .int .i64 0, .slice none 0 0, .slice none 0 0] 45)).heap[w4.heap.size]? = some (.cells #[.int .i64 0, .slice none 0 0, .slice none 0 0, .int .i64 0, .int .i64 0, .int .i64 0, .int .u64 0, .int .i64 0, .bool false, .int .i64 0, .int .i64 0, .slice none 0 0, .slice none 0 0, .slice none 0 0, .slice none 0 0, .slice none 0 0, .int .i64 0, .int .i64 0, .int .i64 0, .slice none 0 0, .slice none 0 0] 45 (0, 0)) := heap_alloc_new w4 _
  have HZ4 : Hid (_ = _) := hz4
  obtain ⟨w5, hw5⟩ : ∃ w5, w5 = (w4.alloc (.cells #[.int .i64 0, .slice none 0 0, .slice none 0 0, .int .i64 0, .int .i64 0, .int .i64 0, .int .u64 0, .int .i64 0, .bool false, .int .i64 0, .int .i64 0, .slice none 0 0, .slice none 0 0, .slice none 0 0, .slice none 0 0, .slice none 0 0, .int .i64 0, .int .i64 0, .int .i64 0, .slice none 0 0, .slice none 0 0] 45)).setRow w4.heap.size #[.int .i64 x.ser, .slice t.a1 t.n1 t.c1, .slice t.a2 t.n2 t.c2, .int .i64 x.frm, .int .i64 x.til, .int .i64 x.key.1, .int .u64 x.key.2.1, .int .i64 x.key.2.2, .bool x.ca, .int .i64 x.room, .int .i64 x.uses, .slice t.a3 t.n3 t.c3, .slice t.a4 t.n4 t.c4, .slice t.a5 t.n5 t.c5, .slice t.a6 t.n6 t.c6, .slice t.a7 t.n7 t.c7, .int .i64 x.need, .int .i64 x.nomap, .int .i64 x.noany, .slice t.a8 t.n8 t.c8, .slice t.a9 t.n9 t.c9] := ⟨_, rfl⟩
  have hb5 : Below w4.heap.size w4 w5 := by rw [hw5]; exact below_setRow ((Below.refl _ _).alloc (Nat.le_refl _) _) (Nat.le_refl _) _
  have X5 : Hid (w5.heap[w4.heap.size]? = some (.cells #[.int .i64 x.ser, .slice t.a1 t.n1 t.c1, .slice t.a2 t.n2 t.c2, .int .i64 x.frm, .int .i64 x.til, .int .i64 x.key.1, .int .u64 x.key.2.1, .int .i64 x.key.2.2, .bool x.ca, .int .i64 x.room, .int .i64 x.uses, .slice t.a3 t.n3 t.c3, .slice t.a4 t.n4 t.c4, .slice t.a5 t.n5 t.c5, .slice t.a6 t.n6 t.c6, .slice t.a7 t.n7 t.c7, .int .i64 x.need, .int .i64 x.nomap, .int .i64 x.noany, .slice t.a8 t.n8 t.c8, .slice t.a9 t.n9 t.c9] 45 (0, 0))) := by show _ = _; rw [hw5]; exact setRow_heap _ _ _ _ _ _ hz4
  have B5 : Hid (Below w.heap.size w w5) := B4.out.trans (hb5.mono B4.out.size)
  have L5 : Hid (w5.heap[w.heap.size]? = some (.cells #[.int .i64 x.ser, .slice s.a1 s.n1 s.c1, .slice s.a2 s.n2 s.c2, .int .i64 x.frm, .int .i64 x.til, .int .i64 x.key.1, .int .u64 x.key.2.1, .int .i64 x.key.2.2, .bool x.ca, .int .i64 x.room, .int .i64 x.uses, .slice s.a3 s.n3 s.c3, .slice s.a4 s.n4 s.c4, .slice s.a5 s.n5 s.c5, .slice s.a6 s.n6 s.c6, .slice s.a7 s.n7 s.c7, .int .i64 x.need, .int .i64 x.nomap, .int .i64 x.noany, .slice s.a8 s.n8 s.c8, .slice s.a9 s.n9 s.c9] 34 (0, 0))) := (hb5.block _ (Array.getElem?_eq_some_iff.1 L4.out).1).trans L4.out
  have K5 : Hid (CER w5 t x) := hk4.kept hb5
  have I5 : Hid (Calls Tryz.prog 9 #[.agg #[.int .i64 x.ser, .slice t.a1 t.n1 t.c1, .slice t.a2 t.n2 t.c2, .int .i64 x.frm, .int .i64 x.til, .int .i64 x.key.1, .int .u64 x.key.2.1, .int .i64 x.key.2.2, .bool x.ca, .int .i64 x.room, .int .i64 x.uses, .slice t.a3 t.n3 t.c3, .slice t.a4 t.n4 t.c4, .slice t.a5 t.n5 t.c5, .slice t.a6 t.n6 t.c6, .slice t.a7 t.n7 t.c7, .int .i64 x.need, .int .i64 x.nomap, .int .i64 x.noany, .slice t.a8 t.n8 t.c8, .slice t.a9 t.n9 t.c9]] w5 (Says (ceP x) w5)) := implCertOk_any t x w5 (HM.out _ B5.out) K5.out HZ.out ht HU.out
  have HW5 : Hid (_ = _) := hw5
  clear hw5 hb4 hb5 hk4 B3 L3 B4 L4 hz4
  go_upto_region 7 with (first | (refine wpList_store_rowTo rfl 45 _ _ rfl rfl w4.heap.size #[.int .i64 x.ser, .slice t.a1 t.n1 t.c1, .slice t.a2 t.n2 t.c2, .int .i64 x.frm, .int .i64 x.til, .int .i64 x.key.1, .int .u64 x.key.2.1, .int .i64 x.key.2.2, .bool x.ca, .int .i64 x.room, .int .i64 x.uses, .slice t.a3 t.n3 t.c3, .slice t.a4 t.n4 t.c4, .slice t.a5 t.n5 t.c5, .slice t.a6 t.n6 t.c6, .slice t.a7 t.n7 t.c7, .int .i64 x.need, .int .i64 x.nomap, .int .i64 x.noany, .slice t.a8 t.n8 t.c8, .slice t.a9 t.n9 t.c9] rfl rfl 45 #[.int .i64 0, .slice none 0 0, .slice none 0 0, .int .i64 0, .int .i64 0, .int .i64 0, .int .u64 0, .int .i64 0, .bool false, .int .i64 0, .int .i64 0, .slice none 0 0, .slice none 0 0, .slice none 0 0, .slice none 0 0, .slice none 0 0, .int .i64 0, .int .i64 0, .int .i64 0, .slice none 0 0, .slice none 0 0] HZ4.out infoSize9 rfl (by simp [Value.oneCell']) ?_) | fail)
  rw [← HW5.out]
  clear HW5
  go_wp2_with (first | (refine wpList_load_row rfl 45 _ rfl w4.heap.size rfl 45 #[.int .i64 x.ser, .slice t.a1 t.n1 t.c1, .slice t.a2 t.n2 t.c2, .int .i64 x.frm, .int .i64 x.til, .int .i64 x.key.1, .int .u64 x.key.2.1, .int .i64 x.key.2.2, .bool x.ca, .int .i64 x.room, .int .i64 x.uses, .slice t.a3 t.n3 t.c3, .slice t.a4 t.n4 t.c4, .slice t.a5 t.n5 t.c5, .slice t.a6 t.n6 t.c6, .slice t.a7 t.n7 t.c7, .int .i64 x.need, .int .i64 x.nomap, .int .i64 x.noany, .slice t.a8 t.n8 t.c8, .slice t.a9 t.n9 t.c9] (0, 0) _ X5.out Tryz.underlying45 rfl infoSize9 ?_) | fail)
  refine I5.out.mono ?_
  rintro e w6 ⟨v6, rfl, hv6, hb6⟩
  have B6 : Hid (Below w.heap.size w w6) := B5.out.trans (hb6.mono B5.out.size)
  have L6 : Hid (w6.heap[w.heap.size]? = some (.cells #[.int .i64 x.ser, .slice s.a1 s.n1 s.c1, .slice s.a2 s.n2 s.c2, .int .i64 x.frm, .int .i64 x.til, .int .i64 x.key.1, .int .u64 x.key.2.1, .int .i64 x.key.2.2, .bool x.ca, .int .i64 x.room, .int .i64 x.uses, .slice s.a3 s.n3 s.c3, .slice s.a4 s.n4 s.c4, .slice s.a5 s.n5 s.c5, .slice s.a6 s.n6 s.c6, .slice s.a7 s.n7 s.c7, .int .i64 x.need, .int .i64 x.nomap, .int .i64 x.noany, .slice s.a8 s.n8 s.c8, .slice s.a9 s.n9 s.c9] 34 (0, 0))) := (hb6.block _ (Array.getElem?_eq_some_iff.1 L5.out).1).trans L5.out
  have X6 : Hid (w6.heap[w4.heap.size]? = some (.cells #[.int .i64 x.ser, .slice t.a1 t.n1 t.c1, .slice t.a2 t.n2 t.c2, .int .i64 x.frm, .int .i64 x.til, .int .i64 x.key.1, .int .u64 x.key.2.1, .int .i64 x.key.2.2, .bool x.ca, .int .i64 x.room, .int .i64 x.uses, .slice t.a3 t.n3 t.c3, .slice t.a4 t.n4 t.c4, .slice t.a5 t.n5 t.c5, .slice t.a6 t.n6 t.c6, .slice t.a7 t.n7 t.c7, .int .i64 x.need, .int .i64 x.nomap, .int .i64 x.noany, .slice t.a8 t.n8 t.c8, .slice t.a9 t.n9 t.c9] 45 (0, 0))) := (hb6.block _ (Array.getElem?_eq_some_iff.1 X5.out).1).trans X5.out
  have K6 : Hid (CER w6 t x) := K5.out.kept hb6
  obtain rfl : v6 = v3 := says_one hv6 hv3
  have tne : (v6 != v6) = false := by simp
  have HTD : Hid (∀ W, Below w6.heap.size w6 W → Calls Tryz.prog 8 #[.agg #[.int .i64 x.ser, .slice s.a1 s.n1 s.c1, .slice s.a2 s.n2 s.c2, .int .i64 x.frm, .int .i64 x.til, .int .i64 x.key.1, .int .u64 x.key.2.1, .int .i64 x.key.2.2, .bool x.ca, .int .i64 x.room, .int .i64 x.uses, .slice s.a3 s.n3 s.c3, .slice s.a4 s.n4 s.c4, .slice s.a5 s.n5 s.c5, .slice s.a6 s.n6 s.c6, .slice s.a7 s.n7 s.c7, .int .i64 x.need, .int .i64 x.nomap, .int .i64 x.noany, .slice s.a8 s.n8 s.c8, .slice s.a9 s.n9 s.c9]] W fun e w' => ∃ u : CES, e = .returned (CEv u x) ∧ CER w' u x ∧ Below W.heap.size W w') := fun W hW => (HTO.out W (B6.out.trans (hW.mono B6.out.size))).mono fun e w' ⟨u, h1, h2, h3, h4⟩ => ⟨u, h1, h3, h4⟩
  have HEQ : Hid (∀ W (u : CES), Below w6.heap.size w6 W → CER W u x → Calls Tryz.prog 10 #[.agg #[.int .i64 x.ser, .slice t.a1 t.n1 t.c1, .slice t.a2 t.n2 t.c2, .int .i64 x.frm, .int .i64 x.til, .int .i64 x.key.1, .int .u64 x.key.2.1, .int .i64 x.key.2.2, .bool x.ca, .int .i64 x.room, .int .i64 x.uses, .slice t.a3 t.n3 t.c3, .slice t.a4 t.n4 t.c4, .slice t.a5 t.n5 t.c5, .slice t.a6 t.n6 t.c6, .slice t.a7 t.n7 t.c7, .int .i64 x.need, .int .i64 x.nomap, .int .i64 x.noany, .slice t.a8 t.n8 t.c8, .slice t.a9 t.n9 t.c9], CEv u x] W fun e w' => e = .returned (.bool true) ∧ Below W.heap.size W w') := fun W u hW hu => eqCert_k t u x W (K6.out.kept hW) hu HZ.out
  have HBB : w6.heap.size ≤ w6.heap.size := Nat.le_refl _
  clear hb6 hv3 hv6 I5 B5 L5 X5 K5
  go_upto_region 10 with fail
  refine wp_region_ri (lc10 s t x w4.heap.size w.heap.size (w6.heap.size)) [22, 23, 24, 25, 26] (w6.heap.size) (fun a0 => a0.tmps.size = 27 ∧ aT a0 1 = .pointer (some ⟨w.heap.size, 0, none⟩) ∧ aT a0 5 = .pointer (some ⟨w4.heap.size, 0, none⟩)) (by kernel_rfl) rfl (by kernel_rfl) rfl ⟨rfl, rfl, rfl⟩ (lc10_stb s t x w4.heap.size w.heap.size (w6.heap.size)) ?_ ?_ ?_
  · intro k hk hk2
    match k, hk, hk2 with
    | 5, _, _ => exact X6.out
    | 6, _, _ => exact L6.out
    | 0, hk, _ => exact absurd hk (by show ¬ (5 ≤ 0); omega)
    | 1, hk, _ => exact absurd hk (by show ¬ (5 ≤ 1); omega)
    | 2, hk, _ => exact absurd hk (by show ¬ (5 ≤ 2); omega)
    | 3, hk, _ => exact absurd hk (by show ¬ (5 ≤ 3); omega)
    | 4, hk, _ => exact absurd hk (by show ¬ (5 ≤ 4); omega)
    | k + 7, _, hk2 => exact absurd hk2 (by show ¬ (k + 7 < 7); omega)
  · rintro a0 ⟨hz, g1, g5⟩
    refine StepsRI.cons ?_ (StepsRI.cons ?_ (StepsRI.cons ?_ (StepsRI.cons ?_ (StepsRI.cons ?_ (StepsRI.nil)))))
    · intro lQ b W hI hUN hED KQ hKQ
      have hg := (hI.vot 5 (of_decide_eq_true rfl) (of_decide_eq_true rfl) rfl)
      refine wp_load_row 45 _ rfl (w4.heap.size) ((hI.fr.same 5 (by decide)).trans g5) 45 #[.int .i64 x.ser, .slice t.a1 t.n1 t.c1, .slice t.a2 t.n2 t.c2, .int .i64 x.frm, .int .i64 x.til, .int .i64 x.key.1, .int .u64 x.key.2.1, .int .i64 x.key.2.2, .bool x.ca, .int .i64 x.room, .int .i64 x.uses, .slice t.a3 t.n3 t.c3, .slice t.a4 t.n4 t.c4, .slice t.a5 t.n5 t.c5, .slice t.a6 t.n6 t.c6, .slice t.a7 t.n7 t.c7, .int .i64 x.need, .int .i64 x.nomap, .int .i64 x.noany, .slice t.a8 t.n8 t.c8, .slice t.a9 t.n9 t.c9] (0, 0) _ hg Tryz.underlying45 rfl (by kernel_rfl) ?_
      exact hKQ.out _ _ (hI.put 0 22 rfl rfl (by rw [hz]; decide) rfl hUN rfl HBB (lc10_stb s t x w4.heap.size w.heap.size (w6.heap.size)) (Below.refl _ _) rfl)
    · intro lQ b W hI hUN hED KQ hKQ
      have hg := (hI.vot 6 (of_decide_eq_true rfl) (of_decide_eq_true rfl) rfl)
      refine wp_load_row 34 _ rfl (w.heap.size) ((hI.fr.same 1 (by decide)).trans g1) 34 #[.int .i64 x.ser, .slice s.a1 s.n1 s.c1, .slice s.a2 s.n2 s.c2, .int .i64 x.frm, .int .i64 x.til, .int .i64 x.key.1, .int .u64 x.key.2.1, .int .i64 x.key.2.2, .bool x.ca, .int .i64 x.room, .int .i64 x.uses, .slice s.a3 s.n3 s.c3, .slice s.a4 s.n4 s.c4, .slice s.a5 s.n5 s.c5, .slice s.a6 s.n6 s.c6, .slice s.a7 s.n7 s.c7, .int .i64 x.need, .int .i64 x.nomap, .int .i64 x.noany, .slice s.a8 s.n8 s.c8, .slice s.a9 s.n9 s.c9] (0, 0) _ hg Tryz.underlying34 rfl (by kernel_rfl) ?_
      exact hKQ.out _ _ (hI.put 1 23 rfl rfl (by rw [hz]; decide) rfl hUN rfl HBB (lc10_stb s t x w4.heap.size w.heap.size (w6.heap.size)) (Below.refl _ _) rfl)
    · intro lQ b W hI hUN hED KQ hKQ
      have f0 := hI.got 1 (of_decide_eq_true rfl) (edge hED 1 (by kernel_rfl)) rfl
      replace f0 : aT b 23 = .agg #[.int .i64 x.ser, .slice s.a1 s.n1 s.c1, .slice s.a2 s.n2 s.c2, .int .i64 x.frm, .int .i64 x.til, .int .i64 x.key.1, .int .u64 x.key.2.1, .int .i64 x.key.2.2, .bool x.ca, .int .i64 x.room, .int .i64 x.uses, .slice s.a3 s.n3 s.c3, .slice s.a4 s.n4 s.c4, .slice s.a5 s.n5 s.c5, .slice s.a6 s.n6 s.c6, .slice s.a7 s.n7 s.c7, .int .i64 x.need, .int .i64 x.nomap, .int .i64 x.noany, .slice s.a8 s.n8 s.c8, .slice s.a9 s.n9 s.c9] := f0
      refine opw_call 8 #[.tmp 23] _ _ _ rfl Tryz.func8 (by kernel_rfl) rfl #[.agg #[.int .i64 x.ser, .slice s.a1 s.n1 s.c1, .slice s.a2 s.n2 s.c2, .int .i64 x.frm, .int .i64 x.til, .int .i64 x.key.1, .int .u64 x.key.2.1, .int .i64 x.key.2.2, .bool x.ca, .int .i64 x.room, .int .i64 x.uses, .slice s.a3 s.n3 s.c3, .slice s.a4 s.n4 s.c4, .slice s.a5 s.n5 s.c5, .slice s.a6 s.n6 s.c6, .slice s.a7 s.n7 s.c7, .int .i64 x.need, .int .i64 x.nomap, .int .i64 x.noany, .slice s.a8 s.n8 s.c8, .slice s.a9 s.n9 s.c9]] (by simp [ev, f0]) ?_
      refine (HTD.out W hI.bel).mono ?_
      rintro e W2 ⟨u, rfl, hk, hb⟩
      exact ⟨_, rfl, hKQ.out _ _ (hI.put 2 24 rfl rfl (by rw [hz]; decide) rfl hUN rfl HBB (lc10_stb s t x w4.heap.size w.heap.size (w6.heap.size)) hb ⟨u, rfl, hk⟩)⟩
    · intro lQ b W hI hUN hED KQ hKQ
      have f0 := hI.got 0 (of_decide_eq_true rfl) (edge hED 0 (by kernel_rfl)) rfl
      replace f0 : aT b 22 = .agg #[.int .i64 x.ser, .slice t.a1 t.n1 t.c1, .slice t.a2 t.n2 t.c2, .int .i64 x.frm, .int .i64 x.til, .int .i64 x.key.1, .int .u64 x.key.2.1, .int .i64 x.key.2.2, .bool x.ca, .int .i64 x.room, .int .i64 x.uses, .slice t.a3 t.n3 t.c3, .slice t.a4 t.n4 t.c4, .slice t.a5 t.n5 t.c5, .slice t.a6 t.n6 t.c6, .slice t.a7 t.n7 t.c7, .int .i64 x.need, .int .i64 x.nomap, .int .i64 x.noany, .slice t.a8 t.n8 t.c8, .slice t.a9 t.n9 t.c9] := f0
      have f1 := hI.got 2 (of_decide_eq_true rfl) (edge hED 2 (by kernel_rfl)) rfl
      obtain ⟨u, f1, o1_0⟩ := f1
      replace f1 : aT b 24 = CEv u x := f1
      refine opw_call 10 #[.tmp 22, .tmp 24] _ _ _ rfl Tryz.func10 (by kernel_rfl) rfl #[.agg #[.int .i64 x.ser, .slice t.a1 t.n1 t.c1, .slice t.a2 t.n2 t.c2, .int .i64 x.frm, .int .i64 x.til, .int .i64 x.key.1, .int .u64 x.key.2.1, .int .i64 x.key.2.2, .bool x.ca, .int .i64 x.room, .int .i64 x.uses, .slice t.a3 t.n3 t.c3, .slice t.a4 t.n4 t.c4, .slice t.a5 t.n5 t.c5, .slice t.a6 t.n6 t.c6, .slice t.a7 t.n7 t.c7, .int .i64 x.need, .int .i64 x.nomap, .int .i64 x.noany, .slice t.a8 t.n8 t.c8, .slice t.a9 t.n9 t.c9], CEv u x] (by simp [ev, f0, f1]) ?_
      refine (HEQ.out W u hI.bel o1_0).mono ?_
      rintro e W2 ⟨rfl, hb⟩
      exact ⟨_, rfl, hKQ.out _ _ (hI.put 3 25 rfl rfl (by rw [hz]; decide) rfl hUN rfl HBB (lc10_stb s t x w4.heap.size w.heap.size (w6.heap.size)) hb rfl)⟩
    · intro lQ b W hI hUN hED KQ hKQ
      have f : aT b 25 = .bool true := hI.got 3 (of_decide_eq_true rfl) (edge hED 3 (by kernel_rfl)) rfl
      exact opw_not _ 25 rfl true f (hKQ.out _ _ (hI.put 4 26 rfl rfl (by rw [hz]; decide) rfl hUN rfl HBB (lc10_stb s t x w4.heap.size w.heap.size (w6.heap.size)) (Below.refl _ _) rfl))
  · intro b W hf hb F
    have e26 : aT b 26 = .bool false := F 4 (of_decide_eq_true rfl) rfl
    rw [hf.eq]
    simp only [puts, Act.put, List.setIfInBounds_toArray, List.set_cons_zero, List.set_cons_succ, e26]
    clear hf F e26
    generalize aT b = AT
    clear b
    go_wp2
    go_ret
    exact ⟨rfl, B6.out.trans (hb.mono B6.out.size)⟩

end Go.Proofs.YtkpabanjlhlmfaaGreatDoor

namespace Go.Proofs.YtkpabanjlhlmfaaGreatDoor
open Go.ChangeShapes Go.WideShapes Go.ChangeAt Go.RowKit

def OpensP (y : PT) (cs : List Value) : Prop := cs = [.int .i64 y.attr, .string y.val] ∧ y.val.size ≤ 9223372036854775807

set_option maxRecDepth 20000 in
theorem open_part {H : Type} {enc : TypeId × Value → H} {W : World} {fuel : Nat} {cs : List Value} {x : DataW H × List MemPlace} (h : DataW.trod enc Tryz.prog W 0 (fun _ => true) true fuel 147 cs = some x) : ∃ y, OpensP y cs := by
  obtain ⟨xs, m, rfl, _, hl, hxl, hf⟩ := DataW.trod_struct Tryz.underlying147 h
  have hl2 : cs.length = 2 := hl.trans (by kernel_rfl)
  have hx2 : xs.length = 2 := hxl
  obtain ⟨c0, c1, rfl⟩ : ∃ c0 c1, cs = [c0, c1] := by
    match cs, hl2 with
    | [c0, c1], _ => exact ⟨c0, c1, rfl⟩
  obtain ⟨x0, x1, rfl⟩ : ∃ c0 c1, xs = [c0, c1] := by
    match xs, hx2 with
    | [c0, c1], _ => exact ⟨c0, c1, rfl⟩
  have e1 : Tryz.prog.cellsOf 2 = 1 := by kernel_rfl
  have e2 : Tryz.prog.cellsOf 9 = 1 := by kernel_rfl
  have f0 : DataW.trod enc Tryz.prog W 0 (fun _ => true) true m 2 ((([c0, c1] : List Value).drop 0).take (Tryz.prog.cellsOf 2)) = some x0 := hf 0 _ rfl
  rw [e1] at f0
  have f1 : DataW.trod enc Tryz.prog W 0 (fun _ => true) true m 9 ((([c0, c1] : List Value).drop 1).take (Tryz.prog.cellsOf 9)) = some x1 := hf 1 _ rfl
  rw [e2] at f1
  obtain ⟨n0, h0, _, _⟩ := DataW.trod_int Tryz.underlying2 f0
  obtain ⟨s1, h1, _, hs⟩ := DataW.trod_string Tryz.underlying9 f1
  simp at h0 h1
  subst h0 h1
  exact ⟨⟨n0, s1⟩, rfl, by unfold maxLen at hs; show s1.size ≤ _; omega⟩

set_option maxRecDepth 20000 in
theorem open_parts {H : Type} {enc : TypeId × Value → H} {W : World} {fuel : Nat} {cs : List Value} {x : DataW H × List MemPlace} (h : DataW.trod enc Tryz.prog W 0 (fun _ => true) true fuel 22 cs = some x) : ∃ a n c xs, cs = [.slice a n c] ∧ Pts W a n xs := by
  rcases DataW.trod_slice Tryz.underlying22 h with ⟨rfl, _⟩ | ⟨a, len, cap, elems, rest, n, rfl, rfl, _, _, hl, hm, hlen, hel, _, _⟩
  · exact ⟨none, 0, 0, [], rfl, ⟨rfl, by decide, fun k hk => absurd hk (by omega)⟩⟩
  · have ec : Tryz.prog.cellsOf 147 = 2 := by kernel_rfl
    rw [ec] at hel
    have each : ∀ i, i < len → ∃ y : PT, ∃ cs', W.cells? 0 (a.add (i * 2)) 2 = some cs' ∧ OpensP y cs' := by
      intro i hi
      have he := hel i hi
      rw [List.getElem?_eq_getElem (by omega)] at he
      cases hc : W.cells? 0 (a.add (i * 2)) 2 with
      | none => rw [hc] at he; cases he
      | some cs' =>
        rw [hc] at he
        obtain ⟨y, hy⟩ := open_part he
        exact ⟨y, cs', rfl, hy⟩
    obtain ⟨y, hy⟩ := Go.Deep.choose_lt each
    have hm' : len ≤ 9223372036854775807 := by unfold maxLen at hm; omega
    refine ⟨some a, len, cap, (List.range len).map y, rfl, ⟨by simp, hm', fun k hk => ?_⟩⟩
    obtain ⟨cs', hcs, rfl, hnk⟩ := hy k hk
    obtain ⟨_, _, hcell⟩ := World.cells?_some hcs
    obtain ⟨b, off, spot⟩ := a
    have hs : spot = none := by
      obtain ⟨cs0, hcs0, _⟩ := hy 0 (by omega)
      obtain ⟨_, hl0, hcell0⟩ := World.cells?_some hcs0
      have h00 := hcell0 0 (by omega)
      rw [List.getElem?_eq_getElem (by omega)] at h00
      simpa [Addr.add] using World.cell?_spot h00
    subst hs
    have ey : ((List.range len).map y).getD k default = y k := by simp [hk]
    rw [ey]
    have cc : ∀ j, j < 2 → W.cell? ⟨b, off + k * 2 + j, none⟩ = [Value.int .i64 (y k).attr, .string (y k).val][j]? := by
      intro j hj
      have := hcell j hj
      rw [Addr.add_lit, Addr.add_lit] at this
      exact this
    exact ⟨b, off, rfl, World.block_lt_of_cell? W _ (cc 0 (by omega)), ⟨cc 0 (by omega), cc 1 (by omega)⟩, hnk⟩

set_option maxRecDepth 20000 in
theorem open_name {H : Type} {enc : TypeId × Value → H} {W : World} {fuel : Nat} {cs : List Value} {x : DataW H × List MemPlace} (h : DataW.trod enc Tryz.prog W 0 (fun _ => true) true fuel 24 cs = some x) : ∃ a n c xs, cs = [.slice a n c] ∧ Pts W a n xs := by
  obtain ⟨xs, m, rfl, _, hl, hxl, hf⟩ := DataW.trod_struct Tryz.underlying24 h
  have hl2 : cs.length = 1 := hl.trans (by kernel_rfl)
  have hx2 : xs.length = 1 := hxl
  obtain ⟨c0, rfl⟩ : ∃ c0, cs = [c0] := by
    match cs, hl2 with
    | [c0], _ => exact ⟨c0, rfl⟩
  obtain ⟨x0, rfl⟩ : ∃ c0, xs = [c0] := by
    match xs, hx2 with
    | [c0], _ => exact ⟨c0, rfl⟩
  have e1 : Tryz.prog.cellsOf 22 = 1 := by kernel_rfl
  have f0 : DataW.trod enc Tryz.prog W 0 (fun _ => true) true m 22 ((([c0] : List Value).drop 0).take (Tryz.prog.cellsOf 22)) = some x0 := hf 0 _ rfl
  rw [e1] at f0
  exact open_parts f0

end Go.Proofs.YtkpabanjlhlmfaaGreatDoor

namespace Go.Proofs.YtkpabanjlhlmfaaGreatDoor
open Go.ChangeShapes Go.WideShapes Go.ChangeAt Go.RowKit

set_option maxRecDepth 20000 in
theorem open_gen {H : Type} {enc : TypeId × Value → H} {W : World} {fuel : Nat} {cs : List Value} {x : DataW H × List MemPlace} (h : DataW.trod enc Tryz.prog W 0 (fun _ => true) true fuel 93 cs = some x) :
    ∃ g : GT, ∃ a n c xs, cs = [.int .i64 g.kind, .string g.text, .int .i64 g.addr, .int .i64 g.bits, .slice a n c] ∧ Pts W a n xs ∧ g.text.size ≤ 9223372036854775807 := by
  obtain ⟨xs, m, rfl, _, hl, hxl, hf⟩ := DataW.trod_struct Tryz.underlying93 h
  have hl2 : cs.length = 5 := hl.trans (by kernel_rfl)
  have hx2 : xs.length = 5 := hxl
  obtain ⟨c0, c1, c2, c3, c4, rfl⟩ : ∃ c0 c1 c2 c3 c4, cs = [c0, c1, c2, c3, c4] := by
    match cs, hl2 with
    | [c0, c1, c2, c3, c4], _ => exact ⟨c0, c1, c2, c3, c4, rfl⟩
  obtain ⟨x0, x1, x2, x3, x4, rfl⟩ : ∃ c0 c1 c2 c3 c4, xs = [c0, c1, c2, c3, c4] := by
    match xs, hx2 with
    | [c0, c1, c2, c3, c4], _ => exact ⟨c0, c1, c2, c3, c4, rfl⟩
  have e1 : Tryz.prog.cellsOf 2 = 1 := by kernel_rfl
  have e2 : Tryz.prog.cellsOf 9 = 1 := by kernel_rfl
  have e3 : Tryz.prog.cellsOf 24 = 1 := by kernel_rfl
  have f0 : DataW.trod enc Tryz.prog W 0 (fun _ => true) true m 2 ((([c0, c1, c2, c3, c4] : List Value).drop 0).take (Tryz.prog.cellsOf 2)) = some x0 := hf 0 _ rfl
  have f1 : DataW.trod enc Tryz.prog W 0 (fun _ => true) true m 9 ((([c0, c1, c2, c3, c4] : List Value).drop 1).take (Tryz.prog.cellsOf 9)) = some x1 := hf 1 _ rfl
  have f2 : DataW.trod enc Tryz.prog W 0 (fun _ => true) true m 2 ((([c0, c1, c2, c3, c4] : List Value).drop 2).take (Tryz.prog.cellsOf 2)) = some x2 := hf 2 _ rfl
  have f3 : DataW.trod enc Tryz.prog W 0 (fun _ => true) true m 2 ((([c0, c1, c2, c3, c4] : List Value).drop 3).take (Tryz.prog.cellsOf 2)) = some x3 := hf 3 _ rfl
  have f4 : DataW.trod enc Tryz.prog W 0 (fun _ => true) true m 24 ((([c0, c1, c2, c3, c4] : List Value).drop 4).take (Tryz.prog.cellsOf 24)) = some x4 := hf 4 _ rfl
  rw [e1] at f0 f2 f3
  rw [e2] at f1
  rw [e3] at f4
  obtain ⟨n0, h0, _, _⟩ := DataW.trod_int Tryz.underlying2 f0
  obtain ⟨s1, h1, _, hs⟩ := DataW.trod_string Tryz.underlying9 f1
  obtain ⟨n2, h2, _, _⟩ := DataW.trod_int Tryz.underlying2 f2
  obtain ⟨n3, h3, _, _⟩ := DataW.trod_int Tryz.underlying2 f3
  obtain ⟨a, n, c, ys, h4, hp⟩ := open_name f4
  simp at h0 h1 h2 h3 h4
  subst h0 h1 h2 h3 h4
  exact ⟨⟨n0, s1, n2, n3⟩, a, n, c, ys, rfl, hp, by unfold maxLen at hs; show s1.size ≤ _; omega⟩

end Go.Proofs.YtkpabanjlhlmfaaGreatDoor

namespace Go.Proofs.YtkpabanjlhlmfaaGreatDoor
open Go.ChangeShapes Go.WideShapes Go.ChangeAt Go.RowKit

def OpensE (W : World) (y : Option Addr × Nat × Nat × GE) (cs : List Value) : Prop := cs = [.int .i64 y.2.2.2.g.kind, .string y.2.2.2.g.text, .int .i64 y.2.2.2.g.addr, .int .i64 y.2.2.2.g.bits, .slice y.1 y.2.1 y.2.2.1] ∧ Pts W y.1 y.2.1 y.2.2.2.parts ∧ y.2.2.2.g.text.size ≤ 9223372036854775807

set_option maxRecDepth 20000 in
theorem open_gens {H : Type} {enc : TypeId × Value → H} {W : World} {fuel : Nat} {cs : List Value} {x : DataW H × List MemPlace} (h : DataW.trod enc Tryz.prog W 0 (fun _ => true) true fuel 28 cs = some x) : ∃ a n c xs, cs = [.slice a n c] ∧ Ges W a n xs := by
  rcases DataW.trod_slice Tryz.underlying28 h with ⟨rfl, _⟩ | ⟨a, len, cap, elems, rest, n, rfl, rfl, _, _, hl, hm, hlen, hel, _, _⟩
  · exact ⟨none, 0, 0, [], rfl, ⟨rfl, by decide, fun k hk => absurd hk (by omega)⟩⟩
  · have ec : Tryz.prog.cellsOf 93 = 5 := by kernel_rfl
    rw [ec] at hel
    have each : ∀ i, i < len → ∃ y : Option Addr × Nat × Nat × GE, ∃ cs', W.cells? 0 (a.add (i * 5)) 5 = some cs' ∧ OpensE W y cs' := by
      intro i hi
      have he := hel i hi
      rw [List.getElem?_eq_getElem (by omega)] at he
      cases hc : W.cells? 0 (a.add (i * 5)) 5 with
      | none => rw [hc] at he; cases he
      | some cs' =>
        rw [hc] at he
        obtain ⟨g, a1, n1, c1, ps, hcs, hp, hs⟩ := open_gen he
        exact ⟨(a1, n1, c1, ⟨g, ps⟩), cs', rfl, hcs, hp, hs⟩
    obtain ⟨y, hy⟩ := Go.Deep.choose_lt each
    have hm' : len ≤ 9223372036854775807 := by unfold maxLen at hm; omega
    refine ⟨some a, len, cap, (List.range len).map (fun i => (y i).2.2.2), rfl, ⟨by simp, hm', fun k hk => ?_⟩⟩
    obtain ⟨cs', hcs, rfl, hnk, hsk⟩ := hy k hk
    obtain ⟨_, _, hcell⟩ := World.cells?_some hcs
    obtain ⟨b, off, spot⟩ := a
    have hs : spot = none := by
      obtain ⟨cs0, hcs0, _⟩ := hy 0 (by omega)
      obtain ⟨_, hl0, hcell0⟩ := World.cells?_some hcs0
      have h00 := hcell0 0 (by omega)
      rw [List.getElem?_eq_getElem (by omega)] at h00
      simpa [Addr.add] using World.cell?_spot h00
    subst hs
    have ey : ((List.range len).map (fun i => (y i).2.2.2)).getD k default = (y k).2.2.2 := by simp [hk]
    rw [ey]
    have cc : ∀ j, j < 5 → W.cell? ⟨b, off + k * 5 + j, none⟩ = [Value.int .i64 (y k).2.2.2.g.kind, .string (y k).2.2.2.g.text, .int .i64 (y k).2.2.2.g.addr, .int .i64 (y k).2.2.2.g.bits, .slice (y k).1 (y k).2.1 (y k).2.2.1][j]? := by
      intro j hj
      have := hcell j hj
      rw [Addr.add_lit, Addr.add_lit] at this
      exact this
    exact ⟨b, off, _, _, _, rfl, World.block_lt_of_cell? W _ (cc 0 (by omega)), ⟨cc 0 (by omega), cc 1 (by omega), cc 2 (by omega), cc 3 (by omega), cc 4 (by omega)⟩, hnk, hsk⟩

set_option maxRecDepth 20000 in
theorem open_pub {H : Type} {enc : TypeId × Value → H} {W : World} {fuel : Nat} {cs : List Value} {x : DataW H × List MemPlace} (h : DataW.trod enc Tryz.prog W 0 (fun _ => true) true fuel 27 cs = some x) : ∃ s y k : Int, cs = [.int .i64 s, .int .u64 y, .int .i64 k] ∧ U64 y := by
  obtain ⟨xs, m, rfl, _, hl, hxl, hf⟩ := DataW.trod_struct Tryz.underlying27 h
  have hl2 : cs.length = 3 := hl.trans (by kernel_rfl)
  have hx2 : xs.length = 3 := hxl
  obtain ⟨c0, c1, c2, rfl⟩ : ∃ c0 c1 c2, cs = [c0, c1, c2] := by
    match cs, hl2 with
    | [c0, c1, c2], _ => exact ⟨c0, c1, c2, rfl⟩
  obtain ⟨x0, x1, x2, rfl⟩ : ∃ y0 y1 y2, xs = [y0, y1, y2] := by
    match xs, hx2 with
    | [y0, y1, y2], _ => exact ⟨y0, y1, y2, rfl⟩
  have e0 : Tryz.prog.cellsOf 2 = 1 := by kernel_rfl
  have f0 : DataW.trod enc Tryz.prog W 0 (fun _ => true) true m 2 ((([c0, c1, c2] : List Value).drop 0).take (Tryz.prog.cellsOf 2)) = some x0 := hf 0 _ rfl
  rw [e0] at f0
  have e1 : Tryz.prog.cellsOf 25 = 1 := by kernel_rfl
  have f1 : DataW.trod enc Tryz.prog W 0 (fun _ => true) true m 25 ((([c0, c1, c2] : List Value).drop 1).take (Tryz.prog.cellsOf 25)) = some x1 := hf 1 _ rfl
  rw [e1] at f1
  have e2 : Tryz.prog.cellsOf 2 = 1 := by kernel_rfl
  have f2 : DataW.trod enc Tryz.prog W 0 (fun _ => true) true m 2 ((([c0, c1, c2] : List Value).drop 2).take (Tryz.prog.cellsOf 2)) = some x2 := hf 2 _ rfl
  rw [e2] at f2
  obtain ⟨n0, h0, _, _⟩ := DataW.trod_int Tryz.underlying2 f0
  obtain ⟨n1, h1, _, hw⟩ := DataW.trod_int Tryz.underlying25 f1
  obtain ⟨n2, h2, _, _⟩ := DataW.trod_int Tryz.underlying2 f2
  simp at h0 h1 h2
  subst h0 h1 h2
  exact ⟨n0, n1, n2, rfl, bounds_u64 hw⟩

end Go.Proofs.YtkpabanjlhlmfaaGreatDoor

namespace Go.Proofs.YtkpabanjlhlmfaaGreatDoor
open Go.ChangeShapes Go.WideShapes Go.ChangeAt Go.RowKit

/-- An entry that came in: its name's slice and what it holds. -/
def OpensG (W : World) (y : Option Addr × Nat × Nat × GP) (cs : List Value) : Prop := cs = [.slice y.1 y.2.1 y.2.2.1, .int .i64 y.2.2.2.ser, .int .i64 y.2.2.2.tm, .int .i64 y.2.2.2.rs] ∧ Pts W y.1 y.2.1 y.2.2.2.parts

set_option maxRecDepth 20000 in
theorem open_sig {H : Type} {enc : TypeId × Value → H} {W : World} {fuel : Nat} {cs : List Value} {x : DataW H × List MemPlace} (h : DataW.trod enc Tryz.prog W 0 (fun _ => true) true fuel 32 cs = some x) : ∃ a n c bs, cs = [.slice a n c] ∧ Row W a n bs ∧ n ≤ 9223372036854775807 := by
  rcases open_ints Tryz.underlying32 Tryz.underlying5 (by kernel_rfl) h with ⟨rfl, _⟩ | ⟨a, len, cap, zs, rfl, _, hl, hm, hz, _, hc, hw⟩
  · exact ⟨none, 0, 0, [], rfl, ⟨rfl, fun k hk => absurd hk (Nat.not_lt_zero _), by simp⟩, by decide⟩
  · have hr : IsRow .u8 W (some a) len cap zs := .inr ⟨a, rfl, hl, hm, by simpa using hz, hc, hw⟩
    exact ⟨some a, len, cap, zs.take len, rfl, hr.row.1, by unfold maxLen at hm; omega⟩

end Go.Proofs.YtkpabanjlhlmfaaGreatDoor

set_option linter.unusedVariables false
namespace Go.Proofs.YtkpabanjlhlmfaaGreatDoor
open Go.ChangeShapes Go.WideShapes Go.ChangeAt Go.RowKit

set_option maxRecDepth 20000 in
theorem open_pm {H : Type} {enc : TypeId × Value → H} {W : World} {fuel : Nat} {cs : List Value} {x : DataW H × List MemPlace} (h : DataW.trod enc Tryz.prog W 0 (fun _ => true) true fuel 127 cs = some x) : ∃ y : Int × Int, cs = [.int .i64 y.1, .int .i64 y.2] := by
  obtain ⟨xs, m, rfl, _, hl, hxl, hf⟩ := DataW.trod_struct Tryz.underlying127 h
  have hl2 : cs.length = 2 := hl.trans (by kernel_rfl)
  have hx2 : xs.length = 2 := hxl
  obtain ⟨c0, c1, rfl⟩ : ∃ c0 c1, cs = [c0, c1] := by
    match cs, hl2 with
    | [c0, c1], _ => exact ⟨c0, c1, rfl⟩
  obtain ⟨x0, x1, rfl⟩ : ∃ c0 c1, xs = [c0, c1] := by
    match xs, hx2 with
    | [c0, c1], _ => exact ⟨c0, c1, rfl⟩
  have e1 : Tryz.prog.cellsOf 2 = 1 := by kernel_rfl
  have f0 : DataW.trod enc Tryz.prog W 0 (fun _ => true) true m 2 ((([c0, c1] : List Value).drop 0).take (Tryz.prog.cellsOf 2)) = some x0 := hf 0 _ rfl
  rw [e1] at f0
  have f1 : DataW.trod enc Tryz.prog W 0 (fun _ => true) true m 2 ((([c0, c1] : List Value).drop 1).take (Tryz.prog.cellsOf 2)) = some x1 := hf 1 _ rfl
  rw [e1] at f1
  obtain ⟨n0, h0, _, _⟩ := DataW.trod_int Tryz.underlying2 f0
  obtain ⟨n1, h1, _, _⟩ := DataW.trod_int Tryz.underlying2 f1
  simp at h0 h1
  subst h0 h1
  exact ⟨(n0, n1), rfl⟩

set_option maxRecDepth 20000 in
theorem open_pms {H : Type} {enc : TypeId × Value → H} {W : World} {fuel : Nat} {cs : List Value} {x : DataW H × List MemPlace} (h : DataW.trod enc Tryz.prog W 0 (fun _ => true) true fuel 30 cs = some x) : ∃ a n c xs, cs = [.slice a n c] ∧ Pms W a n xs := by
  rcases DataW.trod_slice Tryz.underlying30 h with ⟨rfl, _⟩ | ⟨a, len, cap, elems, rest, n, rfl, rfl, _, _, hl, hm, hlen, hel, _, _⟩
  · exact ⟨none, 0, 0, [], rfl, ⟨rfl, by decide, fun k hk => absurd hk (by omega)⟩⟩
  · have ec : Tryz.prog.cellsOf 127 = 2 := by kernel_rfl
    rw [ec] at hel
    have each : ∀ i, i < len → ∃ y : Int × Int, ∃ cs', W.cells? 0 (a.add (i * 2)) 2 = some cs' ∧ cs' = [.int .i64 y.1, .int .i64 y.2] := by
      intro i hi
      have he := hel i hi
      rw [List.getElem?_eq_getElem (by omega)] at he
      cases hc : W.cells? 0 (a.add (i * 2)) 2 with
      | none => rw [hc] at he; cases he
      | some cs' =>
        rw [hc] at he
        obtain ⟨y, hy⟩ := open_pm he
        exact ⟨y, cs', rfl, hy⟩
    obtain ⟨y, hy⟩ := Go.Deep.choose_lt each
    have hm' : len ≤ 9223372036854775807 := by unfold maxLen at hm; omega
    refine ⟨some a, len, cap, (List.range len).map y, rfl, ⟨by simp, hm', fun k hk => ?_⟩⟩
    obtain ⟨cs', hcs, rfl⟩ := hy k hk
    obtain ⟨_, _, hcell⟩ := World.cells?_some hcs
    obtain ⟨b, off, spot⟩ := a
    have hs : spot = none := by
      obtain ⟨cs0, hcs0, _⟩ := hy 0 (by omega)
      obtain ⟨_, hl0, hcell0⟩ := World.cells?_some hcs0
      have h00 := hcell0 0 (by omega)
      rw [List.getElem?_eq_getElem (by omega)] at h00
      simpa [Addr.add] using World.cell?_spot h00
    subst hs
    have ey : ((List.range len).map y).getD k (0, 0) = y k := by simp [hk]
    rw [ey]
    have cc : ∀ j, j < 2 → W.cell? ⟨b, off + k * 2 + j, none⟩ = [Value.int .i64 (y k).1, .int .i64 (y k).2][j]? := by
      intro j hj
      have := hcell j hj
      rw [Addr.add_lit, Addr.add_lit] at this
      exact this
    exact ⟨b, off, rfl, World.block_lt_of_cell? W _ (cc 0 (by omega)), cc 0 (by omega), cc 1 (by omega)⟩

theorem open_row64C {H : Type} {enc : TypeId × Value → H} {W : World} {fuel : Nat} {cs : List Value} {x : DataW H × List MemPlace} (h : DataW.trod enc Tryz.prog W 0 (fun _ => true) true fuel 29 cs = some x) :
    ∃ a n cap zs, cs = [.slice a n cap] ∧ Row64 W a n zs ∧ n ≤ 9223372036854775807 := by
  rcases open_ints Tryz.underlying29 Tryz.underlying2 (by kernel_rfl) h with ⟨rfl, _⟩ | ⟨a, len, cap, zs, rfl, _, hl, hm, hz, _, hc, hwz⟩
  · exact ⟨none, 0, 0, [], rfl, ⟨rfl, fun k hk => absurd hk (Nat.not_lt_zero _)⟩, by decide⟩
  · have hz' : zs.length = cap := by simpa using hz
    refine ⟨some a, len, cap, zs.take len, rfl, ⟨by rw [List.length_take]; omega, fun k hk => ?_⟩, by unfold maxLen at hm; omega⟩
    have h0 := hc k (by omega)
    obtain ⟨b, off, spot⟩ := a
    have hs : spot = none := by simpa [Addr.add] using World.cell?_spot (hc 0 (by omega))
    subst hs
    rw [Addr.add_lit] at h0
    refine ⟨b, off, rfl, World.block_lt_of_cell? W _ h0, h0.trans ?_⟩
    simp [hk]

set_option maxRecDepth 20000 in
theorem open_Ext {H : Type} {enc : TypeId × Value → H} {W : World} {fuel : Nat} {cs : List Value} {x : DataW H × List MemPlace} (h : DataW.trod enc Tryz.prog W 0 (fun _ => true) true fuel 120 cs = some x) : ∃ (s : XPS) (y : XP), cs = [.int .i64 y.id, .bool y.crit, .slice s.a1 s.n1 s.c1] ∧ XPR W s y := by
  obtain ⟨xs, m, rfl, _, hl, hxl, hf⟩ := DataW.trod_struct Tryz.underlying120 h
  have hl2 : cs.length = 3 := hl.trans (by kernel_rfl)
  have hx2 : xs.length = 3 := hxl
  obtain ⟨c0, c1, c2, rfl⟩ : ∃ c0 c1 c2, cs = [c0, c1, c2] := by
    match cs, hl2 with
    | [c0, c1, c2], _ => exact ⟨c0, c1, c2, rfl⟩
  obtain ⟨x0, x1, x2, rfl⟩ : ∃ y0 y1 y2, xs = [y0, y1, y2] := by
    match xs, hx2 with
    | [y0, y1, y2], _ => exact ⟨y0, y1, y2, rfl⟩
  have e0 : Tryz.prog.cellsOf 2 = 1 := by kernel_rfl
  have f0 : DataW.trod enc Tryz.prog W 0 (fun _ => true) true m 2 ((([c0, c1, c2] : List Value).drop 0).take (Tryz.prog.cellsOf 2)) = some x0 := hf 0 _ rfl
  rw [e0] at f0
  have e1 : Tryz.prog.cellsOf 4 = 1 := by kernel_rfl
  have f1 : DataW.trod enc Tryz.prog W 0 (fun _ => true) true m 4 ((([c0, c1, c2] : List Value).drop 1).take (Tryz.prog.cellsOf 4)) = some x1 := hf 1 _ rfl
  rw [e1] at f1
  have e2 : Tryz.prog.cellsOf 32 = 1 := by kernel_rfl
  have f2 : DataW.trod enc Tryz.prog W 0 (fun _ => true) true m 32 ((([c0, c1, c2] : List Value).drop 2).take (Tryz.prog.cellsOf 32)) = some x2 := hf 2 _ rfl
  rw [e2] at f2
  obtain ⟨v0, h0, _, _⟩ := DataW.trod_int Tryz.underlying2 f0
  obtain ⟨v1, h1, _⟩ := DataW.trod_bool Tryz.underlying4 f1
  obtain ⟨b1, m1, d1, v2, h2, r1, z1⟩ := open_sig f2
  simp at h0 h1 h2
  subst h0
  subst h1
  subst h2
  exact ⟨⟨b1, m1, d1⟩, ⟨v0, v1, v2⟩, rfl, ⟨r1, z1⟩⟩

set_option maxRecDepth 20000 in
theorem open_Exts {H : Type} {enc : TypeId × Value → H} {W : World} {fuel : Nat} {cs : List Value} {x : DataW H × List MemPlace} (h : DataW.trod enc Tryz.prog W 0 (fun _ => true) true fuel 31 cs = some x) : ∃ a n c xs, cs = [.slice a n c] ∧ XPs W a n xs := by
  rcases DataW.trod_slice Tryz.underlying31 h with ⟨rfl, _⟩ | ⟨a, len, cap, elems, rest, n, rfl, rfl, _, _, hl, hm, hlen, hel, _, _⟩
  · exact ⟨none, 0, 0, [], rfl, ⟨rfl, by decide, fun k hk => absurd hk (by omega)⟩⟩
  · have ec : Tryz.prog.cellsOf 120 = 3 := by kernel_rfl
    rw [ec] at hel
    have each : ∀ i, i < len → ∃ y : XPS × XP, ∃ cs', W.cells? 0 (a.add (i * 3)) 3 = some cs' ∧ cs' = [.int .i64 y.2.id, .bool y.2.crit, .slice y.1.a1 y.1.n1 y.1.c1] ∧ XPR W y.1 y.2 := by
      intro i hi
      have he := hel i hi
      rw [List.getElem?_eq_getElem (by omega)] at he
      cases hc : W.cells? 0 (a.add (i * 3)) 3 with
      | none => rw [hc] at he; cases he
      | some cs' =>
        rw [hc] at he
        obtain ⟨s, y, hcs, hp⟩ := open_Ext he
        exact ⟨(s, y), cs', rfl, hcs, hp⟩
    obtain ⟨y, hy⟩ := Go.Deep.choose_lt each
    have hm' : len ≤ 9223372036854775807 := by unfold maxLen at hm; omega
    refine ⟨some a, len, cap, (List.range len).map (fun i => (y i).2), rfl, ⟨by simp, hm', fun k hk => ?_⟩⟩
    obtain ⟨cs', hcs, rfl, hck⟩ := hy k hk
    obtain ⟨_, _, hcell⟩ := World.cells?_some hcs
    obtain ⟨b, off, spot⟩ := a
    have hs : spot = none := by
      obtain ⟨cs0, hcs0, _⟩ := hy 0 (by omega)
      obtain ⟨_, hl0, hcell0⟩ := World.cells?_some hcs0
      have h00 := hcell0 0 (by omega)
      rw [List.getElem?_eq_getElem (by omega)] at h00
      simpa [Addr.add] using World.cell?_spot h00
    subst hs
    have ey : ((List.range len).map (fun i => (y i).2)).getD k default = (y k).2 := by simp [hk]
    rw [ey]
    have cc : ∀ j, j < 3 → W.cell? ⟨b, off + k * 3 + j, none⟩ = [(.int .i64 (y k).2.id : Value), .bool (y k).2.crit, .slice (y k).1.a1 (y k).1.n1 (y k).1.c1][j]? := by
      intro j hj
      have := hcell j hj
      rw [Addr.add_lit, Addr.add_lit] at this
      exact this
    exact ⟨b, off, (y k).1, rfl, World.block_lt_of_cell? W _ (cc 0 (by omega)), ⟨cc 0 (by omega), cc 1 (by omega), cc 2 (by omega)⟩, hck⟩

set_option maxRecDepth 20000 in
theorem open_Cert {H : Type} {enc : TypeId × Value → H} {W : World} {fuel : Nat} {cs : List Value} {x : DataW H × List MemPlace} (h : DataW.trod enc Tryz.prog W 0 (fun _ => true) true fuel 34 cs = some x) : ∃ (s : CES) (y : CE), cs = [.int .i64 y.ser, .slice s.a1 s.n1 s.c1, .slice s.a2 s.n2 s.c2, .int .i64 y.frm, .int .i64 y.til, .int .i64 y.key.1, .int .u64 y.key.2.1, .int .i64 y.key.2.2, .bool y.ca, .int .i64 y.room, .int .i64 y.uses, .slice s.a3 s.n3 s.c3, .slice s.a4 s.n4 s.c4, .slice s.a5 s.n5 s.c5, .slice s.a6 s.n6 s.c6, .slice s.a7 s.n7 s.c7, .int .i64 y.need, .int .i64 y.nomap, .int .i64 y.noany, .slice s.a8 s.n8 s.c8, .slice s.a9 s.n9 s.c9] ∧ CER W s y ∧ U64 (y.key.2.1) := by
  obtain ⟨xs, m, rfl, _, hl, hxl, hf⟩ := DataW.trod_struct Tryz.underlying34 h
  have hl2 : cs.length = 21 := hl.trans (by kernel_rfl)
  have hx2 : xs.length = 19 := hxl
  obtain ⟨c0, c1, c2, c3, c4, c5, c6, c7, c8, c9, c10, c11, c12, c13, c14, c15, c16, c17, c18, c19, c20, rfl⟩ : ∃ c0 c1 c2 c3 c4 c5 c6 c7 c8 c9 c10 c11 c12 c13 c14 c15 c16 c17 c18 c19 c20, cs = [c0, c1, c2, c3, c4, c5, c6, c7, c8, c9, c10, c11, c12, c13, c14, c15, c16, c17, c18, c19, c20] := by
    match cs, hl2 with
    | [c0, c1, c2, c3, c4, c5, c6, c7, c8, c9, c10, c11, c12, c13, c14, c15, c16, c17, c18, c19, c20], _ => exact ⟨c0, c1, c2, c3, c4, c5, c6, c7, c8, c9, c10, c11, c12, c13, c14, c15, c16, c17, c18, c19, c20, rfl⟩
  obtain ⟨x0, x1, x2, x3, x4, x5, x6, x7, x8, x9, x10, x11, x12, x13, x14, x15, x16, x17, x18, rfl⟩ : ∃ y0 y1 y2 y3 y4 y5 y6 y7 y8 y9 y10 y11 y12 y13 y14 y15 y16 y17 y18, xs = [y0, y1, y2, y3, y4, y5, y6, y7, y8, y9, y10, y11, y12, y13, y14, y15, y16, y17, y18] := by
    match xs, hx2 with
    | [y0, y1, y2, y3, y4, y5, y6, y7, y8, y9, y10, y11, y12, y13, y14, y15, y16, y17, y18], _ => exact ⟨y0, y1, y2, y3, y4, y5, y6, y7, y8, y9, y10, y11, y12, y13, y14, y15, y16, y17, y18, rfl⟩
  have e0 : Tryz.prog.cellsOf 2 = 1 := by kernel_rfl
  have f0 : DataW.trod enc Tryz.prog W 0 (fun _ => true) true m 2 ((([c0, c1, c2, c3, c4, c5, c6, c7, c8, c9, c10, c11, c12, c13, c14, c15, c16, c17, c18, c19, c20] : List Value).drop 0).take (Tryz.prog.cellsOf 2)) = some x0 := hf 0 _ rfl
  rw [e0] at f0
  have e1 : Tryz.prog.cellsOf 24 = 1 := by kernel_rfl
  have f1 : DataW.trod enc Tryz.prog W 0 (fun _ => true) true m 24 ((([c0, c1, c2, c3, c4, c5, c6, c7, c8, c9, c10, c11, c12, c13, c14, c15, c16, c17, c18, c19, c20] : List Value).drop 1).take (Tryz.prog.cellsOf 24)) = some x1 := hf 1 _ rfl
  rw [e1] at f1
  have e2 : Tryz.prog.cellsOf 24 = 1 := by kernel_rfl
  have f2 : DataW.trod enc Tryz.prog W 0 (fun _ => true) true m 24 ((([c0, c1, c2, c3, c4, c5, c6, c7, c8, c9, c10, c11, c12, c13, c14, c15, c16, c17, c18, c19, c20] : List Value).drop 2).take (Tryz.prog.cellsOf 24)) = some x2 := hf 2 _ rfl
  rw [e2] at f2
  have e3 : Tryz.prog.cellsOf 2 = 1 := by kernel_rfl
  have f3 : DataW.trod enc Tryz.prog W 0 (fun _ => true) true m 2 ((([c0, c1, c2, c3, c4, c5, c6, c7, c8, c9, c10, c11, c12, c13, c14, c15, c16, c17, c18, c19, c20] : List Value).drop 3).take (Tryz.prog.cellsOf 2)) = some x3 := hf 3 _ rfl
  rw [e3] at f3
  have e4 : Tryz.prog.cellsOf 2 = 1 := by kernel_rfl
  have f4 : DataW.trod enc Tryz.prog W 0 (fun _ => true) true m 2 ((([c0, c1, c2, c3, c4, c5, c6, c7, c8, c9, c10, c11, c12, c13, c14, c15, c16, c17, c18, c19, c20] : List Value).drop 4).take (Tryz.prog.cellsOf 2)) = some x4 := hf 4 _ rfl
  rw [e4] at f4
  have e5 : Tryz.prog.cellsOf 27 = 3 := by kernel_rfl
  have f5 : DataW.trod enc Tryz.prog W 0 (fun _ => true) true m 27 ((([c0, c1, c2, c3, c4, c5, c6, c7, c8, c9, c10, c11, c12, c13, c14, c15, c16, c17, c18, c19, c20] : List Value).drop 5).take (Tryz.prog.cellsOf 27)) = some x5 := hf 5 _ rfl
  rw [e5] at f5
  have e6 : Tryz.prog.cellsOf 4 = 1 := by kernel_rfl
  have f6 : DataW.trod enc Tryz.prog W 0 (fun _ => true) true m 4 ((([c0, c1, c2, c3, c4, c5, c6, c7, c8, c9, c10, c11, c12, c13, c14, c15, c16, c17, c18, c19, c20] : List Value).drop 8).take (Tryz.prog.cellsOf 4)) = some x6 := hf 6 _ rfl
  rw [e6] at f6
  have e7 : Tryz.prog.cellsOf 2 = 1 := by kernel_rfl
  have f7 : DataW.trod enc Tryz.prog W 0 (fun _ => true) true m 2 ((([c0, c1, c2, c3, c4, c5, c6, c7, c8, c9, c10, c11, c12, c13, c14, c15, c16, c17, c18, c19, c20] : List Value).drop 9).take (Tryz.prog.cellsOf 2)) = some x7 := hf 7 _ rfl
  rw [e7] at f7
  have e8 : Tryz.prog.cellsOf 2 = 1 := by kernel_rfl
  have f8 : DataW.trod enc Tryz.prog W 0 (fun _ => true) true m 2 ((([c0, c1, c2, c3, c4, c5, c6, c7, c8, c9, c10, c11, c12, c13, c14, c15, c16, c17, c18, c19, c20] : List Value).drop 10).take (Tryz.prog.cellsOf 2)) = some x8 := hf 8 _ rfl
  rw [e8] at f8
  have e9 : Tryz.prog.cellsOf 28 = 1 := by kernel_rfl
  have f9 : DataW.trod enc Tryz.prog W 0 (fun _ => true) true m 28 ((([c0, c1, c2, c3, c4, c5, c6, c7, c8, c9, c10, c11, c12, c13, c14, c15, c16, c17, c18, c19, c20] : List Value).drop 11).take (Tryz.prog.cellsOf 28)) = some x9 := hf 9 _ rfl
  rw [e9] at f9
  have e10 : Tryz.prog.cellsOf 28 = 1 := by kernel_rfl
  have f10 : DataW.trod enc Tryz.prog W 0 (fun _ => true) true m 28 ((([c0, c1, c2, c3, c4, c5, c6, c7, c8, c9, c10, c11, c12, c13, c14, c15, c16, c17, c18, c19, c20] : List Value).drop 12).take (Tryz.prog.cellsOf 28)) = some x10 := hf 10 _ rfl
  rw [e10] at f10
  have e11 : Tryz.prog.cellsOf 28 = 1 := by kernel_rfl
  have f11 : DataW.trod enc Tryz.prog W 0 (fun _ => true) true m 28 ((([c0, c1, c2, c3, c4, c5, c6, c7, c8, c9, c10, c11, c12, c13, c14, c15, c16, c17, c18, c19, c20] : List Value).drop 13).take (Tryz.prog.cellsOf 28)) = some x11 := hf 11 _ rfl
  rw [e11] at f11
  have e12 : Tryz.prog.cellsOf 29 = 1 := by kernel_rfl
  have f12 : DataW.trod enc Tryz.prog W 0 (fun _ => true) true m 29 ((([c0, c1, c2, c3, c4, c5, c6, c7, c8, c9, c10, c11, c12, c13, c14, c15, c16, c17, c18, c19, c20] : List Value).drop 14).take (Tryz.prog.cellsOf 29)) = some x12 := hf 12 _ rfl
  rw [e12] at f12
  have e13 : Tryz.prog.cellsOf 30 = 1 := by kernel_rfl
  have f13 : DataW.trod enc Tryz.prog W 0 (fun _ => true) true m 30 ((([c0, c1, c2, c3, c4, c5, c6, c7, c8, c9, c10, c11, c12, c13, c14, c15, c16, c17, c18, c19, c20] : List Value).drop 15).take (Tryz.prog.cellsOf 30)) = some x13 := hf 13 _ rfl
  rw [e13] at f13
  have e14 : Tryz.prog.cellsOf 2 = 1 := by kernel_rfl
  have f14 : DataW.trod enc Tryz.prog W 0 (fun _ => true) true m 2 ((([c0, c1, c2, c3, c4, c5, c6, c7, c8, c9, c10, c11, c12, c13, c14, c15, c16, c17, c18, c19, c20] : List Value).drop 16).take (Tryz.prog.cellsOf 2)) = some x14 := hf 14 _ rfl
  rw [e14] at f14
  have e15 : Tryz.prog.cellsOf 2 = 1 := by kernel_rfl
  have f15 : DataW.trod enc Tryz.prog W 0 (fun _ => true) true m 2 ((([c0, c1, c2, c3, c4, c5, c6, c7, c8, c9, c10, c11, c12, c13, c14, c15, c16, c17, c18, c19, c20] : List Value).drop 17).take (Tryz.prog.cellsOf 2)) = some x15 := hf 15 _ rfl
  rw [e15] at f15
  have e16 : Tryz.prog.cellsOf 2 = 1 := by kernel_rfl
  have f16 : DataW.trod enc Tryz.prog W 0 (fun _ => true) true m 2 ((([c0, c1, c2, c3, c4, c5, c6, c7, c8, c9, c10, c11, c12, c13, c14, c15, c16, c17, c18, c19, c20] : List Value).drop 18).take (Tryz.prog.cellsOf 2)) = some x16 := hf 16 _ rfl
  rw [e16] at f16
  have e17 : Tryz.prog.cellsOf 31 = 1 := by kernel_rfl
  have f17 : DataW.trod enc Tryz.prog W 0 (fun _ => true) true m 31 ((([c0, c1, c2, c3, c4, c5, c6, c7, c8, c9, c10, c11, c12, c13, c14, c15, c16, c17, c18, c19, c20] : List Value).drop 19).take (Tryz.prog.cellsOf 31)) = some x17 := hf 17 _ rfl
  rw [e17] at f17
  have e18 : Tryz.prog.cellsOf 32 = 1 := by kernel_rfl
  have f18 : DataW.trod enc Tryz.prog W 0 (fun _ => true) true m 32 ((([c0, c1, c2, c3, c4, c5, c6, c7, c8, c9, c10, c11, c12, c13, c14, c15, c16, c17, c18, c19, c20] : List Value).drop 20).take (Tryz.prog.cellsOf 32)) = some x18 := hf 18 _ rfl
  rw [e18] at f18
  obtain ⟨v0, h0, _, _⟩ := DataW.trod_int Tryz.underlying2 f0
  obtain ⟨b1, m1, d1, v1, h1, r1⟩ := open_name f1
  obtain ⟨b2, m2, d2, v2, h2, r2⟩ := open_name f2
  obtain ⟨v3, h3, _, _⟩ := DataW.trod_int Tryz.underlying2 f3
  obtain ⟨v4, h4, _, _⟩ := DataW.trod_int Tryz.underlying2 f4
  obtain ⟨v5, y5, k5, h5, g5⟩ := open_pub f5
  obtain ⟨v6, h6, _⟩ := DataW.trod_bool Tryz.underlying4 f6
  obtain ⟨v7, h7, _, _⟩ := DataW.trod_int Tryz.underlying2 f7
  obtain ⟨v8, h8, _, _⟩ := DataW.trod_int Tryz.underlying2 f8
  obtain ⟨b3, m3, d3, v9, h9, r3⟩ := open_gens f9
  obtain ⟨b4, m4, d4, v10, h10, r4⟩ := open_gens f10
  obtain ⟨b5, m5, d5, v11, h11, r5⟩ := open_gens f11
  obtain ⟨b6, m6, d6, v12, h12, r6, z6⟩ := open_row64C f12
  obtain ⟨b7, m7, d7, v13, h13, r7⟩ := open_pms f13
  obtain ⟨v14, h14, _, _⟩ := DataW.trod_int Tryz.underlying2 f14
  obtain ⟨v15, h15, _, _⟩ := DataW.trod_int Tryz.underlying2 f15
  obtain ⟨v16, h16, _, _⟩ := DataW.trod_int Tryz.underlying2 f16
  obtain ⟨b8, m8, d8, v17, h17, r8⟩ := open_Exts f17
  obtain ⟨b9, m9, d9, v18, h18, r9, z9⟩ := open_sig f18
  simp at h0 h1 h2 h3 h4 h5 h6 h7 h8 h9 h10 h11 h12 h13 h14 h15 h16 h17 h18
  subst h0
  subst h1
  subst h2
  subst h3
  subst h4
  obtain ⟨rfl, rfl, rfl⟩ := h5
  subst h6
  subst h7
  subst h8
  subst h9
  subst h10
  subst h11
  subst h12
  subst h13
  subst h14
  subst h15
  subst h16
  subst h17
  subst h18
  exact ⟨⟨b1, m1, d1, b2, m2, d2, b3, m3, d3, b4, m4, d4, b5, m5, d5, b6, m6, d6, b7, m7, d7, b8, m8, d8, b9, m9, d9⟩, ⟨v0, v1, v2, v3, v4, (v5, y5, k5), v6, v7, v8, v9, v10, v11, v12, v13, v14, v15, v16, v17, v18⟩, rfl, ⟨r1, r2, r3, r4, r5, r6, z6, r7, r8, r9, z9⟩, g5⟩

end Go.Proofs.YtkpabanjlhlmfaaGreatDoor

namespace Go.Proofs.YtkpabanjlhlmfaaGreatDoor

/-- The wrap of a row that lists variables, the world's shape kept. -/
theorem ret_shaped_and {H : Type} {enc : TypeId × Value → H} {a : Assume} {C : Checked} {os : Os} {f : FuncId} {fn : Func} {s : ChangeSpec} {conds : List PathCond} {apart fresh handsOn again : Bool} {X : World → Array Value → Prop}
    (hX : ∀ (w w' : World) (args : Array Value), w.heap = w'.heap → X w args → X w' args)
    (own : ownKnob C.prog.godebug = none) (started : os.Started) (noInit : C.prog.inits.idxOf? f = none) (hfn : C.prog.funcs[f]? = some fn)
    (witness : ∃ (w : World) (tape : Tape) (i : Input), w.os = os ∧ (w.forCall tape i).Shaped C.prog ∧ i.vars = [] ∧ Input.okWide C.prog (w.forCall tape i) .any w.heap.size f i ∧
      ((s.pre enc C.prog fn conds apart (w.forCall tape i).memory i.args ∧ X (w.forCall tape i).memory i.args) ∧ sizedMet enc C.prog fn (OpenSpec.ofChange s) apart (w.forCall tape i).memory i.args) ∧ a.holds C.prog (lone (Frame.enter C.prog f i.args .normal) [] (w.forCall tape i)))
    (contract : ∀ (W : World) (base : Nat) (args : Array Value) (ds gs : List (DataW H)) (before : List MemPlace),
      (∀ (j : Nat) t v, fn.params[j]? = some t → args[j]? = some v → Value.okWide C.prog W .any base t v) →
      DataW.Whole enc C.prog fn.params.toList s.vars apart W args.toList ds gs before →
      X W args → W.ShapedOpen C.prog →
      Calls C.prog f args W fun e W' => ∃ v, e = .returned v ∧ s.post enc C.prog fn apart fresh handsOn again W args v W') :
    ReturnsInHanded a C os f .any (fun w args => (s.pre enc C.prog fn conds apart w args ∧ X w args) ∧ sizedMet enc C.prog fn (OpenSpec.ofChange s) apart w args) (s.post enc C.prog fn apart fresh handsOn again) := by
  refine returnsInHanded_of_calls own started noInit witness ?_
  intro w tape i _ hsh _ hok hpre _
  obtain ⟨_, _, _, fn', hfn', _, _, _, _, hval⟩ := hok
  have e : fn' = fn := Option.some.inj (hfn'.symm.trans hfn)
  subst e
  obtain ⟨⟨⟨ds, gs, before, hw, _⟩, hx⟩, _⟩ := hpre
  have hw' := DataW.Whole.of_heap (w' := w.forCall tape i) (by rfl) hw
  refine (contract (w.forCall tape i) w.heap.size i.args ds gs before hval hw' (hX _ _ _ (by rfl) hx) hsh).mono fun e W' ⟨v, he, hp⟩ => ?_
  subst he
  exact ChangeSpec.post_blind hp

end Go.Proofs.YtkpabanjlhlmfaaGreatDoor

