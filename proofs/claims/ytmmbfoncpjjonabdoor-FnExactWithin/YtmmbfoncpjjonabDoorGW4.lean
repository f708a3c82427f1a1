import Derived.Test.YtmmbfoncpjjonabDoorGW3
import Derived.Test.YtmmbfoncpjjonabDoorGN8
import Derived.Test.YtmmbfoncpjjonabDoorGN11
namespace Go.Proofs.YtmmbfoncpjjonabDoor
open Go.RowKit

set_option maxRecDepth 10000 in
set_option maxHeartbeats 8000000 in
theorem implWithin_any (g : GT) (a : Option Addr) (n c : Nat) (xs : List PT) (b : GT) (a2 : Option Addr) (n2 c2 : Nat) (ys : List PT) (w : World) (hm : MaxW w) (h : Pts w a n xs) (hz : ∀ k, k < n → (xs.getD k default).val.size ≤ 1048576) (hs : g.text.size ≤ 1048576) (h2 : Pts w a2 n2 ys) (hz2 : ∀ k, k < n2 → (ys.getD k default).val.size ≤ 1048576) (hs2 : b.text.size ≤ 1048576) :
    Calls Tryd.prog 15 #[gnv g a n c, gnv b a2 n2 c2] w (SaysB (withinP g xs b ys) w) := by
  obtain ⟨P, hP⟩ : ∃ P, P = withinP g xs b ys := ⟨_, rfl⟩
  rw [← hP]
  have HP : Hid (P = withinP g xs b ys) := hP
  have HK : Hid (Pts w a n xs) := h
  have HZ : Hid (_) := hz
  have HK2 : Hid (Pts w a2 n2 ys) := h2
  have HZ2 : Hid (_) := hz2
  have HM : Hid (MaxW w) := hm
  clear hP h hz h2 hz2 hm
  obtain ⟨W, hW, x1, x2, bW, sW⟩ := two_boxes 33 w g a n c b a2 n2 c2
  have SG := fun (w1 : World) (hb : Below w.heap.size w w1) => implGenOk_any g a n c xs w1 (HM.out.kept hb) (HK.out.kept hb) HZ.out hs
  have SB := fun (w1 : World) (hb : Below w.heap.size w w1) => implBaseOk_any b a2 n2 c2 ys w1 (HM.out.kept hb) (HK2.out.kept hb) HZ2.out hs2
  unfold gnv at SG SB ⊢
  by_cases k1 : g.kind = 1
  · have GR : ∀ w, Calls Tryd.prog 25 #[.int .i64 g.kind] w fun e w' => e = .returned (.tuple #[.agg #[.func (Fn.func 43) #[] #[], .func (Fn.func 44) #[] #[], .func (Fn.func 45) #[] #[], .func (Fn.func 46) #[] #[]], .bool true]) ∧ Below w.heap.size w w' := fun w => by rw [k1]; exact genRulesOf_1 w
    have KK : Hid (g.kind = 1) := k1
    clear k1
    go_enter Tryd.func15, Tryd.ntmps15
    go_wp2_with fail
    rw [← hW]
    clear hW
    refine (GR _).mono ?_
    rintro e w1 ⟨rfl, hb1⟩
    have B1 := bW.trans (hb1.mono bW.size)
    obtain ⟨p0, p1, p2, p3, p4⟩ := (x1.kept hb1).cells
    have hlt : w.heap.size + 1 < w1.heap.size := Nat.lt_of_lt_of_le (by omega) hb1.size
    have hlt0 : w.heap.size < w1.heap.size := by omega
    have y1 := x1.kept hb1
    have y2 := x2.kept hb1
    obtain ⟨W1, hW1⟩ : ∃ W1, W1 = w1.alloc (.cells #[.func (Fn.func 43) #[] #[], .func (Fn.func 44) #[] #[], .func (Fn.func 45) #[] #[], .func (Fn.func 46) #[] #[]] 48) := ⟨_, rfl⟩
    have hbb : Below w1.heap.size w1 W1 := by rw [hW1]; exact (Below.refl _ _).alloc (Nat.le_refl _) _
    have BB := B1.trans (hbb.mono B1.size)
    have hru : W1.heap[w1.heap.size]? = some (.cells #[.func (Fn.func 43) #[] #[], .func (Fn.func 44) #[] #[], .func (Fn.func 45) #[] #[], .func (Fn.func 46) #[] #[]] 48 (0, 0)) := by rw [hW1]; exact heap_alloc_new w1 _
    have HRU : Hid (_) := hru
    have Z1 : Hid (_) := y1.kept hbb
    have Z2 : Hid (_) := y2.kept hbb
    clear GR x1 x2 y1 y2 hru bW
    go_wp2_with fail
    rw [← hW1]
    clear hW1
    refine (SG _ BB).mono ?_
    rintro e w2 ⟨r2, rfl, HV2, hb2⟩
    have B2 := BB.trans (hb2.mono BB.size)
    have hr2 : w2.heap[w1.heap.size]? = some (.cells #[.func (Fn.func 43) #[] #[], .func (Fn.func 44) #[] #[], .func (Fn.func 45) #[] #[], .func (Fn.func 46) #[] #[]] 48 (0, 0)) := (hb2.block _ (Array.getElem?_eq_some_iff.1 HRU.out).1).trans HRU.out
    have HR2 : Hid (_) := hr2
    have V1 : Hid (_) := Z1.out.kept hb2
    have V2 : Hid (_) := Z2.out.kept hb2
    clear SG HRU Z1 Z2 hr2 p0 p1 p2 p3 p4
    cases r2 with
    | false =>
      have HN : Hid (¬ P) := by show ¬ P; rw [HP.out]; exact fun q => Bool.false_ne_true (HV2.out.2 q.1)
      clear HP HV2 SB HK HZ HK2 HZ2 V1 V2 HR2
      go_wp2
      go_ret
      exact saysB_f HN.out B2
    | true =>
      have HG : Hid (genP g xs) := HV2.out.1 rfl
      clear HV2
      obtain ⟨q0, q1, q2, q3, q4⟩ := V2.out.cells
      go_wp2_with fail
      refine (SB _ B2).mono ?_
      rintro e w3 ⟨r3, rfl, HV3, hb3⟩
      have B3 := B2.trans (hb3.mono B2.size)
      have hr3 : w3.heap[w1.heap.size]? = some (.cells #[.func (Fn.func 43) #[] #[], .func (Fn.func 44) #[] #[], .func (Fn.func 45) #[] #[], .func (Fn.func 46) #[] #[]] 48 (0, 0)) := (hb3.block _ (Array.getElem?_eq_some_iff.1 HR2.out).1).trans HR2.out
      have f3 : w3.cell? ⟨w1.heap.size, 3, none⟩ = some (.func (Fn.func 46) #[] #[]) := (cell_of_row _ w1.heap.size 3 _ 48 (0, 0) hr3).trans rfl
      have U1 : Hid (_) := V1.out.kept hb3
      have U2 : Hid (_) := V2.out.kept hb3
      clear SB HR2 V1 V2 hr3 q0 q1 q2 q3 q4
      cases r3 with
      | false =>
        have HN : Hid (¬ P) := by show ¬ P; rw [HP.out]; exact fun q => Bool.false_ne_true (HV3.out.2 q.2.1)
        clear HP HV3 HK HZ HK2 HZ2 U1 U2
        go_wp2
        go_ret
        exact saysB_f HN.out B3
      | true =>
        have HB : Hid (baseP b ys) := HV3.out.1 rfl
        clear HV3
        obtain ⟨p0, p1, p2, p3, p4⟩ := U1.out.cells
        obtain ⟨q0, q1, q2, q3, q4⟩ := U2.out.cells
        clear U1 U2
        by_cases hkk : g.kind = b.kind
        · have zk : (g.kind == b.kind) = true := beq_iff_eq.2 hkk
          have HI : Hid (P ↔ relH g.text b.text) := by show P ↔ _; rw [HP.out]; exact withinP_1 HG.out HB.out hkk KK.out
          have NM := hostWithin_any g a n c b a2 n2 c2 w3 hs hs2 (gen_host HG.out KK.out)
          unfold gnv at NM
          clear HP HK HZ HK2 HZ2 HG HB hkk KK
          go_wp2_with fail
          refine NM.mono ?_
          rintro e w4 ⟨r4, rfl, HV4, hb4⟩
          have B4 := B3.trans (hb4.mono B3.size)
          clear NM
          cases r4 with
          | false =>
            have HN : Hid (¬ P) := fun q => Bool.false_ne_true (HV4.out.2 (HI.out.1 q))
            clear HV4 HI
            go_wp2
            go_ret
            exact saysB_f HN.out B4
          | true =>
            have HN : Hid P := HI.out.2 (HV4.out.1 rfl)
            clear HV4 HI
            go_wp2
            go_ret
            exact saysB_t HN.out B4
        · have zk : (g.kind == b.kind) = false := beq_false_of_ne hkk
          have HN : Hid (¬ P) := by show ¬ P; rw [HP.out]; exact fun q => hkk q.2.2.1
          clear HP HK HZ HK2 HZ2 HG HB hkk KK
          go_wp2
          go_ret
          exact saysB_f HN.out B3
  by_cases k2 : g.kind = 2
  · have GR : ∀ w, Calls Tryd.prog 25 #[.int .i64 g.kind] w fun e w' => e = .returned (.tuple #[.agg #[.func (Fn.func 43) #[] #[], .func (Fn.func 47) #[] #[], .func (Fn.func 48) #[] #[], .func (Fn.func 49) #[] #[]], .bool true]) ∧ Below w.heap.size w w' := fun w => by rw [k2]; exact genRulesOf_2 w
    have KK : Hid (g.kind = 2) := k2
    clear k1 k2
    go_enter Tryd.func15, Tryd.ntmps15
    go_wp2_with fail
    rw [← hW]
    clear hW
    refine (GR _).mono ?_
    rintro e w1 ⟨rfl, hb1⟩
    have B1 := bW.trans (hb1.mono bW.size)
    obtain ⟨p0, p1, p2, p3, p4⟩ := (x1.kept hb1).cells
    have hlt : w.heap.size + 1 < w1.heap.size := Nat.lt_of_lt_of_le (by omega) hb1.size
    have hlt0 : w.heap.size < w1.heap.size := by omega
    have y1 := x1.kept hb1
    have y2 := x2.kept hb1
    obtain ⟨W1, hW1⟩ : ∃ W1, W1 = w1.alloc (.cells #[.func (Fn.func 43) #[] #[], .func (Fn.func 47) #[] #[], .func (Fn.func 48) #[] #[], .func (Fn.func 49) #[] #[]] 48) := ⟨_, rfl⟩
    have hbb : Below w1.heap.size w1 W1 := by rw [hW1]; exact (Below.refl _ _).alloc (Nat.le_refl _) _
    have BB := B1.trans (hbb.mono B1.size)
    have hru : W1.heap[w1.heap.size]? = some (.cells #[.func (Fn.func 43) #[] #[], .func (Fn.func 47) #[] #[], .func (Fn.func 48) #[] #[], .func (Fn.func 49) #[] #[]] 48 (0, 0)) := by rw [hW1]; exact heap_alloc_new w1 _
    have HRU : Hid (_) := hru
    have Z1 : Hid (_) := y1.kept hbb
    have Z2 : Hid (_) := y2.kept hbb
    clear GR x1 x2 y1 y2 hru bW
    go_wp2_with fail
    rw [← hW1]
    clear hW1
    refine (SG _ BB).mono ?_
    rintro e w2 ⟨r2, rfl, HV2, hb2⟩
    have B2 := BB.trans (hb2.mono BB.size)
    have hr2 : w2.heap[w1.heap.size]? = some (.cells #[.func (Fn.func 43) #[] #[], .func (Fn.func 47) #[] #[], .func (Fn.func 48) #[] #[], .func (Fn.func 49) #[] #[]] 48 (0, 0)) := (hb2.block _ (Array.getElem?_eq_some_iff.1 HRU.out).1).trans HRU.out
    have HR2 : Hid (_) := hr2
    have V1 : Hid (_) := Z1.out.kept hb2
    have V2 : Hid (_) := Z2.out.kept hb2
    clear SG HRU Z1 Z2 hr2 p0 p1 p2 p3 p4
    cases r2 with
    | false =>
      have HN : Hid (¬ P) := by show ¬ P; rw [HP.out]; exact fun q => Bool.false_ne_true (HV2.out.2 q.1)
      clear HP HV2 SB HK HZ HK2 HZ2 V1 V2 HR2
      go_wp2
      go_ret
      exact saysB_f HN.out B2
    | true =>
      have HG : Hid (genP g xs) := HV2.out.1 rfl
      clear HV2
      obtain ⟨q0, q1, q2, q3, q4⟩ := V2.out.cells
      go_wp2_with fail
      refine (SB _ B2).mono ?_
      rintro e w3 ⟨r3, rfl, HV3, hb3⟩
      have B3 := B2.trans (hb3.mono B2.size)
      have hr3 : w3.heap[w1.heap.size]? = some (.cells #[.func (Fn.func 43) #[] #[], .func (Fn.func 47) #[] #[], .func (Fn.func 48) #[] #[], .func (Fn.func 49) #[] #[]] 48 (0, 0)) := (hb3.block _ (Array.getElem?_eq_some_iff.1 HR2.out).1).trans HR2.out
      have f3 : w3.cell? ⟨w1.heap.size, 3, none⟩ = some (.func (Fn.func 49) #[] #[]) := (cell_of_row _ w1.heap.size 3 _ 48 (0, 0) hr3).trans rfl
      have U1 : Hid (_) := V1.out.kept hb3
      have U2 : Hid (_) := V2.out.kept hb3
      clear SB HR2 V1 V2 hr3 q0 q1 q2 q3 q4
      cases r3 with
      | false =>
        have HN : Hid (¬ P) := by show ¬ P; rw [HP.out]; exact fun q => Bool.false_ne_true (HV3.out.2 q.2.1)
        clear HP HV3 HK HZ HK2 HZ2 U1 U2
        go_wp2
        go_ret
        exact saysB_f HN.out B3
      | true =>
        have HB : Hid (baseP b ys) := HV3.out.1 rfl
        clear HV3
        obtain ⟨p0, p1, p2, p3, p4⟩ := U1.out.cells
        obtain ⟨q0, q1, q2, q3, q4⟩ := U2.out.cells
        clear U1 U2
        by_cases hkk : g.kind = b.kind
        · have zk : (g.kind == b.kind) = true := beq_iff_eq.2 hkk
          have HI : Hid (P ↔ relM g.text b.text) := by show P ↔ _; rw [HP.out]; exact withinP_2 HG.out HB.out hkk KK.out
          have NM := mailWithin_any g a n c b a2 n2 c2 w3 (HM.out.kept B3) hs hs2 (gen_mail HG.out KK.out) (base_mail HB.out (hkk.symm.trans KK.out))
          unfold gnv at NM
          clear HP HK HZ HK2 HZ2 HG HB hkk KK
          go_wp2_with fail
          refine NM.mono ?_
          rintro e w4 ⟨r4, rfl, HV4, hb4⟩
          have B4 := B3.trans (hb4.mono B3.size)
          clear NM
          cases r4 with
          | false =>
            have HN : Hid (¬ P) := fun q => Bool.false_ne_true (HV4.out.2 (HI.out.1 q))
            clear HV4 HI
            go_wp2
            go_ret
            exact saysB_f HN.out B4
          | true =>
            have HN : Hid P := HI.out.2 (HV4.out.1 rfl)
            clear HV4 HI
            go_wp2
            go_ret
            exact saysB_t HN.out B4
        · have zk : (g.kind == b.kind) = false := beq_false_of_ne hkk
          have HN : Hid (¬ P) := by show ¬ P; rw [HP.out]; exact fun q => hkk q.2.2.1
          clear HP HK HZ HK2 HZ2 HG HB hkk KK
          go_wp2
          go_ret
          exact saysB_f HN.out B3
  by_cases k3 : g.kind = 3
  · have GR : ∀ w, Calls Tryd.prog 25 #[.int .i64 g.kind] w fun e w' => e = .returned (.tuple #[.agg #[.func (Fn.func 50) #[] #[], .func (Fn.func 51) #[] #[], .func (Fn.func 52) #[] #[], .func (Fn.func 53) #[] #[]], .bool true]) ∧ Below w.heap.size w w' := fun w => by rw [k3]; exact genRulesOf_3 w
    have KK : Hid (g.kind = 3) := k3
    clear k1 k2 k3
    go_enter Tryd.func15, Tryd.ntmps15
    go_wp2_with fail
    rw [← hW]
    clear hW
    refine (GR _).mono ?_
    rintro e w1 ⟨rfl, hb1⟩
    have B1 := bW.trans (hb1.mono bW.size)
    obtain ⟨p0, p1, p2, p3, p4⟩ := (x1.kept hb1).cells
    have hlt : w.heap.size + 1 < w1.heap.size := Nat.lt_of_lt_of_le (by omega) hb1.size
    have hlt0 : w.heap.size < w1.heap.size := by omega
    have y1 := x1.kept hb1
    have y2 := x2.kept hb1
    obtain ⟨W1, hW1⟩ : ∃ W1, W1 = w1.alloc (.cells #[.func (Fn.func 50) #[] #[], .func (Fn.func 51) #[] #[], .func (Fn.func 52) #[] #[], .func (Fn.func 53) #[] #[]] 48) := ⟨_, rfl⟩
    have hbb : Below w1.heap.size w1 W1 := by rw [hW1]; exact (Below.refl _ _).alloc (Nat.le_refl _) _
    have BB := B1.trans (hbb.mono B1.size)
    have hru : W1.heap[w1.heap.size]? = some (.cells #[.func (Fn.func 50) #[] #[], .func (Fn.func 51) #[] #[], .func (Fn.func 52) #[] #[], .func (Fn.func 53) #[] #[]] 48 (0, 0)) := by rw [hW1]; exact heap_alloc_new w1 _
    have HRU : Hid (_) := hru
    have Z1 : Hid (_) := y1.kept hbb
    have Z2 : Hid (_) := y2.kept hbb
    clear GR x1 x2 y1 y2 hru bW
    go_wp2_with fail
    rw [← hW1]
    clear hW1
    refine (SG _ BB).mono ?_
    rintro e w2 ⟨r2, rfl, HV2, hb2⟩
    have B2 := BB.trans (hb2.mono BB.size)
    have hr2 : w2.heap[w1.heap.size]? = some (.cells #[.func (Fn.func 50) #[] #[], .func (Fn.func 51) #[] #[], .func (Fn.func 52) #[] #[], .func (Fn.func 53) #[] #[]] 48 (0, 0)) := (hb2.block _ (Array.getElem?_eq_some_iff.1 HRU.out).1).trans HRU.out
    have HR2 : Hid (_) := hr2
    have V1 : Hid (_) := Z1.out.kept hb2
    have V2 : Hid (_) := Z2.out.kept hb2
    clear SG HRU Z1 Z2 hr2 p0 p1 p2 p3 p4
    cases r2 with
    | false =>
      have HN : Hid (¬ P) := by show ¬ P; rw [HP.out]; exact fun q => Bool.false_ne_true (HV2.out.2 q.1)
      clear HP HV2 SB HK HZ HK2 HZ2 V1 V2 HR2
      go_wp2
      go_ret
      exact saysB_f HN.out B2
    | true =>
      have HG : Hid (genP g xs) := HV2.out.1 rfl
      clear HV2
      obtain ⟨q0, q1, q2, q3, q4⟩ := V2.out.cells
      go_wp2_with fail
      refine (SB _ B2).mono ?_
      rintro e w3 ⟨r3, rfl, HV3, hb3⟩
      have B3 := B2.trans (hb3.mono B2.size)
      have hr3 : w3.heap[w1.heap.size]? = some (.cells #[.func (Fn.func 50) #[] #[], .func (Fn.func 51) #[] #[], .func (Fn.func 52) #[] #[], .func (Fn.func 53) #[] #[]] 48 (0, 0)) := (hb3.block _ (Array.getElem?_eq_some_iff.1 HR2.out).1).trans HR2.out
      have f3 : w3.cell? ⟨w1.heap.size, 3, none⟩ = some (.func (Fn.func 53) #[] #[]) := (cell_of_row _ w1.heap.size 3 _ 48 (0, 0) hr3).trans rfl
      have U1 : Hid (_) := V1.out.kept hb3
      have U2 : Hid (_) := V2.out.kept hb3
      clear SB HR2 V1 V2 hr3 q0 q1 q2 q3 q4
      cases r3 with
      | false =>
        have HN : Hid (¬ P) := by show ¬ P; rw [HP.out]; exact fun q => Bool.false_ne_true (HV3.out.2 q.2.1)
        clear HP HV3 HK HZ HK2 HZ2 U1 U2
        go_wp2
        go_ret
        exact saysB_f HN.out B3
      | true =>
        have HB : Hid (baseP b ys) := HV3.out.1 rfl
        clear HV3
        obtain ⟨p0, p1, p2, p3, p4⟩ := U1.out.cells
        obtain ⟨q0, q1, q2, q3, q4⟩ := U2.out.cells
        clear U1 U2
        by_cases hkk : g.kind = b.kind
        · have zk : (g.kind == b.kind) = true := beq_iff_eq.2 hkk
          have HI : Hid (P ↔ relA g.addr b.addr b.bits) := by show P ↔ _; rw [HP.out]; exact withinP_3 HG.out HB.out hkk KK.out
          have NM := addrWithin_any g a n c b a2 n2 c2 w3 (base_bits HB.out (hkk.symm.trans KK.out))
          unfold gnv at NM
          clear HP HK HZ HK2 HZ2 HG HB hkk KK
          go_wp2_with fail
          refine NM.mono ?_
          rintro e w4 ⟨r4, rfl, HV4, hb4⟩
          have B4 := B3.trans (hb4.mono B3.size)
          clear NM
          cases r4 with
          | false =>
            have HN : Hid (¬ P) := fun q => Bool.false_ne_true (HV4.out.2 (HI.out.1 q))
            clear HV4 HI
            go_wp2
            go_ret
            exact saysB_f HN.out B4
          | true =>
            have HN : Hid P := HI.out.2 (HV4.out.1 rfl)
            clear HV4 HI
            go_wp2
            go_ret
            exact saysB_t HN.out B4
        · have zk : (g.kind == b.kind) = false := beq_false_of_ne hkk
          have HN : Hid (¬ P) := by show ¬ P; rw [HP.out]; exact fun q => hkk q.2.2.1
          clear HP HK HZ HK2 HZ2 HG HB hkk KK
          go_wp2
          go_ret
          exact saysB_f HN.out B3
  by_cases k4 : g.kind = 4
  · have GR : ∀ w, Calls Tryd.prog 25 #[.int .i64 g.kind] w fun e w' => e = .returned (.tuple #[.agg #[.func (Fn.func 54) #[] #[], .func (Fn.func 55) #[] #[], .func (Fn.func 56) #[] #[], .func (Fn.func 57) #[] #[]], .bool true]) ∧ Below w.heap.size w w' := fun w => by rw [k4]; exact genRulesOf_4 w
    have KK : Hid (g.kind = 4) := k4
    clear k1 k2 k3 k4
    go_enter Tryd.func15, Tryd.ntmps15
    go_wp2_with fail
    rw [← hW]
    clear hW
    refine (GR _).mono ?_
    rintro e w1 ⟨rfl, hb1⟩
    have B1 := bW.trans (hb1.mono bW.size)
    obtain ⟨p0, p1, p2, p3, p4⟩ := (x1.kept hb1).cells
    have hlt : w.heap.size + 1 < w1.heap.size := Nat.lt_of_lt_of_le (by omega) hb1.size
    have hlt0 : w.heap.size < w1.heap.size := by omega
    have y1 := x1.kept hb1
    have y2 := x2.kept hb1
    obtain ⟨W1, hW1⟩ : ∃ W1, W1 = w1.alloc (.cells #[.func (Fn.func 54) #[] #[], .func (Fn.func 55) #[] #[], .func (Fn.func 56) #[] #[], .func (Fn.func 57) #[] #[]] 48) := ⟨_, rfl⟩
    have hbb : Below w1.heap.size w1 W1 := by rw [hW1]; exact (Below.refl _ _).alloc (Nat.le_refl _) _
    have BB := B1.trans (hbb.mono B1.size)
    have hru : W1.heap[w1.heap.size]? = some (.cells #[.func (Fn.func 54) #[] #[], .func (Fn.func 55) #[] #[], .func (Fn.func 56) #[] #[], .func (Fn.func 57) #[] #[]] 48 (0, 0)) := by rw [hW1]; exact heap_alloc_new w1 _
    have HRU : Hid (_) := hru
    have Z1 : Hid (_) := y1.kept hbb
    have Z2 : Hid (_) := y2.kept hbb
    clear GR x1 x2 y1 y2 hru bW
    go_wp2_with fail
    rw [← hW1]
    clear hW1
    refine (SG _ BB).mono ?_
    rintro e w2 ⟨r2, rfl, HV2, hb2⟩
    have B2 := BB.trans (hb2.mono BB.size)
    have hr2 : w2.heap[w1.heap.size]? = some (.cells #[.func (Fn.func 54) #[] #[], .func (Fn.func 55) #[] #[], .func (Fn.func 56) #[] #[], .func (Fn.func 57) #[] #[]] 48 (0, 0)) := (hb2.block _ (Array.getElem?_eq_some_iff.1 HRU.out).1).trans HRU.out
    have HR2 : Hid (_) := hr2
    have V1 : Hid (_) := Z1.out.kept hb2
    have V2 : Hid (_) := Z2.out.kept hb2
    clear SG HRU Z1 Z2 hr2 p0 p1 p2 p3 p4
    cases r2 with
    | false =>
      have HN : Hid (¬ P) := by show ¬ P; rw [HP.out]; exact fun q => Bool.false_ne_true (HV2.out.2 q.1)
      clear HP HV2 SB HK HZ HK2 HZ2 V1 V2 HR2
      go_wp2
      go_ret
      exact saysB_f HN.out B2
    | true =>
      have HG : Hid (genP g xs) := HV2.out.1 rfl
      clear HV2
      obtain ⟨q0, q1, q2, q3, q4⟩ := V2.out.cells
      go_wp2_with fail
      refine (SB _ B2).mono ?_
      rintro e w3 ⟨r3, rfl, HV3, hb3⟩
      have B3 := B2.trans (hb3.mono B2.size)
      have hr3 : w3.heap[w1.heap.size]? = some (.cells #[.func (Fn.func 54) #[] #[], .func (Fn.func 55) #[] #[], .func (Fn.func 56) #[] #[], .func (Fn.func 57) #[] #[]] 48 (0, 0)) := (hb3.block _ (Array.getElem?_eq_some_iff.1 HR2.out).1).trans HR2.out
      have f3 : w3.cell? ⟨w1.heap.size, 3, none⟩ = some (.func (Fn.func 57) #[] #[]) := (cell_of_row _ w1.heap.size 3 _ 48 (0, 0) hr3).trans rfl
      have U1 : Hid (_) := V1.out.kept hb3
      have U2 : Hid (_) := V2.out.kept hb3
      clear SB HR2 V1 V2 hr3 q0 q1 q2 q3 q4
      cases r3 with
      | false =>
        have HN : Hid (¬ P) := by show ¬ P; rw [HP.out]; exact fun q => Bool.false_ne_true (HV3.out.2 q.2.1)
        clear HP HV3 HK HZ HK2 HZ2 U1 U2
        go_wp2
        go_ret
        exact saysB_f HN.out B3
      | true =>
        have HB : Hid (baseP b ys) := HV3.out.1 rfl
        clear HV3
        obtain ⟨p0, p1, p2, p3, p4⟩ := U1.out.cells
        obtain ⟨q0, q1, q2, q3, q4⟩ := U2.out.cells
        clear U1 U2
        by_cases hkk : g.kind = b.kind
        · have zk : (g.kind == b.kind) = true := beq_iff_eq.2 hkk
          have HI : Hid (P ↔ underP xs ys) := by show P ↔ _; rw [HP.out]; exact withinP_4 HG.out HB.out hkk KK.out
          have NM := partsWithin_any g a n c xs b a2 n2 c2 ys w3 (HK.out.kept B3) HZ.out (HK2.out.kept B3) HZ2.out
          unfold gnv at NM
          clear HP HK HZ HK2 HZ2 HG HB hkk KK
          go_wp2_with fail
          refine NM.mono ?_
          rintro e w4 ⟨r4, rfl, HV4, hb4⟩
          have B4 := B3.trans (hb4.mono B3.size)
          clear NM
          cases r4 with
          | false =>
            have HN : Hid (¬ P) := fun q => Bool.false_ne_true (HV4.out.2 (HI.out.1 q))
            clear HV4 HI
            go_wp2
            go_ret
            exact saysB_f HN.out B4
          | true =>
            have HN : Hid P := HI.out.2 (HV4.out.1 rfl)
            clear HV4 HI
            go_wp2
            go_ret
            exact saysB_t HN.out B4
        · have zk : (g.kind == b.kind) = false := beq_false_of_ne hkk
          have HN : Hid (¬ P) := by show ¬ P; rw [HP.out]; exact fun q => hkk q.2.2.1
          clear HP HK HZ HK2 HZ2 HG HB hkk KK
          go_wp2
          go_ret
          exact saysB_f HN.out B3
  have HN : Hid (¬ P) := by show ¬ P; rw [HP.out]; intro q; rcases genP_kind q.1 with q | q | q | q <;> omega
  have GR := genRulesOf_none g.kind W (by omega)
  clear HP HK HZ HK2 HZ2 HM k1 k2 k3 k4 SG SB x1 x2
  go_enter Tryd.func15, Tryd.ntmps15
  go_wp2_with fail
  rw [← hW]
  clear hW
  refine GR.mono ?_
  rintro e w1 ⟨rfl, hb1⟩
  have B1 := bW.trans (hb1.mono bW.size)
  have B2 := B1.alloc B1.size (.cells #[.nilFunc, .nilFunc, .nilFunc, .nilFunc] 48 (0, 0))
  go_wp2
  go_ret
  exact saysB_f HN.out B2

end Go.Proofs.YtmmbfoncpjjonabDoor
