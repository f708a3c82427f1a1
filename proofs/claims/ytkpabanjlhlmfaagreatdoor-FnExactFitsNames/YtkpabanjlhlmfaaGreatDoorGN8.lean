import Derived.Test.YtkpabanjlhlmfaaGreatDoorGN6GN7
import Derived.Test.YtkpabanjlhlmfaaGreatDoorGN5
namespace Go.Proofs.YtkpabanjlhlmfaaGreatDoor
open Go.RowKit

theorem genP_is1 {g : GT} {xs : List PT} {n : Nat} (hl : xs.length = n) (hk : g.kind = 1) : genP g xs ↔ (g.addr == 0 && g.bits == 0 && (n : Int) == 0) = true ∧ hostP g.text true := by
  unfold genP
  simp only [Bool.and_eq_true, beq_iff_eq]
  constructor
  · rintro (⟨h, q⟩ | ⟨h, q⟩ | ⟨h, q⟩ | ⟨h, q⟩)
    · exact ⟨⟨⟨q.1.1, q.1.2.1⟩, by omega⟩, q.2⟩
    · omega
    · omega
    · omega
  · rintro ⟨q, r⟩
    exact .inl ⟨hk, ⟨q.1.1, q.1.2, by omega⟩, r⟩

theorem genP_is2 {g : GT} {xs : List PT} {n : Nat} (hl : xs.length = n) (hk : g.kind = 2) : genP g xs ↔ (g.addr == 0 && g.bits == 0 && (n : Int) == 0) = true ∧ mailP g.text := by
  unfold genP
  simp only [Bool.and_eq_true, beq_iff_eq]
  constructor
  · rintro (⟨h, q⟩ | ⟨h, q⟩ | ⟨h, q⟩ | ⟨h, q⟩)
    · omega
    · exact ⟨⟨⟨q.1.1, q.1.2.1⟩, by omega⟩, q.2⟩
    · omega
    · omega
  · rintro ⟨q, r⟩
    exact .inr (.inl ⟨hk, ⟨q.1.1, q.1.2, by omega⟩, r⟩)

theorem genP_is3 {g : GT} {xs : List PT} {n : Nat} (hl : xs.length = n) (hk : g.kind = 3) : genP g xs ↔ (g.text.toList.isEmpty && (n : Int) == 0) = true ∧ ((0 ≤ g.addr ∧ g.addr ≤ 4294967295) ∧ g.bits = 0) := by
  unfold genP
  simp only [Bool.and_eq_true, beq_iff_eq, empty_iff]
  constructor
  · rintro (⟨h, q⟩ | ⟨h, q⟩ | ⟨h, q⟩ | ⟨h, q⟩)
    · omega
    · omega
    · exact ⟨⟨q.1.1, by omega⟩, q.2⟩
    · omega
  · rintro ⟨q, r⟩
    exact .inr (.inr (.inl ⟨hk, ⟨q.1, by omega⟩, r⟩))

theorem genP_is4 {g : GT} {xs : List PT} {n : Nat} (_hl : xs.length = n) (hk : g.kind = 4) : genP g xs ↔ (g.text.toList.isEmpty && g.addr == 0 && g.bits == 0) = true ∧ (nameP xs ∧ 0 < xs.length) := by
  unfold genP
  simp only [Bool.and_eq_true, beq_iff_eq, empty_iff]
  constructor
  · rintro (⟨h, q⟩ | ⟨h, q⟩ | ⟨h, q⟩ | ⟨h, q⟩)
    · omega
    · omega
    · omega
    · exact ⟨⟨⟨q.1.1, q.1.2.1⟩, q.1.2.2⟩, q.2⟩
  · rintro ⟨q, r⟩
    exact .inr (.inr (.inr ⟨hk, ⟨q.1.1, q.1.2, q.2⟩, r⟩))

set_option maxRecDepth 10000 in
set_option maxHeartbeats 4000000 in
theorem implGenOk_any (g : GT) (a : Option Addr) (n c : Nat) (xs : List PT) (w : World) (hm : MaxW w) (h : Pts w a n xs) (hz : ∀ k, k < n → (xs.getD k default).val.size ≤ 1048576) (hs : g.text.size ≤ 1048576) :
    Calls Tryz.prog 84 #[gnv g a n c] w (SaysB (genP g xs) w) := by
  obtain ⟨P, hP⟩ : ∃ P, P = genP g xs := ⟨_, rfl⟩
  rw [← hP]
  have HP : Hid (P = genP g xs) := hP
  have HK : Hid (Pts w a n xs) := h
  have HZ : Hid (_) := hz
  have HM : Hid (MaxW w) := hm
  have hl := h.len
  have hmx := h.max
  clear hP h hz hm
  have hbl := below_box 96 w g a n c
  have hbx := boxG_new 96 w g a n c
  by_cases k1 : g.kind = 1
  · have GR : ∀ w, Calls Tryz.prog 100 #[.int .i64 g.kind] w fun e w' => e = .returned (.tuple #[.agg #[.func (Fn.func 122) #[] #[], .func (Fn.func 123) #[] #[], .func (Fn.func 124) #[] #[], .func (Fn.func 125) #[] #[]], .bool true]) ∧ Below w.heap.size w w' := fun w => by rw [k1]; exact genRulesOf_1 w
    have HI : Hid (P ↔ (g.addr == 0 && g.bits == 0 && (n : Int) == 0) = true ∧ hostP g.text true) := by show P ↔ _; rw [HP.out]; exact genP_is1 hl k1
    clear k1 HP
    have HO := onlyText_any g a n c
    unfold gnv at HO ⊢
    go_enter Tryz.func84, Tryz.ntmps84
    go_wp2_with fail
    refine (GR _).mono ?_
    rintro e w1 ⟨rfl, hb1⟩
    have B1 := hbl.trans (hb1.mono hbl.size)
    obtain ⟨p0, p1, p2, p3, p4⟩ := (hbx.kept hb1).cells
    have hlt : w.heap.size < w1.heap.size := Nat.lt_of_lt_of_le (by simp) hb1.size
    have hbk := hbx.kept hb1
    obtain ⟨W1, hW1⟩ : ∃ W1, W1 = w1.alloc (.cells #[.func (Fn.func 122) #[] #[], .func (Fn.func 123) #[] #[], .func (Fn.func 124) #[] #[], .func (Fn.func 125) #[] #[]] 142) := ⟨_, rfl⟩
    have hb2 : Below w1.heap.size w1 W1 := by rw [hW1]; exact (Below.refl _ _).alloc (Nat.le_refl _) _
    have B2 := B1.trans (hb2.mono B1.size)
    have hru : W1.heap[w1.heap.size]? = some (.cells #[.func (Fn.func 122) #[] #[], .func (Fn.func 123) #[] #[], .func (Fn.func 124) #[] #[], .func (Fn.func 125) #[] #[]] 142 (0, 0)) := by rw [hW1]; exact heap_alloc_new w1 _
    have HRU : Hid (_) := hru
    have HBK : Hid (_) := hbk.kept hb2
    clear GR hbl hbx hbk hru
    obtain ⟨O, hO⟩ : ∃ O, O = (g.addr == 0 && g.bits == 0 && (n : Int) == 0) := ⟨_, rfl⟩
    go_wp2_with fail
    rw [← hW1]
    refine (HO _).mono ?_
    rintro e w3 ⟨rfl, hb3⟩
    rw [← hO] at HI ⊢
    have B3 := B2.trans (hb3.mono B2.size)
    clear HO hO hW1 p0 p1 p2 p3 p4
    cases O with
    | false =>
      have HN : Hid (¬ P) := fun q => Bool.false_ne_true (HI.out.1 q).1
      clear HI
      go_wp2
      go_ret
      exact saysB_f HN.out B3
    | true =>
      have HI2 : Hid (P ↔ hostP g.text true) := ⟨fun q => (HI.out.1 q).2, fun q => HI.out.2 ⟨rfl, q⟩⟩
      clear HI
      obtain ⟨p0, p1, p2, p3, p4⟩ := (HBK.out.kept hb3).cells
      have hr3 : w3.heap[w1.heap.size]? = some (.cells #[.func (Fn.func 122) #[] #[], .func (Fn.func 123) #[] #[], .func (Fn.func 124) #[] #[], .func (Fn.func 125) #[] #[]] 142 (0, 0)) := (hb3.block _ (Array.getElem?_eq_some_iff.1 HRU.out).1).trans HRU.out
      have f1 : w3.cell? ⟨w1.heap.size, 1, none⟩ = some (.func (Fn.func 123) #[] #[]) := (cell_of_row _ w1.heap.size 1 _ 142 (0, 0) hr3).trans rfl
      clear hr3 HRU HBK
      have NM := hostName_any g a n c w3 (HM.out.kept B3)
      unfold gnv at NM
      go_wp2_with fail
      refine NM.mono ?_
      rintro e w4 ⟨b, rfl, HV, hb4⟩
      have B4 := B3.trans (hb4.mono B3.size)
      clear NM
      cases b with
      | false =>
        have HN : Hid (¬ P) := fun q => Bool.false_ne_true (HV.out.2 (HI2.out.1 q))
        clear HV HI2
        go_wp2
        go_ret
        exact saysB_f HN.out B4
      | true =>
        have HN : Hid P := HI2.out.2 (HV.out.1 rfl)
        clear HV HI2
        go_wp2
        go_ret
        exact saysB_t HN.out B4
  by_cases k2 : g.kind = 2
  · have GR : ∀ w, Calls Tryz.prog 100 #[.int .i64 g.kind] w fun e w' => e = .returned (.tuple #[.agg #[.func (Fn.func 122) #[] #[], .func (Fn.func 126) #[] #[], .func (Fn.func 127) #[] #[], .func (Fn.func 128) #[] #[]], .bool true]) ∧ Below w.heap.size w w' := fun w => by rw [k2]; exact genRulesOf_2 w
    have HI : Hid (P ↔ (g.addr == 0 && g.bits == 0 && (n : Int) == 0) = true ∧ mailP g.text) := by show P ↔ _; rw [HP.out]; exact genP_is2 hl k2
    clear k1 k2 HP
    have HO := onlyText_any g a n c
    unfold gnv at HO ⊢
    go_enter Tryz.func84, Tryz.ntmps84
    go_wp2_with fail
    refine (GR _).mono ?_
    rintro e w1 ⟨rfl, hb1⟩
    have B1 := hbl.trans (hb1.mono hbl.size)
    obtain ⟨p0, p1, p2, p3, p4⟩ := (hbx.kept hb1).cells
    have hlt : w.heap.size < w1.heap.size := Nat.lt_of_lt_of_le (by simp) hb1.size
    have hbk := hbx.kept hb1
    obtain ⟨W1, hW1⟩ : ∃ W1, W1 = w1.alloc (.cells #[.func (Fn.func 122) #[] #[], .func (Fn.func 126) #[] #[], .func (Fn.func 127) #[] #[], .func (Fn.func 128) #[] #[]] 142) := ⟨_, rfl⟩
    have hb2 : Below w1.heap.size w1 W1 := by rw [hW1]; exact (Below.refl _ _).alloc (Nat.le_refl _) _
    have B2 := B1.trans (hb2.mono B1.size)
    have hru : W1.heap[w1.heap.size]? = some (.cells #[.func (Fn.func 122) #[] #[], .func (Fn.func 126) #[] #[], .func (Fn.func 127) #[] #[], .func (Fn.func 128) #[] #[]] 142 (0, 0)) := by rw [hW1]; exact heap_alloc_new w1 _
    have HRU : Hid (_) := hru
    have HBK : Hid (_) := hbk.kept hb2
    clear GR hbl hbx hbk hru
    obtain ⟨O, hO⟩ : ∃ O, O = (g.addr == 0 && g.bits == 0 && (n : Int) == 0) := ⟨_, rfl⟩
    go_wp2_with fail
    rw [← hW1]
    refine (HO _).mono ?_
    rintro e w3 ⟨rfl, hb3⟩
    rw [← hO] at HI ⊢
    have B3 := B2.trans (hb3.mono B2.size)
    clear HO hO hW1 p0 p1 p2 p3 p4
    cases O with
    | false =>
      have HN : Hid (¬ P) := fun q => Bool.false_ne_true (HI.out.1 q).1
      clear HI
      go_wp2
      go_ret
      exact saysB_f HN.out B3
    | true =>
      have HI2 : Hid (P ↔ mailP g.text) := ⟨fun q => (HI.out.1 q).2, fun q => HI.out.2 ⟨rfl, q⟩⟩
      clear HI
      obtain ⟨p0, p1, p2, p3, p4⟩ := (HBK.out.kept hb3).cells
      have hr3 : w3.heap[w1.heap.size]? = some (.cells #[.func (Fn.func 122) #[] #[], .func (Fn.func 126) #[] #[], .func (Fn.func 127) #[] #[], .func (Fn.func 128) #[] #[]] 142 (0, 0)) := (hb3.block _ (Array.getElem?_eq_some_iff.1 HRU.out).1).trans HRU.out
      have f1 : w3.cell? ⟨w1.heap.size, 1, none⟩ = some (.func (Fn.func 126) #[] #[]) := (cell_of_row _ w1.heap.size 1 _ 142 (0, 0) hr3).trans rfl
      clear hr3 HRU HBK
      have NM := mailName_any g a n c w3 (HM.out.kept B3) hs
      unfold gnv at NM
      go_wp2_with fail
      refine NM.mono ?_
      rintro e w4 ⟨b, rfl, HV, hb4⟩
      have B4 := B3.trans (hb4.mono B3.size)
      clear NM
      cases b with
      | false =>
        have HN : Hid (¬ P) := fun q => Bool.false_ne_true (HV.out.2 (HI2.out.1 q))
        clear HV HI2
        go_wp2
        go_ret
        exact saysB_f HN.out B4
      | true =>
        have HN : Hid P := HI2.out.2 (HV.out.1 rfl)
        clear HV HI2
        go_wp2
        go_ret
        exact saysB_t HN.out B4
  by_cases k3 : g.kind = 3
  · have GR : ∀ w, Calls Tryz.prog 100 #[.int .i64 g.kind] w fun e w' => e = .returned (.tuple #[.agg #[.func (Fn.func 129) #[] #[], .func (Fn.func 130) #[] #[], .func (Fn.func 131) #[] #[], .func (Fn.func 132) #[] #[]], .bool true]) ∧ Below w.heap.size w w' := fun w => by rw [k3]; exact genRulesOf_3 w
    have HI : Hid (P ↔ (g.text.toList.isEmpty && (n : Int) == 0) = true ∧ ((0 ≤ g.addr ∧ g.addr ≤ 4294967295) ∧ g.bits = 0)) := by show P ↔ _; rw [HP.out]; exact genP_is3 hl k3
    clear k1 k2 k3 HP
    have HO := onlyAddr_any g a n c
    unfold gnv at HO ⊢
    go_enter Tryz.func84, Tryz.ntmps84
    go_wp2_with fail
    refine (GR _).mono ?_
    rintro e w1 ⟨rfl, hb1⟩
    have B1 := hbl.trans (hb1.mono hbl.size)
    obtain ⟨p0, p1, p2, p3, p4⟩ := (hbx.kept hb1).cells
    have hlt : w.heap.size < w1.heap.size := Nat.lt_of_lt_of_le (by simp) hb1.size
    have hbk := hbx.kept hb1
    obtain ⟨W1, hW1⟩ : ∃ W1, W1 = w1.alloc (.cells #[.func (Fn.func 129) #[] #[], .func (Fn.func 130) #[] #[], .func (Fn.func 131) #[] #[], .func (Fn.func 132) #[] #[]] 142) := ⟨_, rfl⟩
    have hb2 : Below w1.heap.size w1 W1 := by rw [hW1]; exact (Below.refl _ _).alloc (Nat.le_refl _) _
    have B2 := B1.trans (hb2.mono B1.size)
    have hru : W1.heap[w1.heap.size]? = some (.cells #[.func (Fn.func 129) #[] #[], .func (Fn.func 130) #[] #[], .func (Fn.func 131) #[] #[], .func (Fn.func 132) #[] #[]] 142 (0, 0)) := by rw [hW1]; exact heap_alloc_new w1 _
    have HRU : Hid (_) := hru
    have HBK : Hid (_) := hbk.kept hb2
    clear GR hbl hbx hbk hru
    obtain ⟨O, hO⟩ : ∃ O, O = (g.text.toList.isEmpty && (n : Int) == 0) := ⟨_, rfl⟩
    go_wp2_with fail
    rw [← hW1]
    refine (HO _).mono ?_
    rintro e w3 ⟨rfl, hb3⟩
    rw [← hO] at HI ⊢
    have B3 := B2.trans (hb3.mono B2.size)
    clear HO hO hW1 p0 p1 p2 p3 p4
    cases O with
    | false =>
      have HN : Hid (¬ P) := fun q => Bool.false_ne_true (HI.out.1 q).1
      clear HI
      go_wp2
      go_ret
      exact saysB_f HN.out B3
    | true =>
      have HI2 : Hid (P ↔ ((0 ≤ g.addr ∧ g.addr ≤ 4294967295) ∧ g.bits = 0)) := ⟨fun q => (HI.out.1 q).2, fun q => HI.out.2 ⟨rfl, q⟩⟩
      clear HI
      obtain ⟨p0, p1, p2, p3, p4⟩ := (HBK.out.kept hb3).cells
      have hr3 : w3.heap[w1.heap.size]? = some (.cells #[.func (Fn.func 129) #[] #[], .func (Fn.func 130) #[] #[], .func (Fn.func 131) #[] #[], .func (Fn.func 132) #[] #[]] 142 (0, 0)) := (hb3.block _ (Array.getElem?_eq_some_iff.1 HRU.out).1).trans HRU.out
      have f1 : w3.cell? ⟨w1.heap.size, 1, none⟩ = some (.func (Fn.func 130) #[] #[]) := (cell_of_row _ w1.heap.size 1 _ 142 (0, 0) hr3).trans rfl
      clear hr3 HRU HBK
      have NM := addrName_any g a n c w3
      unfold gnv at NM
      go_wp2_with fail
      refine NM.mono ?_
      rintro e w4 ⟨b, rfl, HV, hb4⟩
      have B4 := B3.trans (hb4.mono B3.size)
      clear NM
      cases b with
      | false =>
        have HN : Hid (¬ P) := fun q => Bool.false_ne_true (HV.out.2 (HI2.out.1 q))
        clear HV HI2
        go_wp2
        go_ret
        exact saysB_f HN.out B4
      | true =>
        have HN : Hid P := HI2.out.2 (HV.out.1 rfl)
        clear HV HI2
        go_wp2
        go_ret
        exact saysB_t HN.out B4
  by_cases k4 : g.kind = 4
  · have GR : ∀ w, Calls Tryz.prog 100 #[.int .i64 g.kind] w fun e w' => e = .returned (.tuple #[.agg #[.func (Fn.func 133) #[] #[], .func (Fn.func 134) #[] #[], .func (Fn.func 135) #[] #[], .func (Fn.func 136) #[] #[]], .bool true]) ∧ Below w.heap.size w w' := fun w => by rw [k4]; exact genRulesOf_4 w
    have HI : Hid (P ↔ (g.text.toList.isEmpty && g.addr == 0 && g.bits == 0) = true ∧ (nameP xs ∧ 0 < xs.length)) := by show P ↔ _; rw [HP.out]; exact genP_is4 hl k4
    clear k1 k2 k3 k4 HP
    have HO := onlyName_any g a n c
    unfold gnv at HO ⊢
    go_enter Tryz.func84, Tryz.ntmps84
    go_wp2_with fail
    refine (GR _).mono ?_
    rintro e w1 ⟨rfl, hb1⟩
    have B1 := hbl.trans (hb1.mono hbl.size)
    obtain ⟨p0, p1, p2, p3, p4⟩ := (hbx.kept hb1).cells
    have hlt : w.heap.size < w1.heap.size := Nat.lt_of_lt_of_le (by simp) hb1.size
    have hbk := hbx.kept hb1
    obtain ⟨W1, hW1⟩ : ∃ W1, W1 = w1.alloc (.cells #[.func (Fn.func 133) #[] #[], .func (Fn.func 134) #[] #[], .func (Fn.func 135) #[] #[], .func (Fn.func 136) #[] #[]] 142) := ⟨_, rfl⟩
    have hb2 : Below w1.heap.size w1 W1 := by rw [hW1]; exact (Below.refl _ _).alloc (Nat.le_refl _) _
    have B2 := B1.trans (hb2.mono B1.size)
    have hru : W1.heap[w1.heap.size]? = some (.cells #[.func (Fn.func 133) #[] #[], .func (Fn.func 134) #[] #[], .func (Fn.func 135) #[] #[], .func (Fn.func 136) #[] #[]] 142 (0, 0)) := by rw [hW1]; exact heap_alloc_new w1 _
    have HRU : Hid (_) := hru
    have HBK : Hid (_) := hbk.kept hb2
    clear GR hbl hbx hbk hru
    obtain ⟨O, hO⟩ : ∃ O, O = (g.text.toList.isEmpty && g.addr == 0 && g.bits == 0) := ⟨_, rfl⟩
    go_wp2_with fail
    rw [← hW1]
    refine (HO _).mono ?_
    rintro e w3 ⟨rfl, hb3⟩
    rw [← hO] at HI ⊢
    have B3 := B2.trans (hb3.mono B2.size)
    clear HO hO hW1 p0 p1 p2 p3 p4
    cases O with
    | false =>
      have HN : Hid (¬ P) := fun q => Bool.false_ne_true (HI.out.1 q).1
      clear HI
      go_wp2
      go_ret
      exact saysB_f HN.out B3
    | true =>
      have HI2 : Hid (P ↔ (nameP xs ∧ 0 < xs.length)) := ⟨fun q => (HI.out.1 q).2, fun q => HI.out.2 ⟨rfl, q⟩⟩
      clear HI
      obtain ⟨p0, p1, p2, p3, p4⟩ := (HBK.out.kept hb3).cells
      have hr3 : w3.heap[w1.heap.size]? = some (.cells #[.func (Fn.func 133) #[] #[], .func (Fn.func 134) #[] #[], .func (Fn.func 135) #[] #[], .func (Fn.func 136) #[] #[]] 142 (0, 0)) := (hb3.block _ (Array.getElem?_eq_some_iff.1 HRU.out).1).trans HRU.out
      have f1 : w3.cell? ⟨w1.heap.size, 1, none⟩ = some (.func (Fn.func 134) #[] #[]) := (cell_of_row _ w1.heap.size 1 _ 142 (0, 0) hr3).trans rfl
      clear hr3 HRU HBK
      have NM := partsName_any g a n c xs w3 (HK.out.kept B3) HZ.out
      unfold gnv at NM
      go_wp2_with fail
      refine NM.mono ?_
      rintro e w4 ⟨b, rfl, HV, hb4⟩
      have B4 := B3.trans (hb4.mono B3.size)
      clear NM
      cases b with
      | false =>
        have HN : Hid (¬ P) := fun q => Bool.false_ne_true (HV.out.2 (HI2.out.1 q))
        clear HV HI2
        go_wp2
        go_ret
        exact saysB_f HN.out B4
      | true =>
        have HN : Hid P := HI2.out.2 (HV.out.1 rfl)
        clear HV HI2
        go_wp2
        go_ret
        exact saysB_t HN.out B4
  have HN : Hid (¬ P) := by show ¬ P; rw [HP.out]; intro q; rcases genP_kind q with q | q | q | q <;> omega
  have GR := genRulesOf_none g.kind (w.alloc (.cells #[.int .i64 g.kind, .string g.text, .int .i64 g.addr, .int .i64 g.bits, .slice a n c] 96)) (by omega)
  clear HP HK HZ HM k1 k2 k3 k4
  unfold gnv
  go_enter Tryz.func84, Tryz.ntmps84
  go_wp2_with fail
  refine GR.mono ?_
  rintro e w1 ⟨rfl, hb1⟩
  have B1 := hbl.trans (hb1.mono hbl.size)
  have B2 := B1.alloc B1.size (.cells #[.nilFunc, .nilFunc, .nilFunc, .nilFunc] 142 (0, 0))
  go_wp2
  go_ret
  exact saysB_f HN.out B2

end Go.Proofs.YtkpabanjlhlmfaaGreatDoor
