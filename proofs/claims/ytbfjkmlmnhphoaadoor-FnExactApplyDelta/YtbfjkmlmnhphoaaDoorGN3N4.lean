import Derived.Test.YtbfjkmlmnhphoaaDoorGW1W6
import Derived.Test.YtbfjkmlmnhphoaaDoorN2
import Derived.Laws.IdiomStrings
import Derived.Deep.DeepCutAuto
namespace Go.Proofs.YtbfjkmlmnhphoaaDoor
open Go.RowKit

def prB (x : Int) : Prop := 32 ≤ x ∧ x ≤ 126
def printP (s : ByteArray) (k : Nat) : Prop := ∀ j, j < k → 32 ≤ cAt s j ∧ cAt s j ≤ 126
def partP (x : PT) : Prop := (1 ≤ x.attr ∧ x.attr ≤ 20) ∧ x.val.size ≤ 60 ∧ printP x.val x.val.size ∧ foldL x.val ≠ []
def nameP (xs : List PT) : Prop := xs.length ≤ 8 ∧ ∀ k, k < xs.length → partP (xs.getD k default)
theorem foldL_empty (s : ByteArray) (h : s.size < 1) : foldL s = [] := by
  have : s.size = 0 := by omega
  unfold foldL
  rw [this]
  rfl
theorem printP_succ {s : ByteArray} {k : Nat} (h : printP s k) (h1 : 32 ≤ cAt s k ∧ cAt s k ≤ 126) : printP s (k + 1) := fun j hj => by
  by_cases e : j = k
  · rw [e]; exact h1
  · exact h j (by omega)
/-- It says whether P; nothing old turns. -/
def Says (P : Prop) (w : World) (e : Ending) (w' : World) : Prop := ∃ b, e = .returned (.bool b) ∧ Hid (b = true ↔ P) ∧ Below w.heap.size w w'
theorem says_t {P : Prop} {w w' : World} (h : P) (hb : Below w.heap.size w w') : Says P w (.returned (.bool true)) w' := ⟨true, rfl, ⟨fun _ => h, fun _ => rfl⟩, hb⟩
theorem says_f {P : Prop} {w w' : World} (h : ¬ P) (hb : Below w.heap.size w w') : Says P w (.returned (.bool false)) w' := ⟨false, rfl, ⟨fun e => (by cases e), fun e => absurd e h⟩, hb⟩
theorem strOf_nil : strOfNums [] = { data := #[] } := rfl
theorem strOf_ne (l : List Int) (h : l ≠ []) : strOfNums l ≠ { data := #[] } := fun e => by
  have := strOfNums_size l
  rw [e] at this
  exact h (List.eq_nil_of_length_eq_zero this.symm)

set_option maxRecDepth 10000 in
set_option maxHeartbeats 400000 in
theorem inBounds_any (x lo hi : Int) (w : World) : Calls Tryd.prog 36 #[.int .i64 x, .int .i64 lo, .int .i64 hi] w fun e w' => e = .returned (.bool (decide (lo ≤ x ∧ x ≤ hi))) ∧ w = w' := by
  by_cases h1 : lo ≤ x
  · by_cases h2 : x ≤ hi
    · go_enter Tryd.func36, Tryd.ntmps36
      go_wp2
      go_ret
      exact ⟨by rw [decide_eq_true ⟨h1, h2⟩]; simp [*], rfl⟩
    · go_enter Tryd.func36, Tryd.ntmps36
      go_wp2
      go_ret
      exact ⟨by rw [decide_eq_false (by omega)]; simp [*], rfl⟩
  · go_enter Tryd.func36, Tryd.ntmps36
    go_wp2
    go_ret
    exact ⟨by rw [decide_eq_false (by omega)]; simp [*], rfl⟩

set_option maxRecDepth 10000 in
set_option maxHeartbeats 400000 in
theorem l1In_any (x lo hi : Int) (w : World) : Calls Tryd.prog 30 #[.int .i64 x, .int .i64 lo, .int .i64 hi] w fun e w' => e = .returned (.bool (decide (lo ≤ x ∧ x ≤ hi))) ∧ w = w' := by
  by_cases h1 : lo ≤ x
  · by_cases h2 : x ≤ hi
    · go_enter Tryd.func30, Tryd.ntmps30
      go_wp2
      go_ret
      exact ⟨by rw [decide_eq_true ⟨h1, h2⟩]; simp [*], rfl⟩
    · go_enter Tryd.func30, Tryd.ntmps30
      go_wp2
      go_ret
      exact ⟨by rw [decide_eq_false (by omega)]; simp [*], rfl⟩
  · go_enter Tryd.func30, Tryd.ntmps30
    go_wp2
    go_ret
    exact ⟨by rw [decide_eq_false (by omega)]; simp [*], rfl⟩

set_option maxRecDepth 10000 in
set_option maxHeartbeats 400000 in
theorem isPrinted_any (x : Int) (w : World) :
    Calls Tryd.prog 102 #[.int .u8 x] w (SaysW (prB x) w) := by
  by_cases ha : 32 ≤ x
  · by_cases hb : x ≤ 126
    · have HV : Hid (prB x) := ⟨ha, hb⟩
      go_enter Tryd.func102, Tryd.ntmps102
      go_wp2
      go_ret
      exact saysW_t HV.out
    · have HV : Hid (¬ prB x) := fun h => Bool.false_ne_true (absurd h.2 hb)
      go_enter Tryd.func102, Tryd.ntmps102
      go_wp2
      go_ret
      exact saysW_f HV.out
  · have HV : Hid (¬ prB x) := fun h => Bool.false_ne_true (absurd h.1 ha)
    go_enter Tryd.func102, Tryd.ntmps102
    go_wp2
    go_ret
    exact saysW_f HV.out

set_option maxRecDepth 10000 in
set_option maxHeartbeats 1000000 in
theorem everyPrinted_any (s : ByteArray) (w : World) (hs : s.size ≤ 1048576) :
    Calls Tryd.prog 101 #[.string s, .func (Fn.func 102) #[] #[]] w (SaysW (printP s s.size) w) := by
  go_enter Tryd.func101, Tryd.ntmps101
  go_wp2
  go_loopw [5] (fun i wr => ∃ k : Nat, k ≤ s.size ∧ i = .int .i64 k ∧ Hid (printP s k) ∧ w = wr) (fun i _ => s.size - (intOf i).toNat)
  case atStart => exact ⟨0, Nat.zero_le _, rfl, (fun j hj => absurd hj (Nat.not_lt_zero _)), rfl⟩
  case round =>
    obtain ⟨k, hk, rfl, HP, rfl⟩ := hrel
    by_cases hlt : k < s.size
    · have hbx := s[k].toNat_lt
      have HX : Hid (cAt s k = (s[k].toNat : Int)) := cAt_get s k hlt
      go_wp2_with fail
      refine (isPrinted_any _ _).mono ?_
      rintro e w1 ⟨b, rfl, HV, rfl⟩
      cases b with
      | false =>
        have HN : Hid (¬ (printP s s.size)) := fun h => Bool.false_ne_true (HV.out.2 (by rw [← HX.out]; exact h k hlt))
        go_wp2
        go_ret
        exact saysW_f HN.out
      | true =>
        have HN : Hid (printP s (k + 1)) := printP_succ HP.out (by rw [HX.out]; exact HV.out.1 rfl)
        clear HP HV
        go_wp2
        go_roundw
        case rel => exact ⟨k + 1, by omega, by go_num, HN, by trivial⟩
        case measure => simp [intOf]; omega
    · obtain rfl : k = s.size := by omega
      have HN : Hid (printP s s.size) := HP.out
      go_wp2
      go_ret
      exact saysW_t HN.out

set_option maxRecDepth 10000 in
set_option maxHeartbeats 1000000 in
theorem implPartOk_any (x : PT) (w : World) (hs : x.val.size ≤ 1048576) :
    Calls Tryd.prog 89 #[ptv x] w (Says (partP x) w) := by
  have hbl : Below w.heap.size w (w.alloc (.cells #[.int .i64 x.attr, .string x.val] 107)) := (Below.refl _ _).alloc (Nat.le_refl _) _
  obtain ⟨W0, hW0⟩ : ∃ W0, W0 = w.alloc (.cells #[.int .i64 x.attr, .string x.val] 107) := ⟨_, rfl⟩
  have hh : W0.heap[w.heap.size]? = some (.cells #[.int .i64 x.attr, .string x.val] 107 (0, 0)) := by rw [hW0]; exact heap_alloc_new w _
  have d0 : W0.cell? ⟨w.heap.size, 0, none⟩ = some (.int .i64 x.attr) := (cell_of_row _ w.heap.size 0 _ 107 (0, 0) hh).trans rfl
  have d1 : W0.cell? ⟨w.heap.size, 1, none⟩ = some (.string x.val) := (cell_of_row _ w.heap.size 1 _ 107 (0, 0) hh).trans rfl
  rw [← hW0] at hbl
  have HW0 : Hid (_ = _) := hW0
  clear hW0 hh
  unfold ptv
  by_cases h1 : 1 ≤ x.attr ∧ x.attr ≤ 20
  · by_cases h2 : x.val.size ≤ 60
    · have HC : Hid (_ ∧ _) := ⟨h1, h2⟩
      have e1 : Hid (decide (1 ≤ x.attr ∧ x.attr ≤ 20) = true) := decide_eq_true h1
      clear h1
      go_enter Tryd.func89, Tryd.ntmps89
      go_wp2_with fail
      rw [← HW0.out]
      refine (inBounds_any _ _ _ _).mono ?_
      rintro e w1 ⟨rfl, rfl⟩
      rw [e1.out]
      go_wp2_with fail
      refine (everyPrinted_any x.val _ hs).mono ?_
      rintro e w1 ⟨b, rfl, HV, rfl⟩
      cases b with
      | false =>
        have HN : Hid (¬ (partP x)) := fun h => Bool.false_ne_true (HV.out.2 h.2.2.1)
        go_wp2
        go_ret
        exact says_f HN.out hbl
      | true =>
        have HVt : Hid (printP x.val x.val.size) := HV.out.1 rfl
        clear HV
        go_wp2_with fail
        refine (implFold_any x.val _ hs).mono ?_
        rintro e w1 ⟨rfl, hb1⟩
        have hB1 := hbl.trans (hb1.mono hbl.size)
        by_cases h3 : foldL x.val = []
        · have HN : Hid (¬ (partP x)) := fun h => Bool.false_ne_true (absurd h3 h.2.2.2)
          rw [h3, strOf_nil]
          clear h3
          go_wp2
          go_ret
          exact says_f HN.out hB1
        · have HN : Hid (partP x) := ⟨HC.out.1, HC.out.2, HVt.out, h3⟩
          have z := strOf_ne _ h3
          obtain ⟨t, ht⟩ : ∃ t, t = strOfNums (foldL x.val) := ⟨_, rfl⟩
          rw [← ht] at z ⊢
          have z3 : t.toList.isEmpty = false := by
            rw [ht, ByteArray.toList_eq, strOfNums_data]
            cases hl : foldL x.val with
            | nil => exact absurd hl h3
            | cons _ _ => rfl
          clear h3 ht z
          go_wp2
          go_ret
          exact says_t HN.out hB1
    · have HN : Hid (¬ (partP x)) := fun h => Bool.false_ne_true (absurd h.2.1 h2)
      have e1 : Hid (decide (1 ≤ x.attr ∧ x.attr ≤ 20) = true) := decide_eq_true h1
      clear h1
      go_enter Tryd.func89, Tryd.ntmps89
      go_wp2_with fail
      rw [← HW0.out]
      refine (inBounds_any _ _ _ _).mono ?_
      rintro e w1 ⟨rfl, rfl⟩
      rw [e1.out]
      go_wp2
      go_ret
      exact says_f HN.out hbl
  · have HN : Hid (¬ (partP x)) := fun h => Bool.false_ne_true (absurd h.1 h1)
    have e1 : Hid (decide (1 ≤ x.attr ∧ x.attr ≤ 20) = false) := decide_eq_false h1
    clear h1
    go_enter Tryd.func89, Tryd.ntmps89
    go_wp2_with fail
    rw [← HW0.out]
    refine (inBounds_any _ _ _ _).mono ?_
    rintro e w1 ⟨rfl, rfl⟩
    rw [e1.out]
    go_wp2
    go_ret
    exact says_f HN.out hbl

set_option maxRecDepth 10000 in
set_option maxHeartbeats 1000000 in
theorem implNameOk_any (a : Option Addr) (n c : Nat) (xs : List PT) (w : World) (h : Pts w a n xs) (hz : ∀ k, k < n → (xs.getD k default).val.size ≤ 1048576) :
    Calls Tryd.prog 68 #[nmv a n c] w (Says (nameP xs) w) := by
  have hn := h.max
  have hbl : Below w.heap.size w (w.alloc (.cells #[.slice a n c] 33)) := (Below.refl _ _).alloc (Nat.le_refl _) _
  have HK : Hid (Pts w a n xs) := h
  have HZ : Hid (_) := hz
  have HL : Hid (xs.length = n) := h.len
  clear h hz
  unfold nmv
  by_cases h8 : n ≤ 8
  · go_enter Tryd.func68, Tryd.ntmps68
    go_wp2
    go_loopw [12] (fun i wr => ∃ k : Nat, k ≤ n ∧ i = .int .i64 k ∧ Hid (∀ j, j < k → partP (xs.getD j default)) ∧ Below w.heap.size w wr) (fun i _ => n - (intOf i).toNat)
    case atStart => exact ⟨0, Nat.zero_le _, rfl, (fun j hj => absurd hj (Nat.not_lt_zero _)), hbl⟩
    case round =>
      obtain ⟨k, hk, rfl, HA, hbr⟩ := hrel
      by_cases hkn : k < n
      · obtain ⟨b, off, rfl, hlb, hc, _⟩ := HK.out.get k hkn
        have hzz := HZ.out k hkn
        obtain ⟨y, hy⟩ : ∃ y, y = xs.getD k default := ⟨_, rfl⟩
        rw [← hy] at hc hzz
        have HY : Hid (y = xs.getD k default) := hy
        obtain ⟨c0, c1⟩ := hc.of (w' := wr) (fun i => hbr.cell (p := ⟨b, i, none⟩) hlb)
        have hkni : (k : Int) < (n : Int) := by omega
        have hb2 : Below w.heap.size w (wr.alloc (.cells #[.int .i64 y.attr, .string y.val] 107)) := hbr.alloc hbr.size _
        clear hc hy
        go_wp2_with fail
        refine (implPartOk_any y _ hzz).mono ?_
        rintro e w2 ⟨r, rfl, HV, hb3⟩
        have hb3' : Below w.heap.size w w2 := hb2.trans (hb3.mono hb2.size)
        cases r with
        | false =>
          have HN : Hid (¬ (nameP xs)) := fun h => Bool.false_ne_true (HV.out.2 (by rw [HY.out]; exact h.2 k (by rw [HL.out]; exact hkn)))
          go_wp2
          go_ret
          exact says_f HN.out hb3'
        | true =>
          have HN : Hid (∀ j, j < k + 1 → partP (xs.getD j default)) := fun j hj => by
            by_cases e : j = k
            · rw [e, ← HY.out]; exact HV.out.1 rfl
            · exact HA.out j (by omega)
          clear HV HA
          go_wp2
          go_roundw
          case rel => exact ⟨k + 1, by omega, by go_num, HN, hb3'⟩
          case measure => simp [intOf]; omega
      · obtain rfl : n = k := by omega
        have HN : Hid (nameP xs) := ⟨by rw [HL.out]; exact h8, fun j hj => HA.out j (by rw [HL.out] at hj; exact hj)⟩
        go_wp2
        go_ret
        exact says_t HN.out hbr
  · have HN : Hid (¬ (nameP xs)) := fun h => Bool.false_ne_true (absurd h.1 (by rw [HL.out]; exact h8))
    go_enter Tryd.func68, Tryd.ntmps68
    go_wp2
    go_ret
    exact says_f HN.out hbl

end Go.Proofs.YtbfjkmlmnhphoaaDoor

namespace Go.Proofs.YtbfjkmlmnhphoaaDoor
open Go.RowKit

def bytesOf (s : ByteArray) : List Int := (List.range s.size).map (cAt s)
theorem bytesOf_len (s : ByteArray) : (bytesOf s).length = s.size := by simp [bytesOf]
theorem bytesOf_get (s : ByteArray) (k : Nat) (h : k < s.size) : (bytesOf s).getD k 0 = cAt s k := by simp [bytesOf, h]
theorem cAt_byte (s : ByteArray) (k : Nat) : 0 ≤ cAt s k ∧ cAt s k ≤ 255 := by
  unfold cAt
  have := (s.data.toList.getD k 0).toNat_lt
  omega

/-- []byte(text): a row of its own. -/
theorem conv_str (w : World) (s : ByteArray) :
    ∃ cp W, (convert 9 26 (.string s)).run Tryd.prog w = .ok (.slice (some ⟨w.heap.size, 0, none⟩) s.size cp) W ∧ Row W (some ⟨w.heap.size, 0, none⟩) s.size (bytesOf s) ∧ Below w.heap.size w W := by
  have hr := run_bytes_of_string (P := Tryd.prog) w 9 26 5 s Tryd.underlying9 Tryd.underlying26 Tryd.underlying5
  obtain ⟨cp, hcp⟩ : ∃ cp, cp = grownCap w s.size 0 5 := ⟨_, rfl⟩
  rw [← hcp] at hr
  refine ⟨cp, _, hr, ⟨bytesOf_len s, fun k hk => ⟨w.heap.size, 0, rfl, by simp, ?_⟩, fun k => ?_⟩, ((Below.refl _ _).drew).alloc (Nat.le_refl _) _⟩
  · rw [Nat.zero_add, cell_of_row _ w.heap.size k _ 5 _ (heap_alloc_new w.drew _), bytesOf_get s k hk, cAt_get s k hk]
    have h1 : k < s.data.size := hk
    unfold bytesRow
    rw [Array.getElem?_append_left (by simpa using h1), Array.getElem?_map, Array.getElem?_eq_getElem h1]
    rfl
  · by_cases hk : k < s.size
    · rw [bytesOf_get s k hk]; exact cAt_byte s k
    · rw [List.getD_eq_getElem?_getD, List.getElem?_eq_none (by rw [bytesOf_len]; omega)]; simp

set_option maxRecDepth 10000 in
set_option maxHeartbeats 1000000 in
theorem l3Text_any (a : Option Addr) (n c : Nat) (bs : List Int) (w : World) (h : Row w a n bs) (hn : n ≤ 1048576) :
    Calls Tryd.prog 87 #[.slice a n c] w (SaysW (∀ k, k < n → 32 ≤ bs.getD k 0 ∧ bs.getD k 0 ≤ 126) w) := by
  have H0 : Hid (Row w a n bs) := h
  have hby := h.byte
  clear h
  obtain ⟨P, hP⟩ : ∃ P : Prop, P = ∀ k, k < n → 32 ≤ bs.getD k 0 ∧ bs.getD k 0 ≤ 126 := ⟨_, rfl⟩
  rw [← hP]
  have HP : Hid (P = ∀ k, k < n → 32 ≤ bs.getD k 0 ∧ bs.getD k 0 ≤ 126) := hP
  clear hP
  go_enter Tryd.func87, Tryd.ntmps87
  go_wp2
  go_loopw [3] (fun i wr => ∃ k : Nat, k ≤ n ∧ i = .int .i64 k ∧ Hid (∀ j, j < k → 32 ≤ bs.getD j 0 ∧ bs.getD j 0 ≤ 126) ∧ w = wr) (fun i _ => n - (intOf i).toNat)
  case atStart => exact ⟨0, Nat.zero_le _, rfl, (fun j hj => absurd hj (Nat.not_lt_zero _)), rfl⟩
  case round =>
    obtain ⟨k, hk, rfl, HA, rfl⟩ := hrel
    by_cases hlt : k < n
    · obtain ⟨b, off, rfl, hb, hc⟩ := H0.out.get k hlt
      obtain ⟨x, hx⟩ : ∃ x, x = bs.getD k 0 := ⟨_, rfl⟩
      have hxb := hby k
      rw [← hx] at hc hxb
      obtain ⟨hx0, hx1⟩ := hxb
      have HX : Hid (x = bs.getD k 0) := hx
      clear hx
      have hlti : (k : Int) < (n : Int) := by omega
      by_cases h1 : 32 ≤ x
      · by_cases h2 : x ≤ 126
        · have HN : Hid (∀ j, j < k + 1 → 32 ≤ bs.getD j 0 ∧ bs.getD j 0 ≤ 126) := fun j hj => by
            by_cases e : j = k
            · rw [e, ← HX.out]; exact ⟨h1, h2⟩
            · exact HA.out j (by omega)
          clear HA
          go_wp2
          go_roundw
          case rel => exact ⟨k + 1, by omega, by go_num, HN, by trivial⟩
          case measure => simp [intOf]; omega
        · have HN : Hid (¬ P) := fun h => by rw [HP.out] at h; have := h k hlt; rw [← HX.out] at this; omega
          go_wp2
          go_ret
          exact saysW_f HN.out
      · have HN : Hid (¬ P) := fun h => by rw [HP.out] at h; have := h k hlt; rw [← HX.out] at this; omega
        go_wp2
        go_ret
        exact saysW_f HN.out
    · obtain rfl : n = k := by omega
      have HN : Hid P := by show P; rw [HP.out]; exact HA.out
      clear HA
      go_wp2
      go_ret
      exact saysW_t HN.out

set_option maxRecDepth 10000 in
set_option maxHeartbeats 2000000 in
theorem specNameOk_any (a : Option Addr) (n c : Nat) (xs : List PT) (w : World) (h : Pts w a n xs) (hz : ∀ k, k < n → (xs.getD k default).val.size ≤ 1048576) :
    Calls Tryd.prog 66 #[nmv a n c] w (Says (nameP xs) w) := by
  have hn := h.max
  obtain ⟨W0, hW0⟩ : ∃ W0, W0 = w.alloc (.cells #[.slice a n c] 33) := ⟨_, rfl⟩
  have hbl : Below w.heap.size w W0 := by rw [hW0]; exact (Below.refl _ _).alloc (Nat.le_refl _) _
  have hh : W0.heap[w.heap.size]? = some (.cells #[.slice a n c] 33 (0, 0)) := by rw [hW0]; exact heap_alloc_new w _
  have hlt0 : w.heap.size < W0.heap.size := (Array.getElem?_eq_some_iff.1 hh).1
  have d0 : W0.cell? ⟨w.heap.size, 0, none⟩ = some (.slice a n c) := (cell_of_row _ w.heap.size 0 _ 33 (0, 0) hh).trans rfl
  have HK : Hid (Pts W0 a n xs) := h.kept hbl
  have HZ : Hid (_) := hz
  have HL : Hid (xs.length = n) := h.len
  have HW0 : Hid (_ = _) := hW0
  clear h hz hW0 hh
  unfold nmv
  by_cases h8 : n ≤ 8
  · go_enter Tryd.func66, Tryd.ntmps66
    go_upto_region 1 with fail
    rw [← HW0.out]
    go_wp2
    go_loopw [3] (fun i wr => ∃ k : Nat, k ≤ n ∧ i = .int .i64 k ∧ Hid (∀ j, j < k → partP (xs.getD j default)) ∧ Below W0.heap.size W0 wr) (fun i _ => n - (intOf i).toNat)
    case atStart => exact ⟨0, Nat.zero_le _, rfl, (fun j hj => absurd hj (Nat.not_lt_zero _)), Below.refl _ _⟩
    case round =>
      obtain ⟨k, hk, rfl, HA, hbr⟩ := hrel
      have d1 : wr.cell? ⟨w.heap.size, 0, none⟩ = some (.slice a n c) := (hbr.cell (p := ⟨w.heap.size, 0, none⟩) hlt0).trans d0
      by_cases hkn : k < n
      · obtain ⟨b, off, rfl, hlb, hc, _⟩ := HK.out.get k hkn
        have hzz := HZ.out k hkn
        obtain ⟨y, hy⟩ : ∃ y, y = xs.getD k default := ⟨_, rfl⟩
        rw [← hy] at hc hzz
        have HY : Hid (y = xs.getD k default) := hy
        obtain ⟨c0, c1⟩ := hc.of (w' := wr) (fun i => hbr.cell (p := ⟨b, i, none⟩) hlb)
        have hkni : (k : Int) < (n : Int) := by omega
        obtain ⟨W1, hW1⟩ : ∃ W1, W1 = wr.alloc (.cells #[.int .i64 y.attr, .string y.val] 107) := ⟨_, rfl⟩
        have hb2 : Below W0.heap.size W0 W1 := by rw [hW1]; exact hbr.alloc hbr.size _
        have hh : W1.heap[wr.heap.size]? = some (.cells #[.int .i64 y.attr, .string y.val] 107 (0, 0)) := by rw [hW1]; exact heap_alloc_new wr _
        have hlt1 : wr.heap.size < W1.heap.size := (Array.getElem?_eq_some_iff.1 hh).1
        have g0 : W1.cell? ⟨wr.heap.size, 0, none⟩ = some (.int .i64 y.attr) := (cell_of_row _ wr.heap.size 0 _ 107 (0, 0) hh).trans rfl
        have g1 : W1.cell? ⟨wr.heap.size, 1, none⟩ = some (.string y.val) := (cell_of_row _ wr.heap.size 1 _ 107 (0, 0) hh).trans rfl
        have HW1 : Hid (_ = _) := hW1
        have BAD : Hid (¬ partP y → ¬ nameP xs) := fun h h2 => h (by rw [HY.out]; exact h2.2 k (by rw [HL.out]; exact hkn))
        have GOOD : Hid (partP y → ∀ j, j < k + 1 → partP (xs.getD j default)) := fun h j hj => by
          by_cases e : j = k
          · rw [e, ← HY.out]; exact h
          · exact HA.out j (by omega)
        clear hc hy hW1 hh HA
        go_upto_region 7 with fail
        rw [← HW1.out]
        clear HW1 c0 c1 d1
        go_wp2_with fail
        refine (l1In_any _ _ _ _).mono ?_
        rintro e w1 ⟨rfl, rfl⟩
        by_cases h1 : 1 ≤ y.attr ∧ y.attr ≤ 20
        · rw [decide_eq_true h1]
          have H1 : Hid (_ ∧ _) := h1
          clear h1
          by_cases h2 : y.val.size < 1
          · have HN : Hid (¬ nameP xs) := BAD.out (fun h => h.2.2.2 (foldL_empty _ h2))
            have hi2 : (y.val.size : Int) < 1 := by omega
            clear BAD GOOD
            go_wp2
            go_ret
            exact says_f HN.out (hbl.trans (hb2.mono hbl.size))
          · by_cases h3 : y.val.size ≤ 60
            · have hi2 : ¬ ((y.val.size : Int) < 1) := by omega
              have hi3 : ¬ (60 < (y.val.size : Int)) := by omega
              obtain ⟨cp, W2, hcv, hrow, hb3⟩ := conv_str W1 y.val
              have hB3 : Below W0.heap.size W0 W2 := hb2.trans (hb3.mono hb2.size)
              have g12 : W2.cell? ⟨wr.heap.size, 1, none⟩ = some (.string y.val) := (hb3.cell (p := ⟨wr.heap.size, 1, none⟩) hlt1).trans g1
              have HROW : Hid (_) := hrow
              clear hrow
              go_wp2_with fail
              refine (l3Text_any _ _ _ _ _ HROW.out (by omega)).mono ?_
              rintro e w2 ⟨bb, rfl, HV, rfl⟩
              have HV2 : Hid (bb = true ↔ printP y.val y.val.size) := by
                show _ ↔ _
                rw [HV.out]
                exact ⟨fun h j hj => by have := h j hj; rw [bytesOf_get _ _ hj] at this; exact this, fun h j hj => by rw [bytesOf_get _ _ hj]; exact h j hj⟩
              clear HV hcv
              cases bb with
              | false =>
                have HN : Hid (¬ nameP xs) := BAD.out (fun h => Bool.false_ne_true (HV2.out.2 h.2.2.1))
                clear BAD GOOD HV2
                go_wp2
                go_ret
                exact says_f HN.out (hbl.trans (hB3.mono hbl.size))
              | true =>
                have HP : Hid (printP y.val y.val.size) := HV2.out.1 rfl
                clear HV2
                go_wp2_with fail
                refine (specFold_any y.val _ hzz).mono ?_
                rintro e w3 ⟨rfl, hb4⟩
                have hB4 : Below W0.heap.size W0 w3 := hB3.trans (hb4.mono hB3.size)
                by_cases h4 : foldL y.val = []
                · have HN : Hid (¬ nameP xs) := BAD.out (fun h => h.2.2.2 h4)
                  rw [h4, strOf_nil]
                  clear h4 BAD GOOD
                  go_wp2
                  go_ret
                  exact says_f HN.out (hbl.trans (hB4.mono hbl.size))
                · have HN : Hid (_) := GOOD.out ⟨H1.out, h3, HP.out, h4⟩
                  obtain ⟨t, ht⟩ : ∃ t, t = strOfNums (foldL y.val) := ⟨_, rfl⟩
                  rw [← ht]
                  have z3 : t.toList.isEmpty = false := by
                    rw [ht, ByteArray.toList_eq, strOfNums_data]
                    cases hl : foldL y.val with
                    | nil => exact absurd hl h4
                    | cons _ _ => rfl
                  clear h4 ht BAD GOOD
                  go_wp2
                  go_roundw
                  case rel => exact ⟨k + 1, by omega, by go_num, HN, hB4⟩
                  case measure => simp [intOf]; omega
            · have HN : Hid (¬ nameP xs) := BAD.out (fun h => h3 h.2.1)
              have hi2 : ¬ ((y.val.size : Int) < 1) := by omega
              have hi3 : 60 < (y.val.size : Int) := by omega
              clear BAD GOOD
              go_wp2
              go_ret
              exact says_f HN.out (hbl.trans (hb2.mono hbl.size))
        · rw [decide_eq_false h1]
          have HN : Hid (¬ nameP xs) := BAD.out (fun h => h1 h.1)
          clear h1 BAD GOOD
          go_wp2
          go_ret
          exact says_f HN.out (hbl.trans (hb2.mono hbl.size))
      · obtain rfl : n = k := by omega
        have HN : Hid (nameP xs) := ⟨by rw [HL.out]; exact h8, fun j hj => HA.out j (by rw [HL.out] at hj; exact hj)⟩
        clear HA
        go_wp2
        go_ret
        exact says_t HN.out (hbl.trans (hbr.mono hbl.size))
  · have HN : Hid (¬ nameP xs) := fun h => absurd h.1 (by rw [HL.out]; exact h8)
    go_enter Tryd.func66, Tryd.ntmps66
    go_upto_region 1 with fail
    rw [← HW0.out]
    go_wp2
    go_ret
    exact says_f HN.out hbl

end Go.Proofs.YtbfjkmlmnhphoaaDoor
