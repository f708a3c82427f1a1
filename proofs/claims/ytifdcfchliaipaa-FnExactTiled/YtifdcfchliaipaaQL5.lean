import Derived.Test.YtifdcfchliaipaaQL4
namespace Go.Proofs.Ytifdcfchliaipaa
open Go.RowKit Go.Sort

def lrR (zs : List Int) : Int × Bool := if zs.length ≤ 200 then (rootL zs, true) else (0, false)

set_option maxHeartbeats 1000000 in
theorem specLogRoot_any (a : Option Addr) (n c : Nat) (zs : List Int) (w : World) (h : RowU w a n zs) (hc : n ≤ c) (hcm : c ≤ 9223372036854775807) :
    Calls Try.prog 15 #[.slice a n c] w fun e w' => e = .returned (.tuple #[.int .u64 (lrR zs).1, .bool (lrR zs).2]) ∧ Below w.heap.size w w' := by
  have H0 : Hid (RowU w a n zs) := h
  have HL : Hid (zs.length = n) := h.len
  clear h
  by_cases hb : n ≤ 200
  · have hbi : ¬ (200 : Int) < (n : Int) := by omega
    have HV : Hid (lrR zs = (rootL zs, true)) := by show _ = _; unfold lrR; rw [if_pos (by rw [HL.out]; exact hb)]
    go_enter Try.func15, Try.ntmps15
    go_wp2_with fail
    refine (l15Root_any n a n c zs _ (Nat.le_refl _) H0.out (by omega) hc hcm).mono ?_
    rintro e w1 ⟨rfl, hb1⟩
    go_wp2
    go_ret2
    exact ⟨by rw [HV.out]; rfl, hb1⟩
  · have hbi : (200 : Int) < (n : Int) := by omega
    have HV : Hid (lrR zs = (0, false)) := by show _ = _; unfold lrR; rw [if_neg (by rw [HL.out]; exact hb)]
    go_enter Try.func15, Try.ntmps15
    go_wp2
    go_ret2
    exact ⟨by rw [HV.out]; rfl, Below.refl _ _⟩

set_option maxHeartbeats 1000000 in
theorem implLogRoot_any (a : Option Addr) (n c : Nat) (zs : List Int) (w : World) (h : RowU w a n zs) :
    Calls Try.prog 17 #[.slice a n c] w fun e w' => e = .returned (.tuple #[.int .u64 (lrR zs).1, .bool (lrR zs).2]) ∧ Below w.heap.size w w' := by
  have H0 : Hid (RowU w a n zs) := h
  have HL : Hid (zs.length = n) := h.len
  clear h
  by_cases hb : n ≤ 200
  · have hbi : ¬ (200 : Int) < (n : Int) := by omega
    have HV : Hid (lrR zs = (rootL zs, true)) := by show _ = _; unfold lrR; rw [if_pos (by rw [HL.out]; exact hb)]
    go_enter Try.func17, Try.ntmps17
    go_wp2_with fail
    refine (rootOf_any a n c zs _ H0.out (by omega)).mono ?_
    rintro e w1 ⟨rfl, hb1⟩
    go_wp2
    go_ret2
    exact ⟨by rw [HV.out]; rfl, hb1⟩
  · have hbi : (200 : Int) < (n : Int) := by omega
    have HV : Hid (lrR zs = (0, false)) := by show _ = _; unfold lrR; rw [if_neg (by rw [HL.out]; exact hb)]
    go_enter Try.func17, Try.ntmps17
    go_wp2
    go_ret2
    exact ⟨by rw [HV.out]; rfl, Below.refl _ _⟩

set_option maxHeartbeats 1000000 in
theorem lawLogRoot_walk  (a : Option Addr) (n c : Nat) (zs : List Int) (w : World)  (h : RowU w a n zs ∧ n ≤ 9223372036854775807) :
    Calls Try.prog 4 #[.slice a n c] w fun e w' => e = .returned (.bool true) ∧ Below w.heap.size w w' := by
  have H0 : Hid (RowU w a n zs) := h.1
  have hmx := h.2
  clear h
  by_cases hbig : 1048576 < n
  · go_enter Try.func4, Try.ntmps4
    go_wp2
    go_ret
    exact ⟨rfl, Below.refl _ _⟩
  · have hn : n ≤ 1048576 := by omega
    go_enter Try.func4, Try.ntmps4
    go_wp2_with fail
    refine (toUint64S_any a n c zs _ H0.out hn).mono ?_
    rintro e w1 ⟨a1, rfl, ho1, hb1⟩
    go_wp2_with fail
    refine (specLogRoot_any a1 n n zs _ ho1.toRow (Nat.le_refl _) (by omega)).mono ?_
    rintro e w2 ⟨rfl, hb2⟩
    have B2 := keepT hb1 hb2
    clear hb1 hb2 ho1
    obtain ⟨t, ht⟩ : ∃ t, t = lrR zs := ⟨_, rfl⟩
    have HT : Hid (t = lrR zs) := ht
    rw [← ht]
    clear ht
    obtain ⟨v, ok⟩ := t
    go_wp2_with fail
    refine (toUint64S_any a n c zs _ (H0.out.kept B2) hn).mono ?_
    rintro e w3 ⟨a3, rfl, ho3, hb3⟩
    have B3 := keepT B2 hb3
    have HO3 : Hid (RowU w3 a3 n zs) := ho3.toRow
    clear hb3 ho3
    go_wp2_with fail
    refine (implLogRoot_any a3 n n zs _ HO3.out).mono ?_
    rintro e w4 ⟨rfl, hb4⟩
    rw [← HT.out]
    have B4 := keepT B3 hb4
    have HO4 : Hid (RowU w4 a3 n zs) := HO3.out.kept hb4
    clear hb4 HO3
    have z1 : (v != v) = false := by simp
    have z2 : (ok != ok) = false := by simp
    go_wp2_with fail
    refine (toUint64S_any a n c zs _ (H0.out.kept B4) hn).mono ?_
    rintro e w5 ⟨a5, rfl, ho5, hb5⟩
    have B5 := keepT B4 hb5
    go_wp2_with fail
    refine (eqUint64S_same a3 a5 n n n zs _ (HO4.out.kept hb5) ho5.toRow (by omega)).mono ?_
    rintro e w6 ⟨rfl, hb6⟩
    go_wp2_with fail
    go_ret
    exact ⟨rfl, keepT B5 hb6⟩

def enW : List Int := [101, 110, 116, 114, 121]
theorem enW_byte : ∀ k, 0 ≤ enW.getD k 0 ∧ enW.getD k 0 ≤ 255 := bytes_of_all (by decide)
def entN (bs : List Int) : Int := hashL (partsL [enW, bs])
theorem ent_total (bs : List Int) (h : bs.length ≤ 1048576) : total [enW, bs] ≤ 2097152 := by unfold total; simp [enW]; omega

set_option maxHeartbeats 1000000 in
theorem specEntryHash_any (a : Option Addr) (n c : Nat) (bs : List Int) (w : World) (h : Row w a n bs) (hn : n ≤ 1048576) (hc : a = none → c = 0) :
    Calls Try.prog 11 #[.slice a n c] w fun e w' => e = .returned (.int .u64 (entN bs)) ∧ Below w.heap.size w w' := by
  have H0 : Hid (Row w a n bs) := h
  have HT : Hid (total [enW, bs] ≤ 2097152) := ent_total bs (by rw [h.len]; exact hn)
  clear h
  have hcv := Lib.run_convert_bytes_const (P := Try.prog) w 22 5 #[.int .u8 101, .int .u8 110, .int .u8 116, .int .u8 114, .int .u8 121] 5 5 Try.underlying22 Try.underlying5
  have hrw : Row (w.alloc (.cells #[.int .u8 101, .int .u8 110, .int .u8 116, .int .u8 114, .int .u8 121] 5 (5, 6))) (some ⟨w.heap.size, 0, none⟩) 5 enW := row_word w enW (5, 6) enW_byte
  have hb0 : Below w.heap.size w (w.alloc (.cells #[.int .u8 101, .int .u8 110, .int .u8 116, .int .u8 114, .int .u8 121] 5 (5, 6))) := (Below.refl _ _).alloc (Nat.le_refl _) _
  obtain ⟨w0, hw0⟩ : ∃ w0, w0 = w.alloc (.cells #[.int .u8 101, .int .u8 110, .int .u8 116, .int .u8 114, .int .u8 121] 5 (5, 6)) := ⟨_, rfl⟩
  rw [← hw0] at hrw hb0
  have HRS : Hid (Rows2 (w0.alloc (.cells #[.slice (some ⟨w.heap.size, 0, none⟩) 5 5, .slice a n c] 22)) (some ⟨w0.heap.size, 0, none⟩) 2 [enW, bs]) := by
    refine rows2_lit w0 [(some ⟨w.heap.size, 0, none⟩, 5, 5, enW), (a, n, c, bs)] 22 ?_
    intro p hp
    simp only [List.mem_cons, List.not_mem_nil, or_false] at hp
    rcases hp with rfl | rfl
    · exact ⟨hrw, fun h => by cases h⟩
    · exact ⟨H0.out.kept hb0, hc⟩
  have B3 : Below w.heap.size w (w0.alloc (.cells #[.slice (some ⟨w.heap.size, 0, none⟩) 5 5, .slice a n c] 22)) := hb0.alloc hb0.size _
  have hsz : w0.heap.size = w.heap.size + 1 := by rw [hw0]; simp
  rw [hsz] at HRS
  have HW0 : Hid (_ = _) := hw0
  clear hsz
  clear hw0 hrw
  go_enter Try.func11, Try.ntmps11
  go_wp2_with fail
  rw [← HW0.out]
  refine (specHashAll_any _ 2 2 [enW, bs] _ HRS.out (by decide) HT.out).mono ?_
  rintro e w3 ⟨rfl, hb3⟩
  go_wp2
  go_ret
  exact ⟨rfl, keepT B3 hb3⟩

set_option maxHeartbeats 1000000 in
theorem implEntryHash_any (a : Option Addr) (n c : Nat) (bs : List Int) (w : World) (h : Row w a n bs) (hn : n ≤ 1048576) (hc : a = none → c = 0) :
    Calls Try.prog 13 #[.slice a n c] w fun e w' => e = .returned (.int .u64 (entN bs)) ∧ Below w.heap.size w w' := by
  have H0 : Hid (Row w a n bs) := h
  have HT : Hid (total [enW, bs] ≤ 2097152) := ent_total bs (by rw [h.len]; exact hn)
  clear h
  have hcv := Lib.run_convert_bytes_const (P := Try.prog) w 22 5 #[.int .u8 101, .int .u8 110, .int .u8 116, .int .u8 114, .int .u8 121] 5 5 Try.underlying22 Try.underlying5
  have hrw : Row (w.alloc (.cells #[.int .u8 101, .int .u8 110, .int .u8 116, .int .u8 114, .int .u8 121] 5 (5, 6))) (some ⟨w.heap.size, 0, none⟩) 5 enW := row_word w enW (5, 6) enW_byte
  have hb0 : Below w.heap.size w (w.alloc (.cells #[.int .u8 101, .int .u8 110, .int .u8 116, .int .u8 114, .int .u8 121] 5 (5, 6))) := (Below.refl _ _).alloc (Nat.le_refl _) _
  obtain ⟨w0, hw0⟩ : ∃ w0, w0 = w.alloc (.cells #[.int .u8 101, .int .u8 110, .int .u8 116, .int .u8 114, .int .u8 121] 5 (5, 6)) := ⟨_, rfl⟩
  rw [← hw0] at hrw hb0
  have HRS : Hid (Rows2 (w0.alloc (.cells #[.slice (some ⟨w.heap.size, 0, none⟩) 5 5, .slice a n c] 22)) (some ⟨w0.heap.size, 0, none⟩) 2 [enW, bs]) := by
    refine rows2_lit w0 [(some ⟨w.heap.size, 0, none⟩, 5, 5, enW), (a, n, c, bs)] 22 ?_
    intro p hp
    simp only [List.mem_cons, List.not_mem_nil, or_false] at hp
    rcases hp with rfl | rfl
    · exact ⟨hrw, fun h => by cases h⟩
    · exact ⟨H0.out.kept hb0, hc⟩
  have B3 : Below w.heap.size w (w0.alloc (.cells #[.slice (some ⟨w.heap.size, 0, none⟩) 5 5, .slice a n c] 22)) := hb0.alloc hb0.size _
  have hsz : w0.heap.size = w.heap.size + 1 := by rw [hw0]; simp
  rw [hsz] at HRS
  have HW0 : Hid (_ = _) := hw0
  clear hsz
  clear hw0 hrw
  go_enter Try.func13, Try.ntmps13
  go_wp2_with fail
  rw [← HW0.out]
  refine (implHashParts_any _ 2 2 [enW, bs] _ HRS.out (by decide) HT.out).mono ?_
  rintro e w3 ⟨rfl, hb3⟩
  go_wp2
  go_ret
  exact ⟨rfl, keepT B3 hb3⟩

set_option maxHeartbeats 1000000 in
theorem lawEntryHash_walk (a : Option Addr) (n cap : Nat) (zs : List Int) (w : World) (hr : IsRow .u8 w a n cap zs) :
    Calls Try.prog 3 #[.slice a n cap] w fun e w' => e = .returned (.bool true) ∧ Below w.heap.size w w' := by
  obtain ⟨hrow, hmax⟩ := hr.row
  obtain ⟨bs, hbs⟩ : ∃ bs, bs = zs.take n := ⟨_, rfl⟩
  rw [← hbs] at hrow
  clear hbs hr
  unfold maxLen at hmax
  have H0 : Hid (Row w a n bs) := hrow
  clear hrow
  by_cases hbig : 1048576 < n
  · go_enter Try.func3, Try.ntmps3
    go_wp2
    go_ret
    exact ⟨rfl, Below.refl _ _⟩
  · have hm : n ≤ maxLen := by unfold maxLen; omega
    go_enter Try.func3, Try.ntmps3
    go_wp2_with fail
    refine (toByteS_any a n cap bs _ H0.out (by omega)).mono ?_
    rintro e w1 ⟨a1, rfl, ho1, hb1⟩
    have hn1 : a1 = none → n = 0 := ho1.nil
    go_wp2_with fail
    refine (specEntryHash_any a1 n n bs _ ho1.toRow (by omega) hn1).mono ?_
    rintro e w2 ⟨rfl, hb2⟩
    have B2 := keepT hb1 hb2
    clear hb1 hb2 ho1 hn1
    go_wp2_with fail
    refine (toByteS_any a n cap bs _ (H0.out.kept B2) (by omega)).mono ?_
    rintro e w3 ⟨a3, rfl, ho3, hb3⟩
    have B3 := keepT B2 hb3
    have hn1 : a3 = none → n = 0 := ho3.nil
    have HO3 : Hid (Row w3 a3 n bs) := ho3.toRow
    clear hb3 ho3
    go_wp2_with fail
    refine (implEntryHash_any a3 n n bs _ HO3.out (by omega) hn1).mono ?_
    rintro e w4 ⟨rfl, hb4⟩
    have B4 := keepT B3 hb4
    have HO4 : Hid (Row w4 a3 n bs) := HO3.out.kept hb4
    have t1 : (entN bs != entN bs) = false := by simp
    clear hn1
    go_wp2_with fail
    refine (toByteS_any a n cap bs _ (H0.out.kept B4) (by omega)).mono ?_
    rintro e w5 ⟨a5, rfl, ho5, hb5⟩
    go_wp2_with fail
    refine (eqByteS_any a3 a5 n n n n bs bs _ (HO4.out.kept hb5) ho5.toRow hm hm).mono ?_
    rintro e w6 ⟨rfl, hb6⟩
    rw [decide_eq_true (rfl : bs = bs)]
    go_wp2_with fail
    go_ret
    exact ⟨rfl, keepT B4 (keepT hb5 hb6)⟩

end Go.Proofs.Ytifdcfchliaipaa
