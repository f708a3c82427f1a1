import Derived.Test.YtfklnjnnmcaomaaEM1
namespace Go.Proofs.Ytfklnjnnmcaomaa
open Go.RowKit

def tkX : List Int := [116, 111, 107, 101, 110]
theorem tkX_byte : ∀ k, 0 ≤ tkX.getD k 0 ∧ tkX.getD k 0 ≤ 255 := bytes_of_all (by decide)
/-- The token of an order. -/
def tokR (p o : Int) : Int := if p < 0 ∨ o < 0 then 0 else triN tkX (putI p) (putI o)

set_option maxHeartbeats 1000000 in
theorem implTokenOf_any (p o : Int) (w : World) (hp : p ≤ 9223372036854775807) (ho : o ≤ 9223372036854775807) :
    Calls Try.prog 5 #[.int .i64 p, .int .i64 o] w fun e w' => e = .returned (.int .u64 (tokR p o)) ∧ Below w.heap.size w w' := by
  by_cases h1 : p < 0
  · have HV : Hid (tokR p o = 0) := by show _ = _; unfold tokR; rw [if_pos (.inl h1)]
    go_enter Try.func5, Try.ntmps5
    go_wp2
    go_ret
    exact ⟨by rw [HV.out]; rfl, Below.refl _ _⟩
  by_cases h2 : o < 0
  · have HV : Hid (tokR p o = 0) := by show _ = _; unfold tokR; rw [if_pos (.inr h2)]
    go_enter Try.func5, Try.ntmps5
    go_wp2
    go_ret
    exact ⟨by rw [HV.out]; rfl, Below.refl _ _⟩
  have HV : Hid (tokR p o = triN tkX (putI p) (putI o)) := by show _ = _; unfold tokR; rw [if_neg (by omega)]
  have HT : Hid (total [tkX, putI p, putI o] ≤ 2097152) := by
    show _ ≤ _
    have h1 := putI_len p hp
    have h2 := putI_len o ho
    refine tri_total _ _ _ ?_
    simp only [tkX, List.length_cons, List.length_nil]; omega
  have hcv := Lib.run_convert_bytes_const (P := Try.prog) w 26 5 #[.int .u8 116, .int .u8 111, .int .u8 107, .int .u8 101, .int .u8 110] 5 5 Try.underlying26 Try.underlying5
  have hrw : Row (w.alloc (.cells #[.int .u8 116, .int .u8 111, .int .u8 107, .int .u8 101, .int .u8 110] 5 (5, 6))) (some ⟨w.heap.size, 0, none⟩) 5 tkX := row_word w tkX (5, 6) tkX_byte
  have hb0 : Below w.heap.size w (w.alloc (.cells #[.int .u8 116, .int .u8 111, .int .u8 107, .int .u8 101, .int .u8 110] 5 (5, 6))) := (Below.refl _ _).alloc (Nat.le_refl _) _
  go_enter Try.func5, Try.ntmps5
  go_wp2_with fail
  clear hcv
  obtain ⟨w0, hw0⟩ : ∃ w0, w0 = w.alloc (.cells #[.int .u8 116, .int .u8 111, .int .u8 107, .int .u8 101, .int .u8 110] 5 (5, 6)) := ⟨_, rfl⟩
  rw [← hw0] at hrw hb0 ⊢
  clear hw0
  refine (implPutNum_any p _ hp).mono ?_
  rintro e w1 ⟨a1, c1, rfl, ho1, hb1⟩
  obtain ⟨m1, hm1⟩ : ∃ m1, m1 = (putI p).length := ⟨_, rfl⟩
  rw [← hm1] at ho1 ⊢
  clear hm1
  go_wp2_with fail
  refine (implPutNum_any o _ ho).mono ?_
  rintro e w2 ⟨a2, c2, rfl, ho2, hb2⟩
  obtain ⟨m2, hm2⟩ : ∃ m2, m2 = (putI o).length := ⟨_, rfl⟩
  rw [← hm2] at ho2 ⊢
  clear hm2
  have B2 : Below w.heap.size w w2 := keepT (keepT hb0 hb1) hb2
  have HRS : Hid (Rows2 (w2.alloc (.cells #[.slice (some ⟨w.heap.size, 0, none⟩) 5 5, .slice a1 m1 c1, .slice a2 m2 c2] 26)) (some ⟨w2.heap.size, 0, none⟩) 3 [tkX, putI p, putI o]) :=
    tri_rows w2 26 _ _ _ _ _ _ _ _ _ _ _ _ ((hrw.kept hb1).kept hb2) (fun h => by cases h) (ho1.toRow.kept hb2) ho1.nil ho2.toRow ho2.nil
  have B3 : Below w.heap.size w (w2.alloc (.cells #[.slice (some ⟨w.heap.size, 0, none⟩) 5 5, .slice a1 m1 c1, .slice a2 m2 c2] 26)) := B2.alloc B2.size _
  clear ho1 ho2 hrw
  go_wp2_with fail
  refine (implHashParts_any _ 3 3 [tkX, putI p, putI o] _ HRS.out (by decide) HT.out).mono ?_
  rintro e w3 ⟨rfl, hb3⟩
  go_wp2
  go_ret
  exact ⟨by rw [HV.out]; rfl, keepT B3 hb3⟩

set_option maxHeartbeats 1000000 in
theorem specTokenOf_any (p o : Int) (w : World) (hp : p ≤ 9223372036854775807) (ho : o ≤ 9223372036854775807) :
    Calls Try.prog 4 #[.int .i64 p, .int .i64 o] w fun e w' => e = .returned (.int .u64 (tokR p o)) ∧ Below w.heap.size w w' := by
  by_cases h1 : p < 0
  · have HV : Hid (tokR p o = 0) := by show _ = _; unfold tokR; rw [if_pos (.inl h1)]
    go_enter Try.func4, Try.ntmps4
    go_wp2
    go_ret
    exact ⟨by rw [HV.out]; rfl, Below.refl _ _⟩
  by_cases h2 : o < 0
  · have HV : Hid (tokR p o = 0) := by show _ = _; unfold tokR; rw [if_pos (.inr h2)]
    go_enter Try.func4, Try.ntmps4
    go_wp2
    go_ret
    exact ⟨by rw [HV.out]; rfl, Below.refl _ _⟩
  have HV : Hid (tokR p o = triN tkX (putI p) (putI o)) := by show _ = _; unfold tokR; rw [if_neg (by omega)]
  have HT : Hid (total [tkX, putI p, putI o] ≤ 2097152) := by
    show _ ≤ _
    have h1 := putI_len p hp
    have h2 := putI_len o ho
    refine tri_total _ _ _ ?_
    simp only [tkX, List.length_cons, List.length_nil]; omega
  have hcv := Lib.run_convert_bytes_const (P := Try.prog) w 26 5 #[.int .u8 116, .int .u8 111, .int .u8 107, .int .u8 101, .int .u8 110] 5 5 Try.underlying26 Try.underlying5
  have hrw : Row (w.alloc (.cells #[.int .u8 116, .int .u8 111, .int .u8 107, .int .u8 101, .int .u8 110] 5 (5, 6))) (some ⟨w.heap.size, 0, none⟩) 5 tkX := row_word w tkX (5, 6) tkX_byte
  have hb0 : Below w.heap.size w (w.alloc (.cells #[.int .u8 116, .int .u8 111, .int .u8 107, .int .u8 101, .int .u8 110] 5 (5, 6))) := (Below.refl _ _).alloc (Nat.le_refl _) _
  go_enter Try.func4, Try.ntmps4
  go_wp2_with fail
  clear hcv
  obtain ⟨w0, hw0⟩ : ∃ w0, w0 = w.alloc (.cells #[.int .u8 116, .int .u8 111, .int .u8 107, .int .u8 101, .int .u8 110] 5 (5, 6)) := ⟨_, rfl⟩
  rw [← hw0] at hrw hb0 ⊢
  clear hw0
  refine (specPutNum_any p _ hp).mono ?_
  rintro e w1 ⟨a1, c1, rfl, ho1, hb1⟩
  obtain ⟨m1, hm1⟩ : ∃ m1, m1 = (putI p).length := ⟨_, rfl⟩
  rw [← hm1] at ho1 ⊢
  clear hm1
  go_wp2_with fail
  refine (specPutNum_any o _ ho).mono ?_
  rintro e w2 ⟨a2, c2, rfl, ho2, hb2⟩
  obtain ⟨m2, hm2⟩ : ∃ m2, m2 = (putI o).length := ⟨_, rfl⟩
  rw [← hm2] at ho2 ⊢
  clear hm2
  have B2 : Below w.heap.size w w2 := keepT (keepT hb0 hb1) hb2
  have HRS : Hid (Rows2 (w2.alloc (.cells #[.slice (some ⟨w.heap.size, 0, none⟩) 5 5, .slice a1 m1 c1, .slice a2 m2 c2] 26)) (some ⟨w2.heap.size, 0, none⟩) 3 [tkX, putI p, putI o]) :=
    tri_rows w2 26 _ _ _ _ _ _ _ _ _ _ _ _ ((hrw.kept hb1).kept hb2) (fun h => by cases h) (ho1.toRow.kept hb2) ho1.nil ho2.toRow ho2.nil
  have B3 : Below w.heap.size w (w2.alloc (.cells #[.slice (some ⟨w.heap.size, 0, none⟩) 5 5, .slice a1 m1 c1, .slice a2 m2 c2] 26)) := B2.alloc B2.size _
  clear ho1 ho2 hrw
  go_wp2_with fail
  refine (specHashAll_any _ 3 3 [tkX, putI p, putI o] _ HRS.out (by decide) HT.out).mono ?_
  rintro e w3 ⟨rfl, hb3⟩
  go_wp2
  go_ret
  exact ⟨by rw [HV.out]; rfl, keepT B3 hb3⟩

set_option maxHeartbeats 1000000 in
theorem lawTokenOf_walk (p o : Int) (w : World) (h1 : p ≤ 9223372036854775807) (h2 : o ≤ 9223372036854775807) :
    Calls Try.prog 3 #[.int .i64 p, .int .i64 o] w fun e w' => e = .returned (.bool true) ∧ Below w.heap.size w w' := by
  go_enter Try.func3, Try.ntmps3
  go_wp2_with fail
  refine (specTokenOf_any p o _ h1 h2).mono ?_
  rintro e w1 ⟨rfl, hb1⟩
  go_wp2_with fail
  refine (implTokenOf_any p o _ h1 h2).mono ?_
  rintro e w2 ⟨rfl, hb2⟩
  have t1 : (tokR p o != tokR p o) = false := by simp
  go_wp2_with fail
  go_ret
  exact ⟨rfl, keepT hb1 hb2⟩

end Go.Proofs.Ytfklnjnnmcaomaa
