import Derived.Test.YtpnaopmpiobemaaTT3
namespace Go.Proofs.Ytpnaopmpiobemaa
open Go.RowKit

def plW : List Int := [112, 108, 97, 99, 101]
theorem plW_byte : ∀ k, 0 ≤ plW.getD k 0 ∧ plW.getD k 0 ≤ 255 := bytes_of_all (by decide)
def plH (i k x : Int) : Int := hashL (partsL [plW, putI i, putI k, eightI x])
def plP (i k x m : Int) : Int := plH i k x % m
theorem plP_bd (i k x m : Int) (h : 0 < m) : 0 ≤ plP i k x m ∧ plP i k x m < m := ⟨Int.emod_nonneg _ (by omega), Int.emod_lt_of_pos _ h⟩
theorem pl_total (i k x : Int) (hl : i ≤ 9223372036854775807) (hd : k ≤ 9223372036854775807) : total [plW, putI i, putI k, eightI x] ≤ 2097152 := by
  have h1 := putI_len i hl
  have h2 := putI_len k hd
  simp [total, plW, eightI_len]
  omega

set_option maxRecDepth 10000 in
set_option maxHeartbeats 1000000 in
theorem l11Place_any (i k x m : Int) (w : World) (hx : 0 ≤ x ∧ x ≤ 18446744073709551615) (hl : i ≤ 9223372036854775807) (hd : k ≤ 9223372036854775807) (hm0 : 0 < m) (hm1 : m ≤ 9223372036854775807) :
    Calls Try.prog 28 #[.int .i64 i, .int .i64 k, .int .u64 x, .int .i64 m] w fun e w' => e = .returned (.int .i64 (plP i k x m)) ∧ Below w.heap.size w w' := by
  have HT : Hid (_ ≤ _) := pl_total i k x hl hd
  have hcv := Lib.run_convert_bytes_const (P := Try.prog) w 41 5 #[.int .u8 112, .int .u8 108, .int .u8 97, .int .u8 99, .int .u8 101] 5 5 Try.underlying41 Try.underlying5
  have hrw : Row (w.alloc (.cells #[.int .u8 112, .int .u8 108, .int .u8 97, .int .u8 99, .int .u8 101] 5 (5, 6))) (some ⟨w.heap.size, 0, none⟩) 5 plW := row_word w plW (5, 6) plW_byte
  have hb0 : Below w.heap.size w (w.alloc (.cells #[.int .u8 112, .int .u8 108, .int .u8 97, .int .u8 99, .int .u8 101] 5 (5, 6))) := (Below.refl _ _).alloc (Nat.le_refl _) _
  go_enter Try.func28, Try.ntmps28
  go_wp2_with fail
  clear hcv
  obtain ⟨w0, hw0⟩ : ∃ w0, w0 = w.alloc (.cells #[.int .u8 112, .int .u8 108, .int .u8 97, .int .u8 99, .int .u8 101] 5 (5, 6)) := ⟨_, rfl⟩
  rw [← hw0] at hrw hb0 ⊢
  clear hw0
  refine (specPutNum_any i _ hl).mono ?_
  rintro e w1 ⟨a1, c1, rfl, ho1, hb1⟩
  obtain ⟨n1, hn1⟩ : ∃ n1, n1 = (putI i).length := ⟨_, rfl⟩
  rw [← hn1] at ho1 ⊢
  clear hn1
  go_wp2_with fail
  refine (specPutNum_any k _ hd).mono ?_
  rintro e w2 ⟨a2, c2, rfl, ho2, hb2⟩
  obtain ⟨n2, hn2⟩ : ∃ n2, n2 = (putI k).length := ⟨_, rfl⟩
  rw [← hn2] at ho2 ⊢
  clear hn2
  go_wp2_with fail
  refine (l1Eight_any x _ hx.1 hx.2).mono ?_
  rintro e w3 ⟨a3, c3, rfl, ho3, hb3⟩
  have D3 : Below w1.heap.size w1 w3 := keepT hb2 hb3
  have B3 : Below w0.heap.size w0 w3 := keepT hb1 D3
  have B3' : Below w.heap.size w w3 := keepT hb0 B3
  have HRS : Hid (Rows2 (w3.alloc (.cells #[.slice (some ⟨w.heap.size, 0, none⟩) 5 5, .slice a1 n1 c1, .slice a2 n2 c2, .slice a3 8 c3] 41)) (some ⟨w3.heap.size, 0, none⟩) 4 [plW, putI i, putI k, eightI x]) := by
    refine rows2_lit w3 [(some ⟨w.heap.size, 0, none⟩, 5, 5, plW), (a1, n1, c1, putI i), (a2, n2, c2, putI k), (a3, 8, c3, eightI x)] 41 ?_
    intro p hp
    simp only [List.mem_cons, List.not_mem_nil, or_false] at hp
    rcases hp with rfl | rfl | rfl | rfl
    · exact ⟨hrw.kept B3, fun h => by cases h⟩
    · exact ⟨(ho1.kept D3).toRow, ho1.nil⟩
    · exact ⟨(ho2.kept hb3).toRow, ho2.nil⟩
    · exact ⟨ho3.toRow, ho3.nil⟩
  have B4 : Below w.heap.size w (w3.alloc (.cells #[.slice (some ⟨w.heap.size, 0, none⟩) 5 5, .slice a1 n1 c1, .slice a2 n2 c2, .slice a3 8 c3] 41)) := B3'.alloc B3'.size _
  clear ho1 ho2 ho3 hrw
  go_wp2_with fail
  refine (specHashAll_any _ 4 4 [plW, putI i, putI k, eightI x] _ HRS.out (by decide) HT.out).mono ?_
  rintro e w4 ⟨rfl, hb4⟩
  obtain ⟨hh, hhe⟩ : ∃ hh, hh = hashL (partsL [plW, putI i, putI k, eightI x]) := ⟨_, rfl⟩
  have hbd := hashL_bd (partsL [plW, putI i, putI k, eightI x])
  have HE : Hid (plP i k x m = hh % m) := by show _ = _; rw [hhe]; rfl
  rw [← hhe] at hbd ⊢
  clear hhe
  obtain ⟨hh0, hh1⟩ := hbd
  have hr0 : 0 ≤ hh % m := Int.emod_nonneg _ (by omega)
  have hr1 : hh % m < m := Int.emod_lt_of_pos _ hm0
  go_wp2
  go_ret
  exact ⟨by rw [HE.out]; rfl, keepT B4 hb4⟩

end Go.Proofs.Ytpnaopmpiobemaa
