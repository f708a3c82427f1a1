import Derived.Test.YtjdfbebdcpjpiaaDoorDT1
namespace Go.Proofs.YtjdfbebdcpjpiaaDoor
open Go.RowKit

theorem convert_new (w : World) (x : Int) : (convert 22 9 (.slice (some ⟨w.heap.size, 0, none⟩) 1 1)).run Tryd.prog (w.alloc (.cells #[.int .u8 x] 5)) = .ok (.string (strOfNums [x])) (w.alloc (.cells #[.int .u8 x] 5)) := by
  refine run_convert_bytes_arg _ 22 5 Tryd.underlying22 Tryd.underlying5 w.heap.size 0 1 1 [x] rfl (fun i hi => ?_) 9 Tryd.underlying9
  rw [cell_of_row _ w.heap.size (0 + i) _ 5 (0, 0) (heap_alloc_new w _)]
  have e : i = 0 := by omega
  subst e
  rfl

/-- The digits that are told when u is left: what stands behind them is O. -/
def decI (n u : Nat) (O : ByteArray) : Prop := (u = 0 ∧ O.data.toList = Lib.decDigits n) ∨ (0 < u ∧ Lib.decDigits u ++ O.data.toList = Lib.decDigits n)
theorem decI_start {n : Nat} (h : 0 < n) : decI n n ByteArray.empty := .inr ⟨h, by simp⟩
theorem app_data (a b : ByteArray) : (a ++ b).data.toList = a.data.toList ++ b.data.toList := by simp
theorem strOne (x : Int) : (strOfNums [x]).data.toList = [UInt8.ofNat x.toNat] := by
  rw [strOfNums_data]
  rfl
theorem decI_next {n u : Nat} {O : ByteArray} (h : decI n u O) (hu : 0 < u) : decI n (u / 10) (strOfNums [((48 + u % 10 : Nat) : Int)] ++ O) := by
  rcases h with ⟨h1, _⟩ | ⟨_, h2⟩
  · omega
  · have e : (strOfNums [((48 + u % 10 : Nat) : Int)] ++ O).data.toList = UInt8.ofNat (48 + u % 10) :: O.data.toList := by
      rw [app_data, strOne _]
      rfl
    by_cases h10 : u < 10
    · refine .inl ⟨by omega, ?_⟩
      rw [e, ← h2, Lib.decDigits_one h10, Nat.mod_eq_of_lt h10]
      rfl
    · refine .inr ⟨by omega, ?_⟩
      rw [e, ← h2]
      conv => rhs; rw [Lib.decDigits, dif_neg h10]
      simp
theorem decI_done {n : Nat} {O : ByteArray} (h : decI n 0 O) : O = ⟨(Lib.decDigits n).toArray⟩ := by
  rcases h with ⟨_, h2⟩ | ⟨h1, _⟩
  · rw [← h2, Lib.mk_data]
  · omega

theorem decI_size {n u : Nat} {O : ByteArray} (h : decI n u O) (hn : n < 10 ^ 9) : O.size ≤ 9 := by
  have hl := (dec_len (k := 9) (by decide) hn).2
  rw [Lib.size_eq]
  rcases h with ⟨_, h2⟩ | ⟨_, h2⟩
  · rw [h2]; exact hl
  · rw [← h2, List.length_append] at hl; omega
theorem strOne_size (x : Int) : (strOfNums [x]).size = 1 := by rw [Lib.size_eq, strOne]; rfl

set_option maxRecDepth 10000 in
set_option maxHeartbeats 2000000 in
theorem l5Int_any (n : Nat) (w : World) (hn : n ≤ 100000000) : Calls Tryd.prog 62 #[.int .i64 n] w fun e w' => e = .returned (.string ⟨(Lib.decDigits n).toArray⟩) ∧ Below w.heap.size w w' := by
  obtain ⟨r, hr⟩ : ∃ r : ByteArray, r = ⟨(Lib.decDigits n).toArray⟩ := ⟨_, rfl⟩
  rw [← hr]
  have HR : Hid (r = ⟨(Lib.decDigits n).toArray⟩) := hr
  clear hr
  rcases Nat.eq_zero_or_pos n with h0 | h0
  · subst h0
    have HE : Hid (r = ⟨#[48]⟩) := by
      show r = _
      rw [HR.out, Lib.decDigits_one (by decide)]
      rfl
    go_enter Tryd.func62, Tryd.ntmps62
    go_wp2
    go_ret
    exact ⟨by rw [HE.out]; rfl, Below.refl _ _⟩
  · have z : ((n : Int) == 0) = false := beq_false_of_ne (by omega)
    go_enter Tryd.func62, Tryd.ntmps62
    go_wp2
    go_loopw [3, 4] (fun o u wr => ∃ (k : Nat) (O : ByteArray), k ≤ n ∧ u = .int .u64 k ∧ o = .string O ∧ Hid (decI n k O) ∧ Below w.heap.size w wr) (fun _ u _ => (intOf u).toNat)
    case atStart => exact ⟨n, ByteArray.empty, Nat.le_refl _, rfl, rfl, decI_start h0, Below.refl _ _⟩
    case round =>
      obtain ⟨k, O, hk, rfl, rfl, HI, hbr⟩ := hrel
      have hws := hbr.size
      rcases Nat.eq_zero_or_pos k with hk0 | hk0
      · subst hk0
        have HE : Hid (O = r) := by show O = r; rw [HR.out]; exact decI_done HI.out
        clear HI HR
        go_wp2
        go_ret
        exact ⟨by rw [HE.out]; rfl, hbr⟩
      · have HN : Hid (decI n (k / 10) (strOfNums [((48 + k % 10 : Nat) : Int)] ++ O)) := decI_next HI.out hk0
        have hxx : ((48 + k % 10 : Nat) : Int) = 48 + (k : Int) % 10 := by omega
        rw [hxx] at HN
        have hso : ¬ (9223372036854775807 < (strOfNums [48 + (k : Int) % 10]).size + O.size) := by have := decI_size HI.out (by omega); rw [strOne_size]; omega
        have cv := convert_new wr (48 + (k : Int) % 10)
        have hb2 : Below w.heap.size w (wr.alloc (.cells #[.int .u8 (48 + (k : Int) % 10)] 5)) := hbr.alloc hws _
        have hr1 : 0 ≤ (k : Int) % 10 ∧ (k : Int) % 10 ≤ 9 := by omega
        clear hxx
        clear HI
        go_wp2
        go_roundw
        case rel => exact ⟨k / 10, _, by omega, by go_num, rfl, HN, hb2⟩
        case measure => simp [intOf]; omega

def padR (n : Nat) (k : Nat) (s : ByteArray) : Prop := ∃ j, j ≤ k - (Lib.decDigits n).length ∧ s.data.toList = List.replicate j 48 ++ Lib.decDigits n
theorem padR_size {n k : Nat} {s : ByteArray} (h : padR n k s) (hl : (Lib.decDigits n).length ≤ k) : (Lib.decDigits n).length ≤ s.size ∧ s.size ≤ k := by
  obtain ⟨j, h1, h2⟩ := h
  rw [Lib.size_eq, h2, List.length_append, List.length_replicate]
  omega
theorem padR_start (n k : Nat) : padR n k ⟨(Lib.decDigits n).toArray⟩ := ⟨0, Nat.zero_le _, by simp⟩
theorem padR_next {n k : Nat} {s : ByteArray} (h : padR n k s) (hs : s.size < k) : padR n k (⟨#[48]⟩ ++ s) := by
  obtain ⟨j, h1, h2⟩ := h
  have e : s.size = j + (Lib.decDigits n).length := by rw [Lib.size_eq, h2, List.length_append, List.length_replicate]
  refine ⟨j + 1, by omega, ?_⟩
  rw [app_data, h2, List.replicate_succ]
  rfl
theorem padR_done {n k : Nat} {s : ByteArray} (h : padR n k s) (hs : ¬ s.size < k) (hl : (Lib.decDigits n).length ≤ k) : s = ⟨(padL n k).toArray⟩ := by
  obtain ⟨j, h1, h2⟩ := h
  have e : s.size = j + (Lib.decDigits n).length := by rw [Lib.size_eq, h2, List.length_append, List.length_replicate]
  have hj : j = k - (Lib.decDigits n).length := by omega
  subst hj
  have e2 := Lib.mk_data s
  rw [h2] at e2
  exact e2.symm

set_option maxRecDepth 10000 in
set_option maxHeartbeats 2000000 in
theorem l6Pad_any (n : Nat) (k : Nat) (w : World) (hn : n < 10000) (hk : k ≤ 4) (hl : (Lib.decDigits n).length ≤ k) :
    Calls Tryd.prog 51 #[.int .i64 n, .int .i64 k] w fun e w' => e = .returned (.string (pad n k)) ∧ Below w.heap.size w w' := by
  obtain ⟨r, hr⟩ : ∃ r : ByteArray, r = pad n k := ⟨_, rfl⟩
  rw [← hr]
  have HR : Hid (r = pad n k) := hr
  have HLE : Hid ((Lib.decDigits n).length ≤ k) := hl
  clear hr hl
  go_enter Tryd.func51, Tryd.ntmps51
  go_wp2_with fail
  refine (l5Int_any n _ (by omega)).mono ?_
  rintro e w1 ⟨rfl, hb1⟩
  obtain ⟨s0, hs0⟩ : ∃ s0 : ByteArray, s0 = ⟨(Lib.decDigits n).toArray⟩ := ⟨_, rfl⟩
  rw [← hs0]
  have HS : Hid (padR n k s0) := by show padR n k s0; rw [hs0]; exact padR_start n k
  clear hs0
  go_wp2
  go_loopw [5] (fun o wr => ∃ (s : ByteArray), o = .string s ∧ s.size ≤ k ∧ Hid (padR n k s) ∧ w1 = wr) (fun o _ => k - (match o with | .string s => s.size | _ => 0))
  case atStart => exact ⟨s0, rfl, (padR_size HS.out HLE.out).2, HS, rfl⟩
  case round =>
    obtain ⟨s, rfl, hsk, HI, rfl⟩ := hrel
    by_cases hlt : s.size < k
    · have HN : Hid (padR n k (⟨#[48]⟩ ++ s)) := padR_next HI.out hlt
      have hso : ¬ (9223372036854775807 < 1 + s.size) := by omega
      have hz : (⟨#[48]⟩ ++ s : ByteArray).size = 1 + s.size := by rw [ByteArray.size_append]; rfl
      clear HI
      go_wp2
      go_roundw
      case rel => exact ⟨_, rfl, by omega, HN, by trivial⟩
      case measure => show k - (⟨#[48]⟩ ++ s : ByteArray).size < k - s.size; rw [hz]; omega
    · have HE : Hid (s = r) := by
        show s = r
        rw [HR.out]
        exact padR_done HI.out hlt HLE.out
      clear HI HR
      go_wp2
      go_ret
      exact ⟨by rw [HE.out]; rfl, hb1⟩

end Go.Proofs.YtjdfbebdcpjpiaaDoor
