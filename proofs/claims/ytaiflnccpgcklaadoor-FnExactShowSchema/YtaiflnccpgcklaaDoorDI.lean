import Derived.Test.YtaiflnccpgcklaaDoorBase
import Derived.Test.YtaiflnccpgcklaaDoorProg
import Derived.Laws.BytesArg
import Derived.Lib.ItoaNum
import Derived.Lib.Strings
namespace Go.Proofs.YtaiflnccpgcklaaDoor
open Go.RowKit

theorem di_convert (w : World) (x : Int) : (convert 47 9 (.slice (some ⟨w.heap.size, 0, none⟩) 1 1)).run Tryd.prog (w.alloc (.cells #[.int .u8 x] 5)) = .ok (.string (strOfNums [x])) (w.alloc (.cells #[.int .u8 x] 5)) := by
  refine run_convert_bytes_arg _ 47 5 Tryd.underlying47 Tryd.underlying5 w.heap.size 0 1 1 [x] rfl (fun i hi => ?_) 9 Tryd.underlying9
  rw [cell_of_row _ w.heap.size (0 + i) _ 5 (0, 0) (heap_alloc_new w _)]
  have e : i = 0 := by omega
  subst e
  rfl

/-- The digits that are told when u is left: what stands behind them is O. -/
def dI (n u : Nat) (O : ByteArray) : Prop := (u = 0 ∧ O.data.toList = Lib.decDigits n) ∨ (0 < u ∧ Lib.decDigits u ++ O.data.toList = Lib.decDigits n)
theorem dI_start {n : Nat} (h : 0 < n) : dI n n ByteArray.empty := .inr ⟨h, by simp⟩
theorem ba_app (a b : ByteArray) : (a ++ b).data.toList = a.data.toList ++ b.data.toList := by simp
theorem ba_one (x : Int) : (strOfNums [x]).data.toList = [UInt8.ofNat x.toNat] := by
  rw [strOfNums_data]
  rfl
theorem dI_next {n u : Nat} {O : ByteArray} (h : dI n u O) (hu : 0 < u) : dI n (u / 10) (strOfNums [((48 + u % 10 : Nat) : Int)] ++ O) := by
  rcases h with ⟨h1, _⟩ | ⟨_, h2⟩
  · omega
  · have e : (strOfNums [((48 + u % 10 : Nat) : Int)] ++ O).data.toList = UInt8.ofNat (48 + u % 10) :: O.data.toList := by
      rw [ba_app, ba_one _]
      rfl
    by_cases h10 : u < 10
    · refine .inl ⟨by omega, ?_⟩
      rw [e, ← h2, Lib.decDigits_one h10, Nat.mod_eq_of_lt h10]
      rfl
    · refine .inr ⟨by omega, ?_⟩
      rw [e, ← h2]
      conv => rhs; rw [Lib.decDigits, dif_neg h10]
      simp
theorem dI_done {n : Nat} {O : ByteArray} (h : dI n 0 O) : O.data.toList = Lib.decDigits n := by
  rcases h with ⟨_, h2⟩ | ⟨h1, _⟩
  · exact h2
  · omega
theorem dec_le (k : Nat) (hk : 1 ≤ k) : ∀ n, n < 10 ^ k → (Lib.decDigits n).length ≤ k := by
  intro n h
  rw [Lib.decDigits_length]
  revert n
  induction k with
  | zero => omega
  | succ k ih =>
    intro n h
    by_cases h10 : n < 10
    · rw [Lib.nDigits_small h10]; omega
    · rw [Lib.nDigits_big h10]
      rcases Nat.eq_zero_or_pos k with h0 | h0
      · subst h0; omega
      · have := ih h0 (n / 10) (by rw [Nat.pow_succ] at h; omega)
        omega
theorem dI_size {n u : Nat} {O : ByteArray} (h : dI n u O) (hn : n < 10 ^ 19) : O.size ≤ 19 := by
  have hl := dec_le 19 (by decide) n hn
  rw [Lib.size_eq]
  rcases h with ⟨_, h2⟩ | ⟨_, h2⟩
  · rw [h2]; exact hl
  · rw [← h2, List.length_append] at hl; omega
theorem ba_one_size (x : Int) : (strOfNums [x]).size = 1 := by rw [Lib.size_eq, ba_one]; rfl
theorem ba_ext {a b : ByteArray} (h : a.data.toList = b.data.toList) : a = b := by
  have e := Lib.mk_data a
  rw [h, Lib.mk_data] at e
  exact e.symm
/-- A number in digits. -/
def num (n : Int) : ByteArray := ⟨(Lib.itoa n).toArray⟩
theorem num_data (n : Int) : (num n).data.toList = Lib.itoa n := by simp [num]
theorem num_size (n : Int) (h0 : -4611686018427387904 ≤ n) (h1 : n ≤ 4611686018427387904) : (num n).size ≤ 20 := by
  rw [Lib.size_eq, num_data]
  unfold Lib.itoa
  split
  · have := dec_le 19 (by decide) n.natAbs (by omega)
    simp only [List.length_cons]
    omega
  · have := dec_le 19 (by decide) n.toNat (by omega)
    omega

set_option maxRecDepth 10000 in
set_option maxHeartbeats 2000000 in
theorem l5IntZ_any (n : Int) (w : World) (h0 : -4611686018427387904 ≤ n) (h1 : n ≤ 4611686018427387904) : Calls Tryd.prog 11 #[.int .i64 n] w fun e w' => e = .returned (.string (num n)) ∧ Below w.heap.size w w' := by
  obtain ⟨r, hr⟩ : ∃ r : ByteArray, r = num n := ⟨_, rfl⟩
  rw [← hr]
  have HR : Hid (r = num n) := hr
  clear hr
  by_cases hz : n = 0
  · subst hz
    have HE : Hid (r = ⟨#[48]⟩) := by
      show r = _
      rw [HR.out]
      exact ba_ext (by rw [num_data]; unfold Lib.itoa; rw [if_neg (by decide)]; exact Lib.decDigits_one (by decide))
    go_enter Tryd.func11, Tryd.ntmps11
    go_wp2
    go_ret
    exact ⟨by rw [HE.out]; rfl, Below.refl _ _⟩
  · have z : (n == 0) = false := beq_false_of_ne hz
    obtain ⟨m, hm⟩ : ∃ m : Nat, m = n.natAbs := ⟨_, rfl⟩
    have hm0 : 0 < m := by omega
    have hm1 : m ≤ 4611686018427387904 := by omega
    by_cases hneg : n < 0
    · have HFIN : Hid (∀ O, dI m 0 O → ⟨#[45]⟩ ++ O = r) := fun O h => by
        rw [HR.out]
        refine ba_ext ?_
        rw [ba_app, dI_done h, num_data, hm]
        unfold Lib.itoa
        rw [if_pos hneg]
        rfl
      have hmn : n = -(m : Int) := by omega
      clear HR hm
      subst hmn
      go_enter Tryd.func11, Tryd.ntmps11
      go_wp2
      go_loopw [3, 4] (fun o u wr => ∃ (k : Nat) (O : ByteArray), k ≤ m ∧ u = .int .u64 k ∧ o = .string O ∧ Hid (dI m k O) ∧ Below w.heap.size w wr) (fun _ u _ => (intOf u).toNat)
      case atStart => exact ⟨m, ByteArray.empty, Nat.le_refl _, by go_num, rfl, dI_start hm0, Below.refl _ _⟩
      case round =>
        obtain ⟨k, O, hk, rfl, rfl, HI, hbr⟩ := hrel
        have hws := hbr.size
        rcases Nat.eq_zero_or_pos k with hk0 | hk0
        · subst hk0
          have HE : Hid (⟨#[45]⟩ ++ O = r) := HFIN.out O HI.out
          have hso : ¬ (9223372036854775807 < 1 + O.size) := by have := dI_size HI.out (by omega); omega
          clear HI HFIN
          go_wp2
          go_ret
          exact ⟨by rw [← HE.out]; rfl, hbr⟩
        · have HN : Hid (dI m (k / 10) (strOfNums [((48 + k % 10 : Nat) : Int)] ++ O)) := dI_next HI.out hk0
          have hxx : ((48 + k % 10 : Nat) : Int) = 48 + (k : Int) % 10 := by omega
          rw [hxx] at HN
          have hso : ¬ (9223372036854775807 < (strOfNums [48 + (k : Int) % 10]).size + O.size) := by have := dI_size HI.out (by omega); rw [ba_one_size]; omega
          have cv := di_convert wr (48 + (k : Int) % 10)
          have hb2 : Below w.heap.size w (wr.alloc (.cells #[.int .u8 (48 + (k : Int) % 10)] 5)) := hbr.alloc hws _
          have hr1 : 0 ≤ (k : Int) % 10 ∧ (k : Int) % 10 ≤ 9 := by omega
          clear hxx HI
          go_wp2
          go_roundw
          case rel => exact ⟨k / 10, _, by omega, by go_num, rfl, HN, hb2⟩
          case measure => simp [intOf]; omega
    · have HFIN : Hid (∀ O, dI m 0 O → O = r) := fun O h => by
        rw [HR.out]
        refine ba_ext ?_
        rw [dI_done h, num_data]
        unfold Lib.itoa
        rw [if_neg hneg, show n.toNat = m by omega]
      have hmn : n = (m : Int) := by omega
      clear HR hm
      subst hmn
      go_enter Tryd.func11, Tryd.ntmps11
      go_wp2
      go_loopw [3, 4] (fun o u wr => ∃ (k : Nat) (O : ByteArray), k ≤ m ∧ u = .int .u64 k ∧ o = .string O ∧ Hid (dI m k O) ∧ Below w.heap.size w wr) (fun _ u _ => (intOf u).toNat)
      case atStart => exact ⟨m, ByteArray.empty, Nat.le_refl _, by go_num, rfl, dI_start hm0, Below.refl _ _⟩
      case round =>
        obtain ⟨k, O, hk, rfl, rfl, HI, hbr⟩ := hrel
        have hws := hbr.size
        rcases Nat.eq_zero_or_pos k with hk0 | hk0
        · subst hk0
          have HE : Hid (O = r) := HFIN.out O HI.out
          clear HI HFIN
          go_wp2
          go_ret
          exact ⟨by rw [HE.out]; rfl, hbr⟩
        · have HN : Hid (dI m (k / 10) (strOfNums [((48 + k % 10 : Nat) : Int)] ++ O)) := dI_next HI.out hk0
          have hxx : ((48 + k % 10 : Nat) : Int) = 48 + (k : Int) % 10 := by omega
          rw [hxx] at HN
          have hso : ¬ (9223372036854775807 < (strOfNums [48 + (k : Int) % 10]).size + O.size) := by have := dI_size HI.out (by omega); rw [ba_one_size]; omega
          have cv := di_convert wr (48 + (k : Int) % 10)
          have hb2 : Below w.heap.size w (wr.alloc (.cells #[.int .u8 (48 + (k : Int) % 10)] 5)) := hbr.alloc hws _
          have hr1 : 0 ≤ (k : Int) % 10 ∧ (k : Int) % 10 ≤ 9 := by omega
          clear hxx HI
          go_wp2
          go_roundw
          case rel => exact ⟨k / 10, _, by omega, by go_num, rfl, HN, hb2⟩
          case measure => simp [intOf]; omega

end Go.Proofs.YtaiflnccpgcklaaDoor
