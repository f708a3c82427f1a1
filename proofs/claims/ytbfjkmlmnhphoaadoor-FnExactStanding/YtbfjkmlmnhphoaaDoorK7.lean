import Derived.Test.YtbfjkmlmnhphoaaDoorK6
import Derived.Test.YtbfjkmlmnhphoaaDoorN9
namespace Go.Proofs.YtbfjkmlmnhphoaaDoor
open Go.RowKit

/-- A name that is right and not empty. -/
def calledP (xs : List PT) : Prop := nameP xs ∧ xs ≠ []
def timeP (t : Int) : Prop := 0 ≤ t ∧ t ≤ 253402300799
def likeP (x y : GP) : Prop := x.ser = y.ser ∧ sameP x.parts y.parts

set_option maxRecDepth 10000 in
set_option maxHeartbeats 1000000 in
theorem l10Time_any (t : Int) (w : World) : Calls Tryd.prog 31 #[.int .i64 t] w fun e w' => e = .returned (.bool (decide (0 ≤ t ∧ t ≤ 253402300799))) ∧ w = w' := by
  go_enter Tryd.func31, Tryd.ntmps31
  go_wp2_with fail
  refine (l1In_any t 0 253402300799 _).mono ?_
  rintro e w1 ⟨rfl, rfl⟩
  obtain ⟨v, hv⟩ : ∃ v, decide (0 ≤ t ∧ t ≤ 253402300799) = v := ⟨_, rfl⟩
  rw [hv]
  have HV : Hid (decide (0 ≤ t ∧ t ≤ 253402300799) = v) := hv
  clear hv
  go_wp2
  go_ret
  exact ⟨by rw [HV.out]; rfl, rfl⟩

set_option maxRecDepth 10000 in
set_option maxHeartbeats 1000000 in
theorem l10Called_any (a : Option Addr) (n c : Nat) (xs : List PT) (w : World) (h : Pts w a n xs) (hz : ∀ k, k < n → (xs.getD k default).val.size ≤ 1048576) :
    Calls Tryd.prog 29 #[nmv a n c] w (Says (calledP xs) w) := by
  have HL : Hid (xs.length = n) := h.len
  have hn := h.max
  obtain ⟨w0, hw0⟩ : ∃ w0, w0 = w.alloc (.cells #[.slice a n c] 33) := ⟨_, rfl⟩
  have hb0 : Below w.heap.size w w0 := by rw [hw0]; exact (Below.refl _ _).alloc (Nat.le_refl _) _
  have hh0 : w0.heap[w.heap.size]? = some (.cells #[.slice a n c] 33) := by rw [hw0]; exact heap_alloc_new w _
  have hl0 : w.heap.size < w0.heap.size := (Array.getElem?_eq_some_iff.1 hh0).1
  have HK : Hid (Pts w0 a n xs) := h.kept hb0
  have HZ : Hid (_) := hz
  clear h hz
  unfold nmv
  go_enter Tryd.func29, Tryd.ntmps29
  go_wp2_with fail
  rw [← hw0]
  clear hw0
  refine (specNameOk_any a n c xs _ HK.out HZ.out).mono ?_
  rintro e w1 ⟨b, rfl, hb, hb1⟩
  have hc : w1.cell? ⟨w.heap.size, 0, none⟩ = some (.slice a n c) := (cell_of_row _ _ 0 _ 33 (0, 0) ((hb1.block _ hl0).trans hh0)).trans rfl
  have HB : Hid (Below w.heap.size w w1) := hb0.trans (hb1.mono hb0.size)
  clear hb0 hb1 hh0
  rcases b with _ | _
  · have HN : Hid (¬ calledP xs) := fun q => by have := hb.out.2 q.1; simp at this
    clear hb
    go_wp2
    go_ret
    exact says_f HN.out HB.out
  · have HN : Hid (nameP xs) := hb.out.1 rfl
    clear hb
    by_cases h0 : n = 0
    · subst h0
      have HE : Hid (¬ calledP xs) := fun q => q.2 (List.eq_nil_of_length_eq_zero HL.out)
      go_wp2
      go_ret
      exact says_f HE.out HB.out
    · have hp : (0 : Int) < (n : Int) := by omega
      have HE : Hid (calledP xs) := ⟨HN.out, fun e => h0 (by rw [← HL.out, e]; rfl)⟩
      go_wp2
      go_ret
      exact ⟨decide (0 < n), rfl, ⟨fun _ => HE.out, fun _ => decide_eq_true (by omega)⟩, HB.out⟩

set_option maxRecDepth 10000 in
set_option maxHeartbeats 2000000 in
theorem l10Like_any (a : Option Addr) (n c : Nat) (x : GP) (b : Option Addr) (m d : Nat) (y : GP) (w : World) (h : Pts w a n x.parts) (h2 : Pts w b m y.parts) (hz : ∀ k, k < n → (x.parts.getD k default).val.size ≤ 1048576) (hz2 : ∀ k, k < m → (y.parts.getD k default).val.size ≤ 1048576) :
    Calls Tryd.prog 32 #[gov a n c x, gov b m d y] w (Says (likeP x y) w) := by
  obtain ⟨W0, hW0⟩ : ∃ W0, W0 = ((w.alloc (.cells #[.slice a n c, .int .i64 x.ser, .int .i64 x.tm, .int .i64 x.rs] 63)).alloc (.cells #[.slice b m d, .int .i64 y.ser, .int .i64 y.tm, .int .i64 y.rs] 63)) := ⟨_, rfl⟩
  have hbl : Below w.heap.size w W0 := by rw [hW0]; exact ((Below.refl _ _).alloc (Nat.le_refl _) _).alloc (by simp) _
  have H1 : Hid (Pts W0 a n x.parts) := h.kept hbl
  have H2 : Hid (Pts W0 b m y.parts) := h2.kept hbl
  have HZ : Hid (_) := hz
  have HZ2 : Hid (_) := hz2
  have HB : Hid (Below w.heap.size w W0) := hbl
  clear h h2 hz hz2 hbl
  unfold gov
  by_cases he : x.ser = y.ser
  · have hd : (x.ser == y.ser) = true := by simp [he]
    have HE : Hid (x.ser = y.ser) := he
    clear he
    go_enter Tryd.func32, Tryd.ntmps32
    go_wp2_with fail
    rw [← hW0]
    refine (specSameName_any a n c x.parts b m d y.parts _ H1.out H2.out HZ.out HZ2.out).mono ?_
    rintro e w1 ⟨v, rfl, hv, hb1⟩
    have HF : Hid (Below w.heap.size w w1) := HB.out.trans (hb1.mono HB.out.size)
    have HV : Hid (_) := hv
    clear hW0 hb1 hv
    go_wp2
    go_ret
    exact ⟨v, rfl, ⟨fun q => ⟨HE.out, HV.out.1 q⟩, fun q => HV.out.2 q.2⟩, HF.out⟩
  · have hd : (x.ser == y.ser) = false := by simp [he]
    have HE : Hid (¬ x.ser = y.ser) := he
    clear he
    go_enter Tryd.func32, Tryd.ntmps32
    go_wp2_with fail
    rw [← hW0]
    clear hW0
    go_ret
    exact says_f (fun q => HE.out q.1) HB.out

end Go.Proofs.YtbfjkmlmnhphoaaDoor
