import Derived.Test.YthncodopdcmfiaaQL4
namespace Go.Proofs.Ythncodopdcmfiaa
open Go.RowKit Go.Sort

def lrR (zs : List Int) : Int × Bool := if zs.length ≤ 200 then (rootL zs, true) else (0, false)

set_option maxRecDepth 10000 in
set_option maxHeartbeats 1000000 in
theorem specLogRoot_any (a : Option Addr) (n c : Nat) (zs : List Int) (w : World) (h : RowU w a n zs) (hc : n ≤ c) (hcm : c ≤ 9223372036854775807) :
    Calls Try.prog 9 #[.slice a n c] w fun e w' => e = .returned (.tuple #[.int .u64 (lrR zs).1, .bool (lrR zs).2]) ∧ Below w.heap.size w w' := by
  have H0 : Hid (RowU w a n zs) := h
  have HL : Hid (zs.length = n) := h.len
  clear h
  by_cases hb : n ≤ 200
  · have hbi : ¬ (200 : Int) < (n : Int) := by omega
    have HV : Hid (lrR zs = (rootL zs, true)) := by show _ = _; unfold lrR; rw [if_pos (by rw [HL.out]; exact hb)]
    go_enter Try.func9, Try.ntmps9
    go_wp2_with fail
    refine (l15Root_any n a n c zs _ (Nat.le_refl _) H0.out (by omega) hc hcm).mono ?_
    rintro e w1 ⟨rfl, hb1⟩
    go_wp2
    go_ret2
    exact ⟨by rw [HV.out]; rfl, hb1⟩
  · have hbi : (200 : Int) < (n : Int) := by omega
    have HV : Hid (lrR zs = (0, false)) := by show _ = _; unfold lrR; rw [if_neg (by rw [HL.out]; exact hb)]
    go_enter Try.func9, Try.ntmps9
    go_wp2
    go_ret2
    exact ⟨by rw [HV.out]; rfl, Below.refl _ _⟩

set_option maxRecDepth 10000 in
set_option maxHeartbeats 1000000 in
theorem implLogRoot_any (a : Option Addr) (n c : Nat) (zs : List Int) (w : World) (h : RowU w a n zs) :
    Calls Try.prog 8 #[.slice a n c] w fun e w' => e = .returned (.tuple #[.int .u64 (lrR zs).1, .bool (lrR zs).2]) ∧ Below w.heap.size w w' := by
  have H0 : Hid (RowU w a n zs) := h
  have HL : Hid (zs.length = n) := h.len
  clear h
  by_cases hb : n ≤ 200
  · have hbi : ¬ (200 : Int) < (n : Int) := by omega
    have HV : Hid (lrR zs = (rootL zs, true)) := by show _ = _; unfold lrR; rw [if_pos (by rw [HL.out]; exact hb)]
    go_enter Try.func8, Try.ntmps8
    go_wp2_with fail
    refine (rootOf_any a n c zs _ H0.out (by omega)).mono ?_
    rintro e w1 ⟨rfl, hb1⟩
    go_wp2
    go_ret2
    exact ⟨by rw [HV.out]; rfl, hb1⟩
  · have hbi : (200 : Int) < (n : Int) := by omega
    have HV : Hid (lrR zs = (0, false)) := by show _ = _; unfold lrR; rw [if_neg (by rw [HL.out]; exact hb)]
    go_enter Try.func8, Try.ntmps8
    go_wp2
    go_ret2
    exact ⟨by rw [HV.out]; rfl, Below.refl _ _⟩

def enW : List Int := [101, 110, 116, 114, 121]
theorem enW_byte : ∀ k, 0 ≤ enW.getD k 0 ∧ enW.getD k 0 ≤ 255 := bytes_of_all (by decide)
def entN (bs : List Int) : Int := hashL (partsL [enW, bs])
theorem ent_total (bs : List Int) (h : bs.length ≤ 1048576) : total [enW, bs] ≤ 2097152 := by unfold total; simp [enW]; omega

end Go.Proofs.Ythncodopdcmfiaa
