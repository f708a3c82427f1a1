import Derived.Test.YtoncodoimnideaaGreatDoorH5
namespace Go.Proofs.YtoncodoimnideaaGreatDoor
open Go.RowKit

def star : ByteArray := ⟨#[42]⟩
def isStar (L : List ByteArray) (wild : Bool) (k : Nat) : Prop := k = 0 ∧ wild = true ∧ L.getD 0 ByteArray.empty = star ∧ 2 < L.length
def hostL (L : List ByteArray) (wild : Bool) (k : Nat) : Prop := ∀ j, j < k → isStar L wild j ∨ labP (L.getD j ByteArray.empty)
def hostP (s : ByteArray) (wild : Bool) : Prop := s.size ≤ 100 ∧ (cutAt s 46).length ≤ 10 ∧ hostL (cutAt s 46) wild (cutAt s 46).length
theorem hostL_succ {L : List ByteArray} {wild : Bool} {k : Nat} (h : hostL L wild k) (h1 : isStar L wild k ∨ labP (L.getD k ByteArray.empty)) : hostL L wild (k + 1) := fun j hj => by
  by_cases e : j = k
  · rw [e]; exact h1
  · exact h j (by omega)
theorem toList_star (b : ByteArray) : (b.toList == [42]) = true ↔ b = star := by
  rw [ByteArray.toList_eq, beq_iff_eq]
  constructor
  · intro h
    have e := Lib.mk_data b
    rw [h] at e
    exact e.symm
  · intro h; rw [h]; rfl

def SaysB (P : Prop) (w : World) (e : Ending) (w' : World) : Prop := ∃ b, e = .returned (.bool b) ∧ Hid (b = true ↔ P) ∧ Below w.heap.size w w'
theorem saysB_t {P : Prop} {w w' : World} (h : P) (hb : Below w.heap.size w w') : SaysB P w (.returned (.bool true)) w' := ⟨true, rfl, ⟨fun _ => h, fun _ => rfl⟩, hb⟩
theorem saysB_f {P : Prop} {w w' : World} (h : ¬ P) (hb : Below w.heap.size w w') : SaysB P w (.returned (.bool false)) w' := ⟨false, rfl, ⟨fun e => (by cases e), fun e => absurd e h⟩, hb⟩

set_option maxRecDepth 10000 in
set_option maxHeartbeats 4000000 in
theorem specHostOk_any (s : ByteArray) (wild : Bool) (w : World) : Calls Tryz.prog 14 #[.string s, .bool wild] w (SaysB (hostP s wild) w) := by
  obtain ⟨P, hP⟩ : ∃ P, P = hostP s wild := ⟨_, rfl⟩
  rw [← hP]
  have HP : Hid (P = hostP s wild) := hP
  clear hP
  by_cases h100 : 100 < s.size
  · have HN : Hid (¬ P) := by show ¬ P; rw [HP.out]; intro h; have := h.1; omega
    go_enter Tryz.func14, Tryz.ntmps14
    go_wp2
    go_ret
    exact saysB_f HN.out (Below.refl _ _)
  go_enter Tryz.func14, Tryz.ntmps14
  go_wp2_with fail
  refine (l5Split_any s 46 _ (by omega)).mono ?_
  rintro e w1 ⟨a, n, cap, rfl, hn, HS0, hb⟩
  obtain ⟨L, hL⟩ : ∃ L, L = cutAt s 46 := ⟨_, rfl⟩
  rw [← hL] at hn HS0
  have hlen := cutAt_len s 46
  rw [← hL, ← hn] at hlen
  have HL : Hid (P ↔ L.length ≤ 10 ∧ hostL L wild L.length) := by
    show P ↔ _
    rw [HP.out, hL]
    exact ⟨fun h => h.2, fun h => ⟨by omega, h⟩⟩
  have HLEN : Hid (L.length = n) := hn.symm
  clear HP hL hn
  obtain ⟨hc1, hc2⟩ := HS0.caps
  obtain ⟨g, rfl, hg, hcell⟩ := HS0.get (by omega)
  clear HS0
  obtain ⟨hl1, hl2⟩ := hlen
  by_cases h10 : 10 < n
  · have HN : Hid (¬ P) := by show ¬ P; rw [HL.out, HLEN.out]; intro h; have := h.1; omega
    clear hcell
    go_wp2
    go_ret
    exact saysB_f HN.out hb
  have x0 : w1.cell? ⟨g, 0, none⟩ = some (.string (L.getD 0 ByteArray.empty)) := hcell 0 (by omega)
  obtain ⟨b0, hb0⟩ : ∃ b0, b0 = L.getD 0 ByteArray.empty := ⟨_, rfl⟩
  rw [← hb0] at x0
  have HB0 : Hid (b0 = L.getD 0 ByteArray.empty) := hb0
  clear hb0
  have HC : Hid (∀ k, k < n → w1.cell? ⟨g, k, none⟩ = some (.string (L.getD k ByteArray.empty))) := hcell
  clear hcell
  go_wp2
  go_loopw [6] (fun i wr => ∃ k : Nat, k ≤ n ∧ i = .int .i64 k ∧ Hid (hostL L wild k) ∧ w1 = wr) (fun i _ => n - (intOf i).toNat)
  case atStart => exact ⟨0, by omega, rfl, (fun j hj => absurd hj (Nat.not_lt_zero _)), rfl⟩
  case round =>
    obtain ⟨k, hk, rfl, HI, rfl⟩ := hrel
    by_cases hlt : k < n
    · by_cases hst : isStar L wild k
      · have HN : Hid (hostL L wild (k + 1)) := hostL_succ HI.out (.inl hst)
        obtain ⟨rfl, rfl, h3, h4⟩ := hst
        rw [HLEN.out] at h4
        have z : (b0.toList == [42]) = true := (toList_star b0).2 (HB0.out.trans h3)
        clear HI h3
        go_wp2
        go_roundw
        case rel => exact ⟨1, by omega, rfl, HN, by trivial⟩
        case measure => simp [intOf]; omega
      · have xk : w1.cell? ⟨g, k, none⟩ = some (.string (L.getD k ByteArray.empty)) := HC.out k hlt
        obtain ⟨bk, hbk⟩ : ∃ bk, bk = L.getD k ByteArray.empty := ⟨_, rfl⟩
        rw [← hbk] at xk
        have HN : Hid (labP bk → hostL L wild (k + 1)) := fun h => hostL_succ HI.out (.inr (hbk ▸ h))
        have HF : Hid (¬ labP bk → ¬ P) := fun h => by
          rw [HL.out, HLEN.out]
          rintro ⟨_, h2⟩
          rcases h2 k hlt with h3 | h3
          · exact hst h3
          · exact h (hbk ▸ h3)
        have hcs : (k ≠ 0) ∨ (k = 0 ∧ wild = false) ∨ (k = 0 ∧ wild = true ∧ (b0.toList == [42]) = false) ∨ (k = 0 ∧ wild = true ∧ (b0.toList == [42]) = true ∧ ¬ 2 < n) := by
          by_cases e0 : k = 0
          · cases hw : wild with
            | false => exact .inr (.inl ⟨e0, rfl⟩)
            | true =>
              cases hz : (b0.toList == [42]) with
              | false => exact .inr (.inr (.inl ⟨e0, rfl, rfl⟩))
              | true => exact .inr (.inr (.inr ⟨e0, rfl, rfl, fun h2 => hst ⟨e0, hw, HB0.out.symm.trans ((toList_star b0).1 hz), by rw [HLEN.out]; exact h2⟩⟩))
          · exact .inl e0
        clear hbk hst HI HC HB0
        rcases hcs with h1 | ⟨rfl, rfl⟩ | ⟨rfl, rfl, hz⟩ | ⟨rfl, rfl, hz, h2⟩
        · have z0 : ((k : Int) == 0) = false := beq_false_of_ne (by omega)
          go_wp2_with fail
          refine (l6Label_any bk _).mono ?_
          rintro e w2 ⟨b, rfl, HV, rfl⟩
          cases b with
          | true =>
            have HN2 : Hid (hostL L wild (k + 1)) := HN.out (HV.out.1 rfl)
            clear HN HF HV
            go_wp2
            go_roundw
            case rel => exact ⟨k + 1, by omega, by go_num, HN2, by trivial⟩
            case measure => simp [intOf]; omega
          | false =>
            have HF2 : Hid (¬ P) := HF.out (fun h => Bool.false_ne_true (HV.out.2 h))
            clear HN HF HV
            go_wp2
            go_ret
            exact saysB_f HF2.out hb
        all_goals
          have exx : b0 = bk := by
            have := x0.symm.trans xk
            simpa using this
          subst exx
          go_wp2_with fail
          refine (l6Label_any b0 _).mono ?_
          rintro e w2 ⟨b, rfl, HV, rfl⟩
          cases b with
          | true =>
            have HN2 := HN.out (HV.out.1 rfl)
            have HN3 : Hid (_) := HN2
            clear HN HF HV HN2
            go_wp2
            go_roundw
            case rel => exact ⟨1, by omega, rfl, HN3, by trivial⟩
            case measure => simp [intOf]; omega
          | false =>
            have HF2 : Hid (¬ P) := HF.out (fun h => Bool.false_ne_true (HV.out.2 h))
            clear HN HF HV
            go_wp2
            go_ret
            exact saysB_f HF2.out hb
    · obtain rfl : k = n := by omega
      have HN : Hid P := by show P; rw [HL.out, HLEN.out]; exact ⟨by omega, HI.out⟩
      clear HI
      go_wp2
      go_ret
      exact saysB_t HN.out hb

end Go.Proofs.YtoncodoimnideaaGreatDoor
