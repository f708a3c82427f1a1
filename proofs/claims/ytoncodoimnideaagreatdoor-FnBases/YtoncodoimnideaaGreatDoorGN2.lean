import Derived.Test.YtoncodoimnideaaGreatDoorGN1
namespace Go.Proofs.YtoncodoimnideaaGreatDoor
open Go.RowKit

theorem list_two {L : List ByteArray} (h : L.length = 2) : L = [L.getD 0 ByteArray.empty, L.getD 1 ByteArray.empty] := by
  match L, h with
  | [a, b], _ => rfl
def mailR (s x y : ByteArray) (ok : Bool) : Prop := (ok = true ∧ cutAt s 64 = [x, y]) ∨ (ok = false ∧ (cutAt s 64).length ≠ 2)
theorem below_drewM {B : Nat} {w w' : World} (h : Below B w w') (n : Nat) : Below B w (w'.drewN n) := by
  induction n with
  | zero => simpa [World.drewN] using h
  | succ n ih => exact ih.drew

set_option maxRecDepth 10000 in
set_option maxHeartbeats 2000000 in
theorem l6Mail_any (s : ByteArray) (w : World) (hs : s.size ≤ 1048576) : Calls Tryz.prog 35 #[.string s] w fun e w' => ∃ x y ok, e = .returned (.tuple #[.string x, .string y, .bool ok]) ∧ Hid (mailR s x y ok) ∧ x.size ≤ s.size ∧ y.size ≤ s.size ∧ Below w.heap.size w w' := by
  go_enter Tryz.func35, Tryz.ntmps35
  go_wp2_with fail
  refine (l5Split_any s 64 _ hs).mono ?_
  rintro e w1 ⟨a, n, cap, rfl, hn, HS0, hb⟩
  by_cases h2 : n = 2
  · have e2 := list_two (hn.symm.trans h2)
    subst h2
    obtain ⟨g, rfl, hg, hcell⟩ := HS0.get (by omega)
    obtain ⟨hc1, hc2⟩ := HS0.caps
    have c0 := hcell 0 (by decide)
    have c1 := hcell 1 (by decide)
    have y0 := cut_size s 64 0
    have y1 := cut_size s 64 1
    obtain ⟨x, hx⟩ : ∃ x, x = (cutAt s 64).getD 0 ByteArray.empty := ⟨_, rfl⟩
    obtain ⟨y, hy⟩ : ∃ y, y = (cutAt s 64).getD 1 ByteArray.empty := ⟨_, rfl⟩
    rw [← hx] at c0 e2 y0
    rw [← hy] at c1 e2 y1
    have HE : Hid (mailR s x y true) := .inl ⟨rfl, e2⟩
    clear hx hy e2 hcell HS0 hn
    go_wp2
    go_quiet (fail)
    go_wp2
    go_ret3
    first
      | exact ⟨x, y, true, rfl, HE, y0, y1, hb⟩
      | exact ⟨x, y, true, rfl, HE, y0, y1, hb.drew⟩
      | exact ⟨x, y, true, rfl, HE, y0, y1, below_drewM hb _⟩
  · have HE : Hid (mailR s ByteArray.empty ByteArray.empty false) := .inr ⟨rfl, fun h => h2 (hn.trans h)⟩
    have z : ((n : Int) != 2) = true := bne_iff_ne.2 (by omega)
    clear HS0 hn h2
    go_wp2
    go_ret3
    exact ⟨ByteArray.empty, ByteArray.empty, false, rfl, HE, Nat.zero_le _, Nat.zero_le _, hb⟩

theorem mailR_t {s x y : ByteArray} (h : mailR s x y true) : mailP s ↔ localP x ∧ hostP y false := by
  rcases h with ⟨_, h⟩ | ⟨h, _⟩
  · constructor
    · rintro ⟨a, b, e, h1, h2⟩
      rw [h] at e
      obtain ⟨rfl, e2⟩ := List.cons.inj e
      obtain ⟨rfl, _⟩ := List.cons.inj e2
      exact ⟨h1, h2⟩
    · rintro ⟨h1, h2⟩
      exact ⟨x, y, h, h1, h2⟩
  · cases h
theorem mailR_f {s x y : ByteArray} (h : mailR s x y false) : ¬ mailP s := by
  rcases h with ⟨h, _⟩ | ⟨_, h⟩
  · cases h
  · rintro ⟨a, b, e, _⟩
    rw [e] at h
    exact h rfl

set_option maxRecDepth 10000 in
set_option maxHeartbeats 2000000 in
theorem l6MailOk_any (s : ByteArray) (w : World) (hs : s.size ≤ 1048576) : Calls Tryz.prog 40 #[.string s] w (SaysB (mailP s) w) := by
  go_enter Tryz.func40, Tryz.ntmps40
  go_wp2_with fail
  refine (l6Mail_any s _ hs).mono ?_
  rintro e w1 ⟨x, y, ok, rfl, HR, hx, hy, hb⟩
  cases ok with
  | false =>
    have HN : Hid (¬ mailP s) := mailR_f HR.out
    clear HR
    go_wp2
    go_ret
    exact saysB_f HN.out hb
  | true =>
    have HI : Hid (mailP s ↔ localP x ∧ hostP y false) := mailR_t HR.out
    clear HR
    go_wp2_with fail
    refine (l6Local_any x _ (by omega)).mono ?_
    rintro e w2 ⟨b1, rfl, HV1, hw2⟩
    subst hw2
    cases b1 with
    | false =>
      have HN : Hid (¬ mailP s) := fun h => Bool.false_ne_true (HV1.out.2 (HI.out.1 h).1)
      clear HV1 HI
      go_wp2
      go_ret
      exact saysB_f HN.out hb
    | true =>
      have HI2 : Hid (mailP s ↔ hostP y false) := ⟨fun h => (HI.out.1 h).2, fun h => HI.out.2 ⟨HV1.out.1 rfl, h⟩⟩
      clear HV1 HI
      go_wp2_with fail
      refine (specHostOk_any y false _).mono ?_
      rintro e w3 ⟨b2, rfl, HV2, hb2⟩
      have hb3 : Below w.heap.size w w3 := hb.trans (hb2.mono hb.size)
      cases b2 with
      | false =>
        have HN : Hid (¬ mailP s) := fun h => Bool.false_ne_true (HV2.out.2 (HI2.out.1 h))
        clear HV2 HI2
        go_wp2
        go_ret
        exact saysB_f HN.out hb3
      | true =>
        have HN : Hid (mailP s) := HI2.out.2 (HV2.out.1 rfl)
        clear HV2 HI2
        go_wp2
        go_ret
        exact saysB_t HN.out hb3

end Go.Proofs.YtoncodoimnideaaGreatDoor
