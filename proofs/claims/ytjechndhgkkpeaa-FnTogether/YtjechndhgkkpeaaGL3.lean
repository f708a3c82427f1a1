import Derived.Test.YtjechndhgkkpeaaGL2
namespace Go.Proofs.Ytjechndhgkkpeaa
open Go.RowKit

/-- One step of a weight. -/
def lamS (i out j : Int) : Int := if j = i then out else out * j % 500000003 * (invV ((j - i) % 500000003) 500000003).1 % 500000003
def lamL (zs : List Int) (i : Int) : Int := zs.foldl (lamS i) 1
theorem lam_next (zs : List Int) (i : Int) (k : Nat) (h : k < zs.length) : lamL (zs.take (k + 1)) i = lamS i (lamL (zs.take k) i) (zs.getD k 0) := by
  have e : zs.getD k 0 = zs[k] := by simp [h]
  unfold lamL
  rw [List.take_succ_eq_append_getElem h, List.foldl_append, e]
  rfl
theorem invV_bd (a : Int) : 0 ≤ (invV a 500000003).1 ∧ (invV a 500000003).1 < 500000003 := by
  unfold invV
  split
  · split
    · exact mod_bd _ (by decide)
    · decide
  · decide
theorem lamS_bd (i j : Int) {out : Int} (h0 : 0 ≤ out) (h1 : out < 500000003) : 0 ≤ lamS i out j ∧ lamS i out j < 500000003 := by
  unfold lamS
  split
  · exact ⟨h0, h1⟩
  · exact mod_bd _ (by decide)
theorem lamL_bd (zs : List Int) (i : Int) : 0 ≤ lamL zs i ∧ lamL zs i < 500000003 := by
  have : ∀ (zs : List Int) (o : Int), 0 ≤ o → o < 500000003 → 0 ≤ zs.foldl (lamS i) o ∧ zs.foldl (lamS i) o < 500000003 := by
    intro zs
    induction zs with
    | nil => intro o h0 h1; exact ⟨h0, h1⟩
    | cons z r ih => intro o h0 h1; have := lamS_bd i z h0 h1; exact ih _ this.1 this.2
  exact this zs 1 (by decide) (by decide)

set_option maxHeartbeats 1000000 in
theorem weightAt_any (a : Option Addr) (n c : Nat) (zs : List Int) (i : Int) (w : World) (h : Row64 w a n zs) (hn : n ≤ 20) (hz : ∀ j, j < n → secP (zs.getD j 0)) (hi : secP i) :
    Calls Try.prog 34 #[.slice a n c, .int .i64 i] w fun e w' => e = .returned (.int .i64 (lamL zs i)) ∧ w' = w := by
  have H0 : Hid (Row64 w a n zs) := h
  have HL : Hid (zs.length = n) := h.len
  have HS : Hid (∀ j, j < n → secP (zs.getD j 0)) := hz
  obtain ⟨hi0, hi1⟩ := hi
  clear h hz
  go_enter Try.func34, Try.ntmps34
  go_wp2
  go_loopw [5, 12] (fun o k wr => ∃ (q : Nat) (out : Int), q ≤ n ∧ k = .int .i64 q ∧ o = .int .i64 out ∧ 0 ≤ out ∧ out < 500000003 ∧ Hid (out = lamL (zs.take q) i) ∧ w = wr) (fun _ k _ => n - (intOf k).toNat)
  case atStart => exact ⟨0, 1, Nat.zero_le _, rfl, rfl, by decide, by decide, rfl, rfl⟩
  case round =>
    obtain ⟨q, out, hq, rfl, rfl, ho0, ho1, HO, rfl⟩ := hrel
    by_cases hlt : q < n
    · obtain ⟨b, off, rfl, hb, hcell⟩ := H0.out.get q hlt
      obtain ⟨z, hz⟩ : ∃ z, z = zs.getD q 0 := ⟨_, rfl⟩
      rw [← hz] at hcell
      obtain ⟨hz0, hz1⟩ := HS.out q hlt
      rw [← hz] at hz0 hz1
      have HN : Hid (lamS i out z = lamL (zs.take (q + 1)) i) := by show _ = _; rw [lam_next zs i q (by rw [HL.out]; exact hlt), ← HO.out, hz]
      have hlti : (q : Int) < (n : Int) := by omega
      clear hz HO
      by_cases he : z = i
      · have ze : (z == i) = true := beq_iff_eq.2 he
        have HE : Hid (lamS i out z = out) := by show _ = _; unfold lamS; rw [if_pos he]
        clear he
        go_wp2
        go_roundw
        case rel => exact ⟨q + 1, out, by omega, by go_num, rfl, ho0, ho1, HE.out.symm.trans HN.out, by trivial⟩
        case measure => simp [intOf]; omega
      · have ze : (z == i) = false := beq_false_of_ne he
        obtain ⟨v, ok⟩ : ∃ v, v = (invV ((z - i) % 500000003) 500000003) := ⟨_, rfl⟩
        have hv := invV_bd ((z - i) % 500000003)
        rw [← ok] at hv
        have HE : Hid (lamS i out z = out * z % 500000003 * v.1 % 500000003) := by show _ = _; unfold lamS; rw [if_neg he, ← ok]
        have HK : Hid (v = _) := ok
        clear he ok
        obtain ⟨v, ok⟩ := v
        obtain ⟨hv0, hv1⟩ := hv
        simp only at hv0 hv1 HE
        obtain ⟨hp0, hp1⟩ := prod_bd ho0 ho1 (show 0 ≤ z by omega) (show z < 500000003 by omega) (by decide)
        obtain ⟨hm0, hm1⟩ := mod_bd (out * z) (show (1 : Int) ≤ 500000003 by decide)
        obtain ⟨hq0, hq1⟩ := prod_bd hm0 hm1 hv0 hv1 (by decide)
        obtain ⟨hr0, hr1⟩ := mod_bd (out * z % 500000003 * v) (show (1 : Int) ≤ 500000003 by decide)
        go_wp2_with fail
        refine (fromZero_any (z - i) 500000003 _ (by decide) (by decide)).mono ?_
        rintro e w1 ⟨rfl, rfl⟩
        go_wp2_with fail
        refine (implInverse_any ((z - i) % 500000003) 500000003 _).mono ?_
        rintro e w1 ⟨rfl, rfl⟩
        rw [← HK.out, pair]
        go_wp2
        go_roundw
        case rel => exact ⟨q + 1, _, by omega, by go_num, rfl, hr0, hr1, HE.out.symm.trans HN.out, by trivial⟩
        case measure => simp [intOf]; omega
    · obtain rfl : q = n := by omega
      have HE : Hid (out = lamL zs i) := by show _ = _; rw [HO.out, mem_all zs q (by rw [HL.out]; exact Nat.le_refl _)]
      go_wp2
      go_ret
      exact ⟨by rw [← HE.out]; rfl, rfl⟩

def lamR (zs : List Int) (i : Int) : Int × Bool := if whoP zs ∧ i ∈ zs then (lamL zs i, true) else (0, false)

set_option maxHeartbeats 1000000 in
theorem implLambda_any (a : Option Addr) (n c : Nat) (zs : List Int) (i : Int) (w : World) (h : Row64 w a n zs) (hn : n ≤ c) (hc : c ≤ 9223372036854775807) :
    Calls Try.prog 39 #[.slice a n c, .int .i64 i] w fun e w' => e = .returned (pair (lamR zs i)) ∧ Below w.heap.size w w' := by
  have H0 : Hid (Row64 w a n zs) := h
  have HL : Hid (zs.length = n) := h.len
  clear h
  by_cases h1 : whoP zs
  · by_cases h2 : i ∈ zs
    · have HR : Hid (lamR zs i = (lamL zs i, true)) := by show _ = _; unfold lamR; rw [if_pos ⟨h1, h2⟩]
      go_enter Try.func39, Try.ntmps39
      go_wp2_with fail
      refine (placesOk_any a n c zs _ H0.out hn hc).mono ?_
      rintro e w1 ⟨rfl, rfl⟩
      rw [decide_eq_true h1]
      go_wp2_with fail
      refine (contains_any a n c zs i _ H0.out (by omega)).mono ?_
      rintro e w1 ⟨rfl, rfl⟩
      rw [decide_eq_true h2]
      go_wp2_with fail
      refine (weightAt_any a n c zs i _ H0.out (by have := h1.1.2; rw [HL.out] at this; exact this) (fun j hj => h1.2.1 j (by rw [HL.out]; exact hj)) (h1.sec h2)).mono ?_
      rintro e w1 ⟨rfl, rfl⟩
      go_wp2
      go_ret2
      exact ⟨by rw [HR.out]; rfl, Below.refl _ _⟩
    · have HR : Hid (lamR zs i = (0, false)) := by show _ = _; unfold lamR; rw [if_neg (fun hh => h2 hh.2)]
      go_enter Try.func39, Try.ntmps39
      go_wp2_with fail
      refine (placesOk_any a n c zs _ H0.out hn hc).mono ?_
      rintro e w1 ⟨rfl, rfl⟩
      rw [decide_eq_true h1]
      go_wp2_with fail
      refine (contains_any a n c zs i _ H0.out (by omega)).mono ?_
      rintro e w1 ⟨rfl, rfl⟩
      rw [decide_eq_false h2]
      go_wp2
      go_ret2
      exact ⟨by rw [HR.out]; rfl, Below.refl _ _⟩
  · have HR : Hid (lamR zs i = (0, false)) := by show _ = _; unfold lamR; rw [if_neg (fun hh => h1 hh.1)]
    go_enter Try.func39, Try.ntmps39
    go_wp2_with fail
    refine (placesOk_any a n c zs _ H0.out hn hc).mono ?_
    rintro e w1 ⟨rfl, rfl⟩
    rw [decide_eq_false h1]
    go_wp2
    go_ret2
    exact ⟨by rw [HR.out]; rfl, Below.refl _ _⟩

theorem keep3 {w w1 w2 : World} (h : Below w.heap.size w w1) (k : Below w1.heap.size w1 w2) : Below w.heap.size w w2 := h.trans (k.mono h.size)

end Go.Proofs.Ytjechndhgkkpeaa
