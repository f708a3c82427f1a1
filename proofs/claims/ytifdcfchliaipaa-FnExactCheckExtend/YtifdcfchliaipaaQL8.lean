import Derived.Test.YtifdcfchliaipaaQL5
namespace Go.Proofs.Ytifdcfchliaipaa
open Go.RowKit Go.Sort

/-- The root that a proof leads to. -/
def fromR (n i : Nat) (x : Int) (ps : List Int) : Int × Bool :=
  if _h : n ≤ 1 then (x, decide (ps.length = 0))
  else if ps.length = 0 then (0, false)
  else if i < hk n then (pairN (fromR (hk n) i x (ps.take (ps.length - 1))).1 (ps.getD (ps.length - 1) 0), (fromR (hk n) i x (ps.take (ps.length - 1))).2)
  else (pairN (ps.getD (ps.length - 1) 0) (fromR (n - hk n) (i - hk n) x (ps.take (ps.length - 1))).1, (fromR (n - hk n) (i - hk n) x (ps.take (ps.length - 1))).2)
termination_by n
decreasing_by all_goals (have := hk_pos n; have := hk_lt (show 2 ≤ n by omega); omega)
theorem fromR_one (n i : Nat) (x : Int) (ps : List Int) (h : n ≤ 1) : fromR n i x ps = (x, decide (ps.length = 0)) := by rw [fromR, dif_pos h]
theorem fromR_nil (n i : Nat) (x : Int) (ps : List Int) (h : 2 ≤ n) (hp : ps.length = 0) : fromR n i x ps = (0, false) := by rw [fromR, dif_neg (by omega), if_pos hp]
theorem fromR_lo (n i : Nat) (x : Int) (ps : List Int) (h : 2 ≤ n) (m : Nat) (hp : ps.length = m + 1) (hi : i < hk n) : fromR n i x ps = (pairN (fromR (hk n) i x (ps.take m)).1 (ps.getD m 0), (fromR (hk n) i x (ps.take m)).2) := by
  conv => lhs; rw [fromR]
  rw [dif_neg (by omega), if_neg (by omega), if_pos hi, hp, Nat.add_sub_cancel]
theorem fromR_hi (n i : Nat) (x : Int) (ps : List Int) (h : 2 ≤ n) (m : Nat) (hp : ps.length = m + 1) (hi : ¬ i < hk n) : fromR n i x ps = (pairN (ps.getD m 0) (fromR (n - hk n) (i - hk n) x (ps.take m)).1, (fromR (n - hk n) (i - hk n) x (ps.take m)).2) := by
  conv => lhs; rw [fromR]
  rw [dif_neg (by omega), if_neg (by omega), if_neg hi, hp, Nat.add_sub_cancel]
theorem fromR_bd (n i : Nat) (x : Int) (ps : List Int) (hx : U64 x) : U64 (fromR n i x ps).1 := by
  rw [fromR]
  split
  · exact hx
  · split
    · simp [U64]
    · split <;> exact pairN_bd _ _

set_option maxHeartbeats 1000000 in
theorem cutTop_more (a : Option Addr) (m c : Nat) (ps : List Int) (w : World) (h : RowU w a (m + 1) ps) (hc : m + 1 ≤ c) (hcm : c ≤ 9223372036854775807) :
    Calls Try.prog 67 #[.slice a (m + 1) c] w fun e w' => e = .returned (.tuple #[.slice a m c, .int .u64 (ps.getD m 0), .bool true]) ∧ Below w.heap.size w w' := by
  obtain ⟨b, off, rfl, hlb, hc0⟩ := h.get m (by omega)
  obtain ⟨p, hp⟩ : ∃ p, p = ps.getD m 0 := ⟨_, rfl⟩
  rw [← hp] at hc0 ⊢
  clear hp h
  have j1 : ((m + 1 : Nat) : Int) - 1 = (m : Int) := by omega
  have j2 : IntKind.i64.wrap (m : Int) = (m : Int) := by rw [IntKind.wrap_i64]; omega
  have j3 : ¬ (m : Int) < 0 := by omega
  have j4 : (m : Int) ≤ (c : Int) := by omega
  have j5 : (m : Int) < (m : Int) + 1 := by omega
  go_enter Try.func67, Try.ntmps67
  go_wp2
  go_quiet (fail)
  go_wp2
  go_ret3
  exact ⟨rfl, below_dnT (Below.refl _ _) nq⟩

set_option maxHeartbeats 1000000 in
theorem cutTop_none (a : Option Addr) (c : Nat) (w : World) :
    Calls Try.prog 67 #[.slice a 0 c] w fun e w' => e = .returned (.tuple #[.slice none 0 0, .int .u64 0, .bool false]) ∧ w' = w := by
  go_enter Try.func67, Try.ntmps67
  go_wp2
  go_ret3
  exact ⟨rfl, rfl⟩

set_option maxHeartbeats 2000000 in
theorem includedRoot_any : ∀ (N n i : Nat) (x : Int) (a : Option Addr) (l c : Nat) (ps : List Int) (w : World), n ≤ N → 0 < n → i < n → n ≤ 1000 → U64 x → RowU w a l ps → l ≤ c → c ≤ 9223372036854775807 →
    Calls Try.prog 45 #[.int .i64 n, .int .i64 i, .int .u64 x, .slice a l c] w fun e w' => e = .returned (.tuple #[.int .u64 (fromR n i x ps).1, .bool (fromR n i x ps).2]) ∧ Below w.heap.size w w' := by
  intro N
  induction N with
  | zero => intro n i x a l c ps w hN h0; omega
  | succ N ih =>
    intro n i x a l c ps w hN h0 hin hn hx h hc hcm
    have H0 : Hid (RowU w a l ps) := h
    have HL : Hid (ps.length = l) := h.len
    clear h
    by_cases h1 : n = 1
    · subst h1
      have HE : Hid (fromR 1 i x ps = (x, decide (l = 0))) := by show _ = _; rw [fromR_one 1 i x ps (Nat.le_refl _), HL.out]
      by_cases hl : l = 0
      · subst hl
        go_enter Try.func45, Try.ntmps45
        go_wp2
        go_ret2
        exact ⟨by rw [HE.out]; rfl, Below.refl _ _⟩
      · have z0 : ((l : Int) == 0) = false := by simp; omega
        have z1 : decide (l = 0) = false := by simp; omega
        go_enter Try.func45, Try.ntmps45
        go_wp2
        go_ret2
        exact ⟨by rw [HE.out, z1]; rfl, Below.refl _ _⟩
    · have z1 : ((n : Int) == 1) = false := by simp; omega
      have z3 : ¬ (n : Int) = 1 := by omega
      by_cases hl : l = 0
      · subst hl
        have HE : Hid (fromR n i x ps = (0, false)) := fromR_nil n i x ps (by omega) HL.out
        go_enter Try.func45, Try.ntmps45
        go_wp2_with fail
        refine (cutTop_none a c _).mono ?_
        rintro e w1 ⟨rfl, hw⟩
        have hw2 := hw.symm
        subst hw2
        go_wp2
        go_ret2
        exact ⟨by rw [HE.out]; rfl, Below.refl _ _⟩
      · obtain ⟨m, rfl⟩ : ∃ m, l = m + 1 := ⟨l - 1, by omega⟩
        have zl0 : (((m + 1 : Nat) : Int) == 0) = false := by simp; omega
        have zl1 : ((m : Int) + 1 == 0) = false := by simp; omega
        have zl2 : ¬ (m : Int) + 1 = 0 := by omega
        obtain ⟨b, off, rfl, hlb, hc0⟩ := H0.out.get m (by omega)
        obtain ⟨p, hp⟩ : ∃ p, p = ps.getD m 0 := ⟨_, rfl⟩
        have HP : Hid (p = ps.getD m 0) := hp
        have hpb := H0.out.rng m
        rw [← hp] at hc0 hpb
        clear hp
        have j1 : ((m + 1 : Nat) : Int) - 1 = (m : Int) := by omega
        have j2 : IntKind.i64.wrap (m : Int) = (m : Int) := by rw [IntKind.wrap_i64]; omega
        have j4 : (m : Int) ≤ (c : Int) := by omega
        have j7 : (m : Int) < (m : Int) + 1 := by omega
        have hkl := hk_lt (show 2 ≤ n by omega)
        have hkp := hk_pos n
        obtain ⟨k, hkk⟩ : ∃ k, k = hk n := ⟨_, rfl⟩
        have HKK : Hid (k = hk n) := hkk
        rw [← hkk] at hkl hkp
        have HRW : Hid (∀ W, Below w.heap.size w W → RowU W (some ⟨b, off, none⟩) m (ps.take m)) := fun W hW => (H0.out.take m (by omega)).kept hW
        by_cases hik : i < k
        · have k1 : (i : Int) < (k : Int) := by omega
          have he := fromR_lo n i x ps (by omega) m HL.out (by rw [← hkk]; exact hik)
          rw [← hkk, ← HP.out] at he
          obtain ⟨v, hv⟩ : ∃ v, v = (fromR k i x (ps.take m)).1 := ⟨_, rfl⟩
          obtain ⟨ok, hok⟩ : ∃ ok, ok = (fromR k i x (ps.take m)).2 := ⟨_, rfl⟩
          have hvb := fromR_bd k i x (ps.take m) hx
          have ih2 := fun W (hW : Below w.heap.size w W) => ih k i x (some ⟨b, off, none⟩) m c (ps.take m) W (by omega) hkp hik (by omega) hx (HRW.out W hW) (by omega) hcm
          rw [← hv, ← hok] at ih2
          rw [← hv] at hvb
          rw [← hv, ← hok] at he
          have HE : Hid (fromR n i x ps = (pairN v p, ok)) := he
          have IH : Hid (_) := ih2
          clear hkk he hv hok ih2 ih HRW
          go_enter Try.func45, Try.ntmps45
          go_wp2_with fail
          refine (cutTop_more (some ⟨b, off, none⟩) m c ps _ H0.out hc hcm).mono ?_
          rintro e w1 ⟨rfl, hb1⟩
          rw [← HP.out]
          go_wp2_with fail
          refine (firstPart_any _ _ (by omega)).mono ?_
          rintro e w2 ⟨rfl, hw⟩
          have hw2 := hw.symm
          subst hw2
          rw [← HKK.out]
          go_wp2_with fail
          refine (IH.out _ hb1).mono ?_
          rintro e w3 ⟨rfl, hb3⟩
          go_wp2_with fail
          refine (pairOf_any v p _ hvb hpb).mono ?_
          rintro e w4 ⟨rfl, hb4⟩
          go_wp2
          go_ret2
          exact ⟨by rw [HE.out]; rfl, keepT (keepT hb1 hb3) hb4⟩
        · obtain ⟨q, rfl⟩ : ∃ q, i = k + q := ⟨i - k, by omega⟩
          obtain ⟨d, rfl⟩ : ∃ d, n = k + d := ⟨n - k, by omega⟩
          have k1 : ¬ (k : Int) + (q : Int) < (k : Int) := by omega
          have k2 : (k : Int) + (q : Int) - (k : Int) = (q : Int) := by omega
          have k3 : (k : Int) + (d : Int) - (k : Int) = (d : Int) := by omega
          have k4 : IntKind.i64.wrap (q : Int) = (q : Int) := by rw [IntKind.wrap_i64]; omega
          have k5 : IntKind.i64.wrap (d : Int) = (d : Int) := by rw [IntKind.wrap_i64]; omega
          have he := fromR_hi (k + d) (k + q) x ps (by omega) m HL.out (by rw [← hkk]; omega)
          rw [← hkk, ← HP.out, Nat.add_sub_cancel_left, Nat.add_sub_cancel_left] at he
          obtain ⟨v, hv⟩ : ∃ v, v = (fromR d q x (ps.take m)).1 := ⟨_, rfl⟩
          obtain ⟨ok, hok⟩ : ∃ ok, ok = (fromR d q x (ps.take m)).2 := ⟨_, rfl⟩
          have hvb := fromR_bd d q x (ps.take m) hx
          have ih2 := fun W (hW : Below w.heap.size w W) => ih d q x (some ⟨b, off, none⟩) m c (ps.take m) W (by omega) (by omega) (by omega) (by omega) hx (HRW.out W hW) (by omega) hcm
          rw [← hv, ← hok] at ih2
          rw [← hv] at hvb
          rw [← hv, ← hok] at he
          have HE : Hid (fromR (k + d) (k + q) x ps = (pairN p v, ok)) := he
          have IH : Hid (_) := ih2
          clear hkk he hv hok ih2 ih HRW
          go_enter Try.func45, Try.ntmps45
          go_wp2_with fail
          refine (cutTop_more (some ⟨b, off, none⟩) m c ps _ H0.out hc hcm).mono ?_
          rintro e w1 ⟨rfl, hb1⟩
          rw [← HP.out]
          go_wp2_with fail
          refine (firstPart_any _ _ (by omega)).mono ?_
          rintro e w2 ⟨rfl, hw⟩
          have hw2 := hw.symm
          subst hw2
          rw [← HKK.out]
          go_wp2_with fail
          refine (IH.out _ hb1).mono ?_
          rintro e w3 ⟨rfl, hb3⟩
          go_wp2_with fail
          refine (pairOf_any p v _ hpb hvb).mono ?_
          rintro e w4 ⟨rfl, hb4⟩
          go_wp2
          go_ret2
          exact ⟨by rw [HE.out]; rfl, keepT (keepT hb1 hb3) hb4⟩

set_option maxHeartbeats 2000000 in
theorem l15From_any : ∀ (N n i : Nat) (x : Int) (a : Option Addr) (l c : Nat) (ps : List Int) (w : World), n ≤ N → 0 < n → i < n → n ≤ 1000 → U64 x → RowU w a l ps → l ≤ c → c ≤ 9223372036854775807 →
    Calls Try.prog 44 #[.int .i64 n, .int .i64 i, .int .u64 x, .slice a l c] w fun e w' => e = .returned (.tuple #[.int .u64 (fromR n i x ps).1, .bool (fromR n i x ps).2]) ∧ Below w.heap.size w w' := by
  intro N
  induction N with
  | zero => intro n i x a l c ps w hN h0; omega
  | succ N ih =>
    intro n i x a l c ps w hN h0 hin hn hx h hc hcm
    have H0 : Hid (RowU w a l ps) := h
    have HL : Hid (ps.length = l) := h.len
    clear h
    by_cases h1 : n = 1
    · subst h1
      have HE : Hid (fromR 1 i x ps = (x, decide (l = 0))) := by show _ = _; rw [fromR_one 1 i x ps (Nat.le_refl _), HL.out]
      by_cases hl : l = 0
      · subst hl
        go_enter Try.func44, Try.ntmps44
        go_wp2
        go_ret2
        exact ⟨by rw [HE.out]; rfl, Below.refl _ _⟩
      · have z0 : ((l : Int) == 0) = false := by simp; omega
        have z1 : decide (l = 0) = false := by simp; omega
        go_enter Try.func44, Try.ntmps44
        go_wp2
        go_ret2
        exact ⟨by rw [HE.out, z1]; rfl, Below.refl _ _⟩
    · have z1 : ((n : Int) == 1) = false := by simp; omega
      have z3 : ¬ (n : Int) = 1 := by omega
      by_cases hl : l = 0
      · subst hl
        have HE : Hid (fromR n i x ps = (0, false)) := fromR_nil n i x ps (by omega) HL.out
        go_enter Try.func44, Try.ntmps44
        go_wp2
        go_ret2
        exact ⟨by rw [HE.out]; rfl, Below.refl _ _⟩
      · obtain ⟨m, rfl⟩ : ∃ m, l = m + 1 := ⟨l - 1, by omega⟩
        have zl0 : (((m + 1 : Nat) : Int) == 0) = false := by simp; omega
        have zl1 : ((m : Int) + 1 == 0) = false := by simp; omega
        have zl2 : ¬ (m : Int) + 1 = 0 := by omega
        obtain ⟨b, off, rfl, hlb, hc0⟩ := H0.out.get m (by omega)
        obtain ⟨p, hp⟩ : ∃ p, p = ps.getD m 0 := ⟨_, rfl⟩
        have HP : Hid (p = ps.getD m 0) := hp
        have hpb := H0.out.rng m
        rw [← hp] at hc0 hpb
        clear hp
        have j1 : ((m + 1 : Nat) : Int) - 1 = (m : Int) := by omega
        have j2 : IntKind.i64.wrap (m : Int) = (m : Int) := by rw [IntKind.wrap_i64]; omega
        have j4 : (m : Int) ≤ (c : Int) := by omega
        have j7 : (m : Int) < (m : Int) + 1 := by omega
        have hkl := hk_lt (show 2 ≤ n by omega)
        have hkp := hk_pos n
        obtain ⟨k, hkk⟩ : ∃ k, k = hk n := ⟨_, rfl⟩
        have HKK : Hid (k = hk n) := hkk
        rw [← hkk] at hkl hkp
        have HRW : Hid (∀ W, Below w.heap.size w W → RowU W (some ⟨b, off, none⟩) m (ps.take m)) := fun W hW => (H0.out.take m (by omega)).kept hW
        by_cases hik : i < k
        · have k1 : (i : Int) < (k : Int) := by omega
          have he := fromR_lo n i x ps (by omega) m HL.out (by rw [← hkk]; exact hik)
          rw [← hkk, ← HP.out] at he
          obtain ⟨v, hv⟩ : ∃ v, v = (fromR k i x (ps.take m)).1 := ⟨_, rfl⟩
          obtain ⟨ok, hok⟩ : ∃ ok, ok = (fromR k i x (ps.take m)).2 := ⟨_, rfl⟩
          have hvb := fromR_bd k i x (ps.take m) hx
          have ih2 := fun W (hW : Below w.heap.size w W) => ih k i x (some ⟨b, off, none⟩) m c (ps.take m) W (by omega) hkp hik (by omega) hx (HRW.out W hW) (by omega) hcm
          rw [← hv, ← hok] at ih2
          rw [← hv] at hvb
          rw [← hv, ← hok] at he
          have HE : Hid (fromR n i x ps = (pairN v p, ok)) := he
          have IH : Hid (_) := ih2
          clear hkk he hv hok ih2 ih HRW
          have hb1 := Below.refl w.heap.size w
          go_enter Try.func44, Try.ntmps44
          go_wp2_with fail
          refine (l15Half_any _ _ (by omega)).mono ?_
          rintro e w2 ⟨rfl, hw⟩
          have hw2 := hw.symm
          subst hw2
          rw [← HKK.out]
          go_wp2_with fail
          refine (IH.out _ hb1).mono ?_
          rintro e w3 ⟨rfl, hb3⟩
          have hcl3 : w3.cell? ⟨b, off + m, none⟩ = some (.int .u64 p) := ((keepT hb1 hb3).cell (p := ⟨b, off + m, none⟩) hlb).trans hc0
          go_wp2_with fail
          refine (l15Pair_any v p _ hvb hpb).mono ?_
          rintro e w4 ⟨rfl, hb4⟩
          go_wp2
          go_ret2
          exact ⟨by rw [HE.out]; rfl, keepT (keepT hb1 hb3) hb4⟩
        · obtain ⟨q, rfl⟩ : ∃ q, i = k + q := ⟨i - k, by omega⟩
          obtain ⟨d, rfl⟩ : ∃ d, n = k + d := ⟨n - k, by omega⟩
          have k1 : ¬ (k : Int) + (q : Int) < (k : Int) := by omega
          have k2 : (k : Int) + (q : Int) - (k : Int) = (q : Int) := by omega
          have k3 : (k : Int) + (d : Int) - (k : Int) = (d : Int) := by omega
          have k4 : IntKind.i64.wrap (q : Int) = (q : Int) := by rw [IntKind.wrap_i64]; omega
          have k5 : IntKind.i64.wrap (d : Int) = (d : Int) := by rw [IntKind.wrap_i64]; omega
          have he := fromR_hi (k + d) (k + q) x ps (by omega) m HL.out (by rw [← hkk]; omega)
          rw [← hkk, ← HP.out, Nat.add_sub_cancel_left, Nat.add_sub_cancel_left] at he
          obtain ⟨v, hv⟩ : ∃ v, v = (fromR d q x (ps.take m)).1 := ⟨_, rfl⟩
          obtain ⟨ok, hok⟩ : ∃ ok, ok = (fromR d q x (ps.take m)).2 := ⟨_, rfl⟩
          have hvb := fromR_bd d q x (ps.take m) hx
          have ih2 := fun W (hW : Below w.heap.size w W) => ih d q x (some ⟨b, off, none⟩) m c (ps.take m) W (by omega) (by omega) (by omega) (by omega) hx (HRW.out W hW) (by omega) hcm
          rw [← hv, ← hok] at ih2
          rw [← hv] at hvb
          rw [← hv, ← hok] at he
          have HE : Hid (fromR (k + d) (k + q) x ps = (pairN p v, ok)) := he
          have IH : Hid (_) := ih2
          clear hkk he hv hok ih2 ih HRW
          have hb1 := Below.refl w.heap.size w
          go_enter Try.func44, Try.ntmps44
          go_wp2_with fail
          refine (l15Half_any _ _ (by omega)).mono ?_
          rintro e w2 ⟨rfl, hw⟩
          have hw2 := hw.symm
          subst hw2
          rw [← HKK.out]
          go_wp2_with fail
          refine (IH.out _ hb1).mono ?_
          rintro e w3 ⟨rfl, hb3⟩
          have hcl3 : w3.cell? ⟨b, off + m, none⟩ = some (.int .u64 p) := ((keepT hb1 hb3).cell (p := ⟨b, off + m, none⟩) hlb).trans hc0
          go_wp2_with fail
          refine (l15Pair_any p v _ hpb hvb).mono ?_
          rintro e w4 ⟨rfl, hb4⟩
          go_wp2
          go_ret2
          exact ⟨by rw [HE.out]; rfl, keepT (keepT hb1 hb3) hb4⟩

end Go.Proofs.Ytifdcfchliaipaa
