import Derived.Test.YthncodopdcmfiaaQL5
import Derived.Deep.RegionHeldLaw
import Derived.Test.YthncodopdcmfiaaWRd2
import Derived.Deep.DeepCutAuto
import Derived.Test.YthncodopdcmfiaaWLv
import Derived.Laws.AppendOwnNone
namespace Go.Proofs.Ythncodopdcmfiaa
open Go.RowKit Go.Sort

/-- The root that a proof leads to. -/
def fromR (n i : Nat) (x : Int) (ps : List Int) : Int × Bool :=
  if _h : n ≤ 1 then (x, decide (ps.length = 0))
  else if ps.length = 0 then (0, false)
  else if i < hk n then (pairN (fromR (hk n) i x (ps.take (ps.length - 1))).1 (ps.getD (ps.length - 1) 0), (fromR (hk n) i x (ps.take (ps.length - 1))).2)
  else (pairN (ps.getD (ps.length - 1) 0) (fromR (n - hk n) (i - hk n) x (ps.take (ps.length - 1))).1, (fromR (n - hk n) (i - hk n) x (ps.take (ps.length - 1))).2)
termination_by n
decreasing_by all_goals (have := hk_pos n; have := hk_lt (show 2 ≤ n by omega); omega)
theorem fromR_one (n i : Nat) (x : Int) (ps : List Int) (h : n ≤ 1) : fromR n i x ps = (x, decide (ps.length = 0)) := by rw [fromR, dif_pos h]
theorem fromR_nil (n i : Nat) (x : Int) (ps : List Int) (h : 2 ≤ n) (hp : ps.length = 0) : fromR n i x ps = (0, false) := by rw [fromR, dif_neg (by omega), if_pos hp]
theorem fromR_lo (n i : Nat) (x : Int) (ps : List Int) (h : 2 ≤ n) (m : Nat) (hp : ps.length = m + 1) (hi : i < hk n) : fromR n i x ps = (pairN (fromR (hk n) i x (ps.take m)).1 (ps.getD m 0), (fromR (hk n) i x (ps.take m)).2) := by
  conv => lhs; rw [fromR]
  rw [dif_neg (by omega), if_neg (by omega), if_pos hi, hp, Nat.add_sub_cancel]
theorem fromR_hi (n i : Nat) (x : Int) (ps : List Int) (h : 2 ≤ n) (m : Nat) (hp : ps.length = m + 1) (hi : ¬ i < hk n) : fromR n i x ps = (pairN (ps.getD m 0) (fromR (n - hk n) (i - hk n) x (ps.take m)).1, (fromR (n - hk n) (i - hk n) x (ps.take m)).2) := by
  conv => lhs; rw [fromR]
  rw [dif_neg (by omega), if_neg (by omega), if_neg hi, hp, Nat.add_sub_cancel]
theorem fromR_bd (n i : Nat) (x : Int) (ps : List Int) (hx : U64 x) : U64 (fromR n i x ps).1 := by
  rw [fromR]
  split
  · exact hx
  · split
    · simp [U64]
    · split <;> exact pairN_bd _ _

set_option maxRecDepth 10000 in
set_option maxHeartbeats 1000000 in
theorem cutTop_more (a : Option Addr) (m c : Nat) (ps : List Int) (w : World) (h : RowU w a (m + 1) ps) (hc : m + 1 ≤ c) (hcm : c ≤ 9223372036854775807) :
    Calls Try.prog 62 #[.slice a (m + 1) c] w fun e w' => e = .returned (.tuple #[.slice a m c, .int .u64 (ps.getD m 0), .bool true]) ∧ Below w.heap.size w w' := by
  obtain ⟨b, off, rfl, hlb, hc0⟩ := h.get m (by omega)
  obtain ⟨p, hp⟩ : ∃ p, p = ps.getD m 0 := ⟨_, rfl⟩
  rw [← hp] at hc0 ⊢
  clear hp h
  have j1 : ((m + 1 : Nat) : Int) - 1 = (m : Int) := by omega
  have j2 : IntKind.i64.wrap (m : Int) = (m : Int) := by rw [IntKind.wrap_i64]; omega
  have j3 : ¬ (m : Int) < 0 := by omega
  have j4 : (m : Int) ≤ (c : Int) := by omega
  have j5 : (m : Int) < (m : Int) + 1 := by omega
  go_enter Try.func62, Try.ntmps62
  go_wp2
  go_quiet (fail)
  go_wp2
  go_ret3
  exact ⟨rfl, below_dnT (Below.refl _ _) nq⟩

set_option maxRecDepth 10000 in
set_option maxHeartbeats 1000000 in
theorem cutTop_none (a : Option Addr) (c : Nat) (w : World) :
    Calls Try.prog 62 #[.slice a 0 c] w fun e w' => e = .returned (.tuple #[.slice none 0 0, .int .u64 0, .bool false]) ∧ w' = w := by
  go_enter Try.func62, Try.ntmps62
  go_wp2
  go_ret3
  exact ⟨rfl, rfl⟩

set_option maxRecDepth 10000 in
set_option maxHeartbeats 2000000 in
theorem includedRoot_any : ∀ (N n i : Nat) (x : Int) (a : Option Addr) (l c : Nat) (ps : List Int) (w : World), n ≤ N → 0 < n → i < n → n ≤ 1000 → U64 x → RowU w a l ps → l ≤ c → c ≤ 9223372036854775807 →
    Calls Try.prog 38 #[.int .i64 n, .int .i64 i, .int .u64 x, .slice a l c] w fun e w' => e = .returned (.tuple #[.int .u64 (fromR n i x ps).1, .bool (fromR n i x ps).2]) ∧ Below w.heap.size w w' := by
  intro N
  induction N with
  | zero => intro n i x a l c ps w hN h0; omega
  | succ N ih =>
    intro n i x a l c ps w hN h0 hin hn hx h hc hcm
    have H0 : Hid (RowU w a l ps) := h
    have HL : Hid (ps.length = l) := h.len
    clear h
    by_cases h1 : n = 1
    · subst h1
      have HE : Hid (fromR 1 i x ps = (x, decide (l = 0))) := by show _ = _; rw [fromR_one 1 i x ps (Nat.le_refl _), HL.out]
      by_cases hl : l = 0
      · subst hl
        go_enter Try.func38, Try.ntmps38
        go_wp2
        go_ret2
        exact ⟨by rw [HE.out]; rfl, Below.refl _ _⟩
      · have z0 : ((l : Int) == 0) = false := by simp; omega
        have z1 : decide (l = 0) = false := by simp; omega
        go_enter Try.func38, Try.ntmps38
        go_wp2
        go_ret2
        exact ⟨by rw [HE.out, z1]; rfl, Below.refl _ _⟩
    · have z1 : ((n : Int) == 1) = false := by simp; omega
      have z3 : ¬ (n : Int) = 1 := by omega
      by_cases hl : l = 0
      · subst hl
        have HE : Hid (fromR n i x ps = (0, false)) := fromR_nil n i x ps (by omega) HL.out
        go_enter Try.func38, Try.ntmps38
        go_wp2_with fail
        refine (cutTop_none a c _).mono ?_
        rintro e w1 ⟨rfl, hw⟩
        have hw2 := hw.symm
        subst hw2
        go_wp2
        go_ret2
        exact ⟨by rw [HE.out]; rfl, Below.refl _ _⟩
      · obtain ⟨m, rfl⟩ : ∃ m, l = m + 1 := ⟨l - 1, by omega⟩
        have zl0 : (((m + 1 : Nat) : Int) == 0) = false := by simp; omega
        have zl1 : ((m : Int) + 1 == 0) = false := by simp; omega
        have zl2 : ¬ (m : Int) + 1 = 0 := by omega
        obtain ⟨b, off, rfl, hlb, hc0⟩ := H0.out.get m (by omega)
        obtain ⟨p, hp⟩ : ∃ p, p = ps.getD m 0 := ⟨_, rfl⟩
        have HP : Hid (p = ps.getD m 0) := hp
        have hpb := H0.out.rng m
        rw [← hp] at hc0 hpb
        clear hp
        have j1 : ((m + 1 : Nat) : Int) - 1 = (m : Int) := by omega
        have j2 : IntKind.i64.wrap (m : Int) = (m : Int) := by rw [IntKind.wrap_i64]; omega
        have j4 : (m : Int) ≤ (c : Int) := by omega
        have j7 : (m : Int) < (m : Int) + 1 := by omega
        have hkl := hk_lt (show 2 ≤ n by omega)
        have hkp := hk_pos n
        obtain ⟨k, hkk⟩ : ∃ k, k = hk n := ⟨_, rfl⟩
        have HKK : Hid (k = hk n) := hkk
        rw [← hkk] at hkl hkp
        have HRW : Hid (∀ W, Below w.heap.size w W → RowU W (some ⟨b, off, none⟩) m (ps.take m)) := fun W hW => (H0.out.take m (by omega)).kept hW
        by_cases hik : i < k
        · have k1 : (i : Int) < (k : Int) := by omega
          have he := fromR_lo n i x ps (by omega) m HL.out (by rw [← hkk]; exact hik)
          rw [← hkk, ← HP.out] at he
          obtain ⟨v, hv⟩ : ∃ v, v = (fromR k i x (ps.take m)).1 := ⟨_, rfl⟩
          obtain ⟨ok, hok⟩ : ∃ ok, ok = (fromR k i x (ps.take m)).2 := ⟨_, rfl⟩
          have hvb := fromR_bd k i x (ps.take m) hx
          have ih2 := fun W (hW : Below w.heap.size w W) => ih k i x (some ⟨b, off, none⟩) m c (ps.take m) W (by omega) hkp hik (by omega) hx (HRW.out W hW) (by omega) hcm
          rw [← hv, ← hok] at ih2
          rw [← hv] at hvb
          rw [← hv, ← hok] at he
          have HE : Hid (fromR n i x ps = (pairN v p, ok)) := he
          have IH : Hid (_) := ih2
          clear hkk he hv hok ih2 ih HRW
          go_enter Try.func38, Try.ntmps38
          go_wp2_with fail
          refine (cutTop_more (some ⟨b, off, none⟩) m c ps _ H0.out hc hcm).mono ?_
          rintro e w1 ⟨rfl, hb1⟩
          rw [← HP.out]
          go_wp2_with fail
          refine (firstPart_any _ _ (by omega)).mono ?_
          rintro e w2 ⟨rfl, hw⟩
          have hw2 := hw.symm
          subst hw2
          rw [← HKK.out]
          go_wp2_with fail
          refine (IH.out _ hb1).mono ?_
          rintro e w3 ⟨rfl, hb3⟩
          go_wp2_with fail
          refine (pairOf_any v p _ hvb hpb).mono ?_
          rintro e w4 ⟨rfl, hb4⟩
          go_wp2
          go_ret2
          exact ⟨by rw [HE.out]; rfl, keepT (keepT hb1 hb3) hb4⟩
        · obtain ⟨q, rfl⟩ : ∃ q, i = k + q := ⟨i - k, by omega⟩
          obtain ⟨d, rfl⟩ : ∃ d, n = k + d := ⟨n - k, by omega⟩
          have k1 : ¬ (k : Int) + (q : Int) < (k : Int) := by omega
          have k2 : (k : Int) + (q : Int) - (k : Int) = (q : Int) := by omega
          have k3 : (k : Int) + (d : Int) - (k : Int) = (d : Int) := by omega
          have k4 : IntKind.i64.wrap (q : Int) = (q : Int) := by rw [IntKind.wrap_i64]; omega
          have k5 : IntKind.i64.wrap (d : Int) = (d : Int) := by rw [IntKind.wrap_i64]; omega
          have he := fromR_hi (k + d) (k + q) x ps (by omega) m HL.out (by rw [← hkk]; omega)
          rw [← hkk, ← HP.out, Nat.add_sub_cancel_left, Nat.add_sub_cancel_left] at he
          obtain ⟨v, hv⟩ : ∃ v, v = (fromR d q x (ps.take m)).1 := ⟨_, rfl⟩
          obtain ⟨ok, hok⟩ : ∃ ok, ok = (fromR d q x (ps.take m)).2 := ⟨_, rfl⟩
          have hvb := fromR_bd d q x (ps.take m) hx
          have ih2 := fun W (hW : Below w.heap.size w W) => ih d q x (some ⟨b, off, none⟩) m c (ps.take m) W (by omega) (by omega) (by omega) (by omega) hx (HRW.out W hW) (by omega) hcm
          rw [← hv, ← hok] at ih2
          rw [← hv] at hvb
          rw [← hv, ← hok] at he
          have HE : Hid (fromR (k + d) (k + q) x ps = (pairN p v, ok)) := he
          have IH : Hid (_) := ih2
          clear hkk he hv hok ih2 ih HRW
          go_enter Try.func38, Try.ntmps38
          go_wp2_with fail
          refine (cutTop_more (some ⟨b, off, none⟩) m c ps _ H0.out hc hcm).mono ?_
          rintro e w1 ⟨rfl, hb1⟩
          rw [← HP.out]
          go_wp2_with fail
          refine (firstPart_any _ _ (by omega)).mono ?_
          rintro e w2 ⟨rfl, hw⟩
          have hw2 := hw.symm
          subst hw2
          rw [← HKK.out]
          go_wp2_with fail
          refine (IH.out _ hb1).mono ?_
          rintro e w3 ⟨rfl, hb3⟩
          go_wp2_with fail
          refine (pairOf_any p v _ hpb hvb).mono ?_
          rintro e w4 ⟨rfl, hb4⟩
          go_wp2
          go_ret2
          exact ⟨by rw [HE.out]; rfl, keepT (keepT hb1 hb3) hb4⟩

end Go.Proofs.Ythncodopdcmfiaa

namespace Go.Proofs.Ythncodopdcmfiaa
open Go.RowKit Go.Sort

def ciP (root n i x : Int) (ps : List Int) : Bool :=
  if 1 ≤ n ∧ n ≤ 200 ∧ 0 ≤ i ∧ i ≤ n - 1 then (fromR n.toNat i.toNat x ps).2 && decide ((fromR n.toNat i.toNat x ps).1 = root) else false

set_option maxRecDepth 10000 in
set_option maxHeartbeats 1000000 in
theorem implCheckInclude_any (root n i x : Int) (a : Option Addr) (l c : Nat) (ps : List Int) (w : World) (hx : U64 x) (h : RowU w a l ps) (hc : l ≤ c) (hcm : c ≤ 9223372036854775807) :
    Calls Try.prog 12 #[.int .u64 root, .int .i64 n, .int .i64 i, .int .u64 x, .slice a l c] w fun e w' => e = .returned (.bool (ciP root n i x ps)) ∧ Below w.heap.size w w' := by
  have H0 : Hid (RowU w a l ps) := h
  clear h
  by_cases h1 : 1 ≤ n ∧ n ≤ 200
  · by_cases h2 : 0 ≤ i ∧ i ≤ n - 1
    · obtain ⟨n', rfl⟩ := Int.eq_ofNat_of_zero_le (show 0 ≤ n by omega)
      obtain ⟨i', rfl⟩ := Int.eq_ofNat_of_zero_le (show 0 ≤ i by omega)
      have HV : Hid (ciP root n' i' x ps = ((fromR n' i' x ps).2 && decide ((fromR n' i' x ps).1 = root))) := by show _ = _; unfold ciP; rw [if_pos ⟨h1.1, h1.2, h2.1, h2.2⟩]; rfl
      obtain ⟨v, hv⟩ : ∃ v, v = (fromR n' i' x ps).1 := ⟨_, rfl⟩
      obtain ⟨ok, hok⟩ : ∃ ok, ok = (fromR n' i' x ps).2 := ⟨_, rfl⟩
      have hr := fun W (hW : Below w.heap.size w W) => includedRoot_any n' n' i' x a l c ps W (Nat.le_refl _) (by omega) (by omega) (by omega) hx (H0.out.kept hW) hc hcm
      rw [← hv, ← hok] at hr HV
      have HR : Hid (_) := hr
      clear hv hok hr
      have u1 : IntKind.i64.wrap ((n' : Int) - 1) = (n' : Int) - 1 := by rw [IntKind.wrap_i64]; omega
      go_enter Try.func12, Try.ntmps12
      go_wp2_with fail
      refine (inBounds_t (n' : Int) 1 200 _ h1).mono ?_
      rintro e w1 ⟨rfl, hw⟩
      have hw2 := hw.symm
      subst hw2
      go_wp2_with fail
      refine (inBounds_t (i' : Int) 0 ((n' : Int) - 1) _ h2).mono ?_
      rintro e w1 ⟨rfl, hw⟩
      have hw2 := hw.symm
      subst hw2
      go_wp2_with fail
      refine (HR.out _ (Below.refl _ _)).mono ?_
      rintro e w1 ⟨rfl, hb1⟩
      cases ok with
      | false =>
        go_wp2
        go_ret
        exact ⟨by rw [HV.out]; rfl, hb1⟩
      | true =>
        by_cases hvr : v = root
        · subst hvr
          go_wp2
          go_ret
          exact ⟨by rw [HV.out]; simp, hb1⟩
        · have z1 : (v == root) = false := by simpa using hvr
          go_wp2
          go_ret
          exact ⟨by rw [HV.out]; simp [hvr], hb1⟩
    · have HV : Hid (ciP root n i x ps = false) := by show _ = _; unfold ciP; rw [if_neg (fun hh => h2 ⟨hh.2.2.1, hh.2.2.2⟩)]
      have u1 : IntKind.i64.wrap (n - 1) = n - 1 := by rw [IntKind.wrap_i64]; omega
      go_enter Try.func12, Try.ntmps12
      go_wp2_with fail
      refine (inBounds_t n 1 200 _ h1).mono ?_
      rintro e w1 ⟨rfl, hw⟩
      have hw2 := hw.symm
      subst hw2
      go_wp2_with fail
      refine (inBounds_f i 0 (n - 1) _ h2).mono ?_
      rintro e w1 ⟨rfl, hw⟩
      have hw2 := hw.symm
      subst hw2
      go_wp2
      go_ret
      exact ⟨by rw [HV.out]; rfl, Below.refl _ _⟩
  · have HV : Hid (ciP root n i x ps = false) := by show _ = _; unfold ciP; rw [if_neg (fun hh => h1 ⟨hh.1, hh.2.1⟩)]
    go_enter Try.func12, Try.ntmps12
    go_wp2_with fail
    refine (inBounds_f n 1 200 _ h1).mono ?_
    rintro e w1 ⟨rfl, hw⟩
    have hw2 := hw.symm
    subst hw2
    go_wp2
    go_ret
    exact ⟨by rw [HV.out]; rfl, Below.refl _ _⟩

end Go.Proofs.Ythncodopdcmfiaa

namespace Go.Proofs.Ythncodopdcmfiaa
open Go.RowKit Go.Sort

/-- What stands beside the way from the digest at i to the root. -/
def incL (zs : List Int) (i : Nat) : List Int :=
  if _h1 : zs.length ≤ 1 then []
  else if i < hk zs.length then incL (zs.take (hk zs.length)) i ++ [rootL (zs.drop (hk zs.length))]
  else incL (zs.drop (hk zs.length)) (i - hk zs.length) ++ [rootL (zs.take (hk zs.length))]
termination_by zs.length
decreasing_by
  · rw [List.length_take]; have := hk_lt (show 2 ≤ zs.length by omega); omega
  · rw [List.length_drop]; have := hk_pos zs.length; omega
theorem incL_one (zs : List Int) (i : Nat) (h : zs.length ≤ 1) : incL zs i = [] := by rw [incL, dif_pos h]
theorem incL_lo (zs : List Int) (i : Nat) (h : 2 ≤ zs.length) (hi : i < hk zs.length) : incL zs i = incL (zs.take (hk zs.length)) i ++ [rootL (zs.drop (hk zs.length))] := by
  conv => lhs; rw [incL]
  rw [dif_neg (by omega), if_pos hi]
theorem incL_hi (zs : List Int) (i : Nat) (h : 2 ≤ zs.length) (hi : ¬ i < hk zs.length) : incL zs i = incL (zs.drop (hk zs.length)) (i - hk zs.length) ++ [rootL (zs.take (hk zs.length))] := by
  conv => lhs; rw [incL]
  rw [dif_neg (by omega), if_neg hi]
theorem incL_len : ∀ (N : Nat) (zs : List Int) (i : Nat), zs.length ≤ N → (incL zs i).length ≤ zs.length := by
  intro N
  induction N with
  | zero => intro zs i h; rw [incL_one zs i (by omega)]; simp
  | succ N ih =>
    intro zs i h
    by_cases h1 : zs.length ≤ 1
    · rw [incL_one zs i h1]; simp
    · have hl := hk_lt (show 2 ≤ zs.length by omega)
      have hp := hk_pos zs.length
      by_cases hi : i < hk zs.length
      · rw [incL_lo zs i (by omega) hi, List.length_append]
        have := ih (zs.take (hk zs.length)) i (by rw [List.length_take]; omega)
        rw [List.length_take] at this
        simp; omega
      · rw [incL_hi zs i (by omega) hi, List.length_append]
        have := ih (zs.drop (hk zs.length)) (i - hk zs.length) (by rw [List.length_drop]; omega)
        rw [List.length_drop] at this
        simp; omega
/-- What shows that the first m are a beginning. -/
def extL (zs : List Int) (m : Nat) (fl : Bool) : List Int :=
  if _h1 : zs.length ≤ m ∨ zs.length ≤ 1 then (if fl then [] else [rootL zs])
  else if m ≤ hk zs.length then extL (zs.take (hk zs.length)) m fl ++ [rootL (zs.drop (hk zs.length))]
  else extL (zs.drop (hk zs.length)) (m - hk zs.length) false ++ [rootL (zs.take (hk zs.length))]
termination_by zs.length
decreasing_by
  · rw [List.length_take]; have := hk_lt (show 2 ≤ zs.length by omega); omega
  · rw [List.length_drop]; have := hk_pos zs.length; omega
theorem extL_all (zs : List Int) (m : Nat) (fl : Bool) (h : zs.length ≤ m ∨ zs.length ≤ 1) : extL zs m fl = if fl then [] else [rootL zs] := by rw [extL, dif_pos h]
theorem extL_lo (zs : List Int) (m : Nat) (fl : Bool) (h : 2 ≤ zs.length) (hm : m < zs.length) (hi : m ≤ hk zs.length) : extL zs m fl = extL (zs.take (hk zs.length)) m fl ++ [rootL (zs.drop (hk zs.length))] := by
  conv => lhs; rw [extL]
  rw [dif_neg (by omega), if_pos hi]
theorem extL_hi (zs : List Int) (m : Nat) (fl : Bool) (h : 2 ≤ zs.length) (hm : m < zs.length) (hi : ¬ m ≤ hk zs.length) : extL zs m fl = extL (zs.drop (hk zs.length)) (m - hk zs.length) false ++ [rootL (zs.take (hk zs.length))] := by
  conv => lhs; rw [extL]
  rw [dif_neg (by omega), if_neg hi]
theorem extL_len : ∀ (N : Nat) (zs : List Int) (m : Nat) (fl : Bool), zs.length ≤ N → (extL zs m fl).length ≤ zs.length + 1 := by
  intro N
  induction N with
  | zero => intro zs m fl h; rw [extL_all zs m fl (by omega)]; split <;> simp
  | succ N ih =>
    intro zs m fl h
    by_cases h1 : zs.length ≤ m ∨ zs.length ≤ 1
    · rw [extL_all zs m fl h1]; split <;> simp
    · have hl := hk_lt (show 2 ≤ zs.length by omega)
      have hp := hk_pos zs.length
      by_cases hi : m ≤ hk zs.length
      · rw [extL_lo zs m fl (by omega) (by omega) hi, List.length_append]
        have := ih (zs.take (hk zs.length)) m fl (by rw [List.length_take]; omega)
        rw [List.length_take] at this
        simp; omega
      · rw [extL_hi zs m fl (by omega) (by omega) hi, List.length_append]
        have := ih (zs.drop (hk zs.length)) (m - hk zs.length) false (by rw [List.length_drop]; omega)
        rw [List.length_drop] at this
        simp; omega
theorem rowU_lit1 (w : World) (x : Int) (hx : U64 x) : OwnU w.heap.size (w.alloc (.cells #[.int .u64 x] 27)) (some ⟨w.heap.size, 0, none⟩) 1 1 [x] :=
  ⟨World.ownsRow_lit w #[.int .u64 x] 1 (Nat.le_refl _) (by unfold maxLen; omega) rfl, fun k => by
    match k with
    | 0 => exact hx
    | k + 1 => simp [U64]⟩

end Go.Proofs.Ythncodopdcmfiaa

namespace Go.Proofs.Ythncodopdcmfiaa
open Go.RowKit Go.Sort

set_option maxRecDepth 10000 in
set_option maxHeartbeats 2000000 in
theorem includeProof_any : ∀ (N : Nat) (a : Option Addr) (n c : Nat) (zs : List Int) (i : Nat) (w : World), n ≤ N → RowU w a n zs → 0 < n → i < n → n ≤ 1000 → n ≤ c → c ≤ 9223372036854775807 →
    Calls Try.prog 35 #[.slice a n c, .int .i64 i] w fun e w' => ∃ a' c', e = .returned (.slice a' (incL zs i).length c') ∧ OwnU w.heap.size w' a' (incL zs i).length c' (incL zs i) ∧ Below w.heap.size w w' := by
  intro N
  induction N with
  | zero => intro a n c zs i w hN h h0; omega
  | succ N ih =>
    intro a n c zs i w hN h h0 hin hn hc hcm
    obtain ⟨i0, hi, hz0, hz1, hz2⟩ := info_parts Try.infoU
    have H0 : Hid (RowU w a n zs) := h
    have HL : Hid (zs.length = n) := h.len
    obtain ⟨b, off, rfl, hlb, hc0⟩ := h.get 0 (by omega)
    clear h hc0
    by_cases h1 : n = 1
    · subst h1
      have HE : Hid (incL zs i = []) := incL_one zs i (by rw [HL.out]; exact Nat.le_refl _)
      have hoe := ownU_none w.heap.size w
      have hbe := Below.refl w.heap.size w
      go_enter Try.func35, Try.ntmps35
      go_wp2
      go_ret
      exact ⟨_, _, by rw [HE.out]; rfl, by rw [HE.out]; exact hoe, hbe⟩
    · have z1 : ((n : Int) == 1) = false := by simp; omega
      have z3 : ¬ (n : Int) = 1 := by omega
      have hkl := hk_lt (show 2 ≤ n by omega)
      have hkp := hk_pos n
      obtain ⟨k, hkk⟩ : ∃ k, k = hk n := ⟨_, rfl⟩
      have HKK : Hid (k = hk n) := hkk
      have HKZ : Hid (hk zs.length = k) := by show _ = _; rw [HL.out, hkk]
      rw [← hkk] at hkl hkp
      clear hkk
      have i1 : (k : Int) ≤ (n : Int) := by omega
      have i2 : (k : Int) ≤ (c : Int) := by omega
      have i3 : ¬ (k : Int) = (c : Int) := by omega
      have i4 : ¬ k = c := by omega
      have i5 : k < c := by omega
      have i6 : ¬ c = k := by omega
      have hdr : Below w.heap.size w w.drew := (Below.refl _ _).drew
      have H1 : Hid (∀ W, Below w.heap.size w W → RowU W (some ⟨b, off, none⟩) k (zs.take k)) := fun W hW => (H0.out.take k (by omega)).kept hW
      have H2 : Hid (∀ W, Below w.heap.size w W → RowU W (some ⟨b, off + k, none⟩) (n - k) (zs.drop k)) := fun W hW => (H0.out.drop k (by omega)).kept hW
      by_cases hik : i < k
      · have j1 : (i : Int) < (k : Int) := by omega
        obtain ⟨r, hr⟩ : ∃ r, r = rootL (zs.drop k) := ⟨_, rfl⟩
        have HR : Hid (r = rootL (zs.drop k)) := hr
        have HRB : Hid (U64 r) := by show U64 r; rw [hr]; exact rootL_bd _ (u64_drop H0.out.rng k)
        have HE : Hid (incL zs i = incL (zs.take k) i ++ [r]) := by show _ = _; rw [incL_lo zs i (by rw [HL.out]; omega) (by rw [HKZ.out]; exact hik), HKZ.out, hr]
        obtain ⟨L, hL⟩ : ∃ L, L = (incL (zs.take k) i).length := ⟨_, rfl⟩
        have HLL : Hid ((incL (zs.take k) i).length = L) := hL.symm
        have hLb : L ≤ 1001 := by have := incL_len _ (zs.take k) i (Nat.le_refl _); rw [List.length_take, HL.out] at this; omega
        have ih2 := fun W (hW : Below w.heap.size w W) => ih (some ⟨b, off, none⟩) k c (zs.take k) i W (by omega) (H1.out W hW) hkp hik (by omega) (by omega) hcm
        rw [← hL] at ih2
        have IH : Hid (_) := ih2
        clear hL hr ih ih2 H0
        go_enter Try.func35, Try.ntmps35
        go_wp2_with fail
        refine (firstPart_any n _ (by omega)).mono ?_
        rintro e w1 ⟨rfl, hw⟩
        have hw2 := hw.symm
        subst hw2
        rw [← HKK.out]
        go_wp2_with fail
        go_region_held_law (fun _ => True) (first | trivial)
          (first
            | (go_at_call 35; (try rw [if_neg i6]); (try rw [j6]); refine (IH.out _ hdr).mono ?_; rintro e w1 ⟨a1, c1, rfl, ho1, hb1⟩; have hb1' := keepT hdr hb1)
            | (go_at_call 32; (try rw [if_neg i6]); refine (rootOf_any (some ⟨b, off + k, none⟩) (n - k) (c - k) (zs.drop k) _ (H2.out _ hb1') (by omega)).mono ?_; rintro e w2 ⟨rfl, hb2⟩; rw [← HR.out]; have hb2' := keepT hb1' hb2; have hal : Below w2.heap.size w2 (w2.alloc (.cells #[.int .u64 r] 27)) := (Below.refl _ _).alloc (Nat.le_refl _) _; have hb3 := keepT hb2' hal; have hor := ho1.kept (keepT hb2 hal); have hcl := cell_oneU w2 r)
            | (refine step_append_ownT rfl (.tmp 19) (.tmp 24) 24 rfl w.heap.size 27 i0 _ 1 8 Try.underlying24 hi hz0 hz1 hz2 rfl (by decide) _ L _ rfl hor.row ⟨w2.heap.size, 0, none⟩ 1 1 ([r].map (Value.int .u64)) rfl rfl hcl (ints_oneCell .u64 [r]) (by unfold maxLen; omega) (by omega) (by have := hb3.size; exact this) ?_; intro v4 w4 hv4 hg4))
        all_goals
          rw [← List.map_append] at hv4
          obtain ⟨a4, c4, rfl, ho4⟩ := ownU_appended (u64_snoc hor.rng HRB.out) hv4
          have hb4 : Below w.heap.size w w4 := hb3.grown hg4 hb3.size (fun k hk => (hor.row.lt k hk).1)
          go_wp2
          go_ret
          exact ⟨a4, c4, by rw [HE.out, List.length_append, HLL.out]; simp [Array.getD], by rw [HE.out, List.length_append, HLL.out]; exact ho4, hb4⟩
      · have j1 : ¬ (i : Int) < (k : Int) := by omega
        obtain ⟨q, rfl⟩ : ∃ q, i = k + q := ⟨i - k, by omega⟩
        have j2 : ((k + q : Nat) : Int) - (k : Int) = (q : Int) := by omega
        have j3 : IntKind.i64.wrap (((k + q : Nat) : Int) - (k : Int)) = (q : Int) := by rw [j2, IntKind.wrap_i64]; omega
        have j4 : IntKind.i64.wrap ((k : Int) + (q : Int) - (k : Int)) = (q : Int) := by rw [IntKind.wrap_i64]; omega
        have j5 : (k : Int) + (q : Int) - (k : Int) = (q : Int) := by omega
        have j6 : IntKind.i64.wrap (q : Int) = (q : Int) := by rw [IntKind.wrap_i64]; omega
        obtain ⟨r, hr⟩ : ∃ r, r = rootL (zs.take k) := ⟨_, rfl⟩
        have HR : Hid (r = rootL (zs.take k)) := hr
        have HRB : Hid (U64 r) := by show U64 r; rw [hr]; exact rootL_bd _ (u64_take H0.out.rng k)
        have HE : Hid (incL zs (k + q) = incL (zs.drop k) q ++ [r]) := by show _ = _; rw [incL_hi zs (k + q) (by rw [HL.out]; omega) (by rw [HKZ.out]; omega), HKZ.out, hr, Nat.add_sub_cancel_left]
        obtain ⟨L, hL⟩ : ∃ L, L = (incL (zs.drop k) q).length := ⟨_, rfl⟩
        have HLL : Hid ((incL (zs.drop k) q).length = L) := hL.symm
        have hLb : L ≤ 1001 := by have := incL_len _ (zs.drop k) q (Nat.le_refl _); rw [List.length_drop, HL.out] at this; omega
        have ih2 := fun W (hW : Below w.heap.size w W) => ih (some ⟨b, off + k, none⟩) (n - k) (c - k) (zs.drop k) q W (by omega) (H2.out W hW) (by omega) (by omega) (by omega) (by omega) (by omega)
        rw [← hL] at ih2
        have IH : Hid (_) := ih2
        clear hL hr ih ih2 H0
        go_enter Try.func35, Try.ntmps35
        go_wp2_with fail
        refine (firstPart_any n _ (by omega)).mono ?_
        rintro e w1 ⟨rfl, hw⟩
        have hw2 := hw.symm
        subst hw2
        rw [← HKK.out]
        go_wp2_with fail
        go_region_held_law (fun _ => True) (first | trivial)
          (first
            | (go_at_call 35; (try rw [if_neg i6]); (try rw [j6]); refine (IH.out _ hdr).mono ?_; rintro e w1 ⟨a1, c1, rfl, ho1, hb1⟩; have hb1' := keepT hdr hb1)
            | (go_at_call 32; (try rw [if_neg i6]); refine (rootOf_any (some ⟨b, off, none⟩) k c (zs.take k) _ (H1.out _ hb1') (by omega)).mono ?_; rintro e w2 ⟨rfl, hb2⟩; rw [← HR.out]; have hb2' := keepT hb1' hb2; have hal : Below w2.heap.size w2 (w2.alloc (.cells #[.int .u64 r] 27)) := (Below.refl _ _).alloc (Nat.le_refl _) _; have hb3 := keepT hb2' hal; have hor := ho1.kept (keepT hb2 hal); have hcl := cell_oneU w2 r)
            | (refine step_append_ownT rfl (.tmp 32) (.tmp 37) 24 rfl w.heap.size 27 i0 _ 1 8 Try.underlying24 hi hz0 hz1 hz2 rfl (by decide) _ L _ rfl hor.row ⟨w2.heap.size, 0, none⟩ 1 1 ([r].map (Value.int .u64)) rfl rfl hcl (ints_oneCell .u64 [r]) (by unfold maxLen; omega) (by omega) (by have := hb3.size; exact this) ?_; intro v4 w4 hv4 hg4))
        all_goals
          rw [← List.map_append] at hv4
          obtain ⟨a4, c4, rfl, ho4⟩ := ownU_appended (u64_snoc hor.rng HRB.out) hv4
          have hb4 : Below w.heap.size w w4 := hb3.grown hg4 hb3.size (fun k hk => (hor.row.lt k hk).1)
          go_wp2
          go_ret
          exact ⟨a4, c4, by rw [HE.out, List.length_append, HLL.out]; simp [Array.getD], by rw [HE.out, List.length_append, HLL.out]; exact ho4, hb4⟩

end Go.Proofs.Ythncodopdcmfiaa

namespace Go.Proofs.Ythncodopdcmfiaa
open Go.RowKit Go.Sort

set_option maxRecDepth 10000 in
set_option maxHeartbeats 2000000 in
theorem l15Include_any : ∀ (N : Nat) (a : Option Addr) (n c : Nat) (zs : List Int) (i : Nat) (w : World), n ≤ N → RowU w a n zs → 0 < n → i < n → n ≤ 1000 → n ≤ c → c ≤ 9223372036854775807 →
    Calls Try.prog 64 #[.slice a n c, .int .i64 i] w fun e w' => ∃ a' c', e = .returned (.slice a' (incL zs i).length c') ∧ OwnU w.heap.size w' a' (incL zs i).length c' (incL zs i) ∧ Below w.heap.size w w' := by
  intro N
  induction N with
  | zero => intro a n c zs i w hN h h0; omega
  | succ N ih =>
    intro a n c zs i w hN h h0 hin hn hc hcm
    obtain ⟨i0, hi, hz0, hz1, hz2⟩ := info_parts Try.infoU
    have H0 : Hid (RowU w a n zs) := h
    have HL : Hid (zs.length = n) := h.len
    obtain ⟨b, off, rfl, hlb, hc0⟩ := h.get 0 (by omega)
    clear h hc0
    by_cases h1 : n = 1
    · subst h1
      have HE : Hid (incL zs i = []) := incL_one zs i (by rw [HL.out]; exact Nat.le_refl _)
      have hoe := ownU_empty w
      have hbe : Below w.heap.size w (w.alloc (.cells #[] 27)) := (Below.refl _ _).alloc (Nat.le_refl _) _
      go_enter Try.func64, Try.ntmps64
      go_wp2
      go_ret
      exact ⟨_, _, by rw [HE.out]; rfl, by rw [HE.out]; exact hoe, hbe⟩
    · have z1 : ((n : Int) == 1) = false := by simp; omega
      have z3 : ¬ (n : Int) = 1 := by omega
      have hkl := hk_lt (show 2 ≤ n by omega)
      have hkp := hk_pos n
      obtain ⟨k, hkk⟩ : ∃ k, k = hk n := ⟨_, rfl⟩
      have HKK : Hid (k = hk n) := hkk
      have HKZ : Hid (hk zs.length = k) := by show _ = _; rw [HL.out, hkk]
      rw [← hkk] at hkl hkp
      clear hkk
      have i1 : (k : Int) ≤ (n : Int) := by omega
      have i2 : (k : Int) ≤ (c : Int) := by omega
      have i3 : ¬ (k : Int) = (c : Int) := by omega
      have i4 : ¬ k = c := by omega
      have i5 : k < c := by omega
      have i6 : ¬ c = k := by omega
      have hdr : Below w.heap.size w w.drew := (Below.refl _ _).drew
      have H1 : Hid (∀ W, Below w.heap.size w W → RowU W (some ⟨b, off, none⟩) k (zs.take k)) := fun W hW => (H0.out.take k (by omega)).kept hW
      have H2 : Hid (∀ W, Below w.heap.size w W → RowU W (some ⟨b, off + k, none⟩) (n - k) (zs.drop k)) := fun W hW => (H0.out.drop k (by omega)).kept hW
      by_cases hik : i < k
      · have j1 : (i : Int) < (k : Int) := by omega
        obtain ⟨r, hr⟩ : ∃ r, r = rootL (zs.drop k) := ⟨_, rfl⟩
        have HR : Hid (r = rootL (zs.drop k)) := hr
        have HRB : Hid (U64 r) := by show U64 r; rw [hr]; exact rootL_bd _ (u64_drop H0.out.rng k)
        have HE : Hid (incL zs i = incL (zs.take k) i ++ [r]) := by show _ = _; rw [incL_lo zs i (by rw [HL.out]; omega) (by rw [HKZ.out]; exact hik), HKZ.out, hr]
        obtain ⟨L, hL⟩ : ∃ L, L = (incL (zs.take k) i).length := ⟨_, rfl⟩
        have HLL : Hid ((incL (zs.take k) i).length = L) := hL.symm
        have hLb : L ≤ 1001 := by have := incL_len _ (zs.take k) i (Nat.le_refl _); rw [List.length_take, HL.out] at this; omega
        have ih2 := fun W (hW : Below w.heap.size w W) => ih (some ⟨b, off, none⟩) k c (zs.take k) i W (by omega) (H1.out W hW) hkp hik (by omega) (by omega) hcm
        rw [← hL] at ih2
        have IH : Hid (_) := ih2
        clear hL hr ih ih2 H0
        go_enter Try.func64, Try.ntmps64
        go_wp2_with fail
        refine (l15Half_any n _ (by omega)).mono ?_
        rintro e w1 ⟨rfl, hw⟩
        have hw2 := hw.symm
        subst hw2
        rw [← HKK.out]
        go_wp2_with fail
        go_region_held_law (fun _ => True) (first | trivial)
          (first
            | (go_at_call 64; (try rw [if_neg i6]); (try rw [j6]); refine (IH.out _ hdr).mono ?_; rintro e w1 ⟨a1, c1, rfl, ho1, hb1⟩; have hb1' := keepT hdr hb1)
            | (go_at_call 33; (try rw [if_neg i6]); refine (l15Root_any (n - k) (some ⟨b, off + k, none⟩) (n - k) (c - k) (zs.drop k) _ (Nat.le_refl _) (H2.out _ hb1') (by omega) (by omega) (by omega)).mono ?_; rintro e w2 ⟨rfl, hb2⟩; rw [← HR.out]; have hb2' := keepT hb1' hb2; have hal : Below w2.heap.size w2 (w2.alloc (.cells #[.int .u64 r] 27)) := (Below.refl _ _).alloc (Nat.le_refl _) _; have hb3 := keepT hb2' hal; have hor := ho1.kept (keepT hb2 hal); have hcl := cell_oneU w2 r)
            | (refine step_append_ownT rfl (.tmp 20) (.tmp 25) 24 rfl w.heap.size 27 i0 _ 1 8 Try.underlying24 hi hz0 hz1 hz2 rfl (by decide) _ L _ rfl hor.row ⟨w2.heap.size, 0, none⟩ 1 1 ([r].map (Value.int .u64)) rfl rfl hcl (ints_oneCell .u64 [r]) (by unfold maxLen; omega) (by omega) (by have := hb3.size; exact this) ?_; intro v4 w4 hv4 hg4))
        all_goals
          rw [← List.map_append] at hv4
          obtain ⟨a4, c4, rfl, ho4⟩ := ownU_appended (u64_snoc hor.rng HRB.out) hv4
          have hb4 : Below w.heap.size w w4 := hb3.grown hg4 hb3.size (fun k hk => (hor.row.lt k hk).1)
          go_wp2
          go_ret
          exact ⟨a4, c4, by rw [HE.out, List.length_append, HLL.out]; simp [Array.getD], by rw [HE.out, List.length_append, HLL.out]; exact ho4, hb4⟩
      · have j1 : ¬ (i : Int) < (k : Int) := by omega
        obtain ⟨q, rfl⟩ : ∃ q, i = k + q := ⟨i - k, by omega⟩
        have j2 : ((k + q : Nat) : Int) - (k : Int) = (q : Int) := by omega
        have j3 : IntKind.i64.wrap (((k + q : Nat) : Int) - (k : Int)) = (q : Int) := by rw [j2, IntKind.wrap_i64]; omega
        have j4 : IntKind.i64.wrap ((k : Int) + (q : Int) - (k : Int)) = (q : Int) := by rw [IntKind.wrap_i64]; omega
        have j5 : (k : Int) + (q : Int) - (k : Int) = (q : Int) := by omega
        have j6 : IntKind.i64.wrap (q : Int) = (q : Int) := by rw [IntKind.wrap_i64]; omega
        obtain ⟨r, hr⟩ : ∃ r, r = rootL (zs.take k) := ⟨_, rfl⟩
        have HR : Hid (r = rootL (zs.take k)) := hr
        have HRB : Hid (U64 r) := by show U64 r; rw [hr]; exact rootL_bd _ (u64_take H0.out.rng k)
        have HE : Hid (incL zs (k + q) = incL (zs.drop k) q ++ [r]) := by show _ = _; rw [incL_hi zs (k + q) (by rw [HL.out]; omega) (by rw [HKZ.out]; omega), HKZ.out, hr, Nat.add_sub_cancel_left]
        obtain ⟨L, hL⟩ : ∃ L, L = (incL (zs.drop k) q).length := ⟨_, rfl⟩
        have HLL : Hid ((incL (zs.drop k) q).length = L) := hL.symm
        have hLb : L ≤ 1001 := by have := incL_len _ (zs.drop k) q (Nat.le_refl _); rw [List.length_drop, HL.out] at this; omega
        have ih2 := fun W (hW : Below w.heap.size w W) => ih (some ⟨b, off + k, none⟩) (n - k) (c - k) (zs.drop k) q W (by omega) (H2.out W hW) (by omega) (by omega) (by omega) (by omega) (by omega)
        rw [← hL] at ih2
        have IH : Hid (_) := ih2
        clear hL hr ih ih2 H0
        go_enter Try.func64, Try.ntmps64
        go_wp2_with fail
        refine (l15Half_any n _ (by omega)).mono ?_
        rintro e w1 ⟨rfl, hw⟩
        have hw2 := hw.symm
        subst hw2
        rw [← HKK.out]
        go_wp2_with fail
        go_region_held_law (fun _ => True) (first | trivial)
          (first
            | (go_at_call 64; (try rw [if_neg i6]); (try rw [j6]); refine (IH.out _ hdr).mono ?_; rintro e w1 ⟨a1, c1, rfl, ho1, hb1⟩; have hb1' := keepT hdr hb1)
            | (go_at_call 33; (try rw [if_neg i6]); refine (l15Root_any k (some ⟨b, off, none⟩) k c (zs.take k) _ (Nat.le_refl _) (H1.out _ hb1') (by omega) (by omega) hcm).mono ?_; rintro e w2 ⟨rfl, hb2⟩; rw [← HR.out]; have hb2' := keepT hb1' hb2; have hal : Below w2.heap.size w2 (w2.alloc (.cells #[.int .u64 r] 27)) := (Below.refl _ _).alloc (Nat.le_refl _) _; have hb3 := keepT hb2' hal; have hor := ho1.kept (keepT hb2 hal); have hcl := cell_oneU w2 r)
            | (refine step_append_ownT rfl (.tmp 33) (.tmp 38) 24 rfl w.heap.size 27 i0 _ 1 8 Try.underlying24 hi hz0 hz1 hz2 rfl (by decide) _ L _ rfl hor.row ⟨w2.heap.size, 0, none⟩ 1 1 ([r].map (Value.int .u64)) rfl rfl hcl (ints_oneCell .u64 [r]) (by unfold maxLen; omega) (by omega) (by have := hb3.size; exact this) ?_; intro v4 w4 hv4 hg4))
        all_goals
          rw [← List.map_append] at hv4
          obtain ⟨a4, c4, rfl, ho4⟩ := ownU_appended (u64_snoc hor.rng HRB.out) hv4
          have hb4 : Below w.heap.size w w4 := hb3.grown hg4 hb3.size (fun k hk => (hor.row.lt k hk).1)
          go_wp2
          go_ret
          exact ⟨a4, c4, by rw [HE.out, List.length_append, HLL.out]; simp [Array.getD], by rw [HE.out, List.length_append, HLL.out]; exact ho4, hb4⟩

end Go.Proofs.Ythncodopdcmfiaa

namespace Go.Proofs.Ythncodopdcmfiaa
open Go.RowKit Go.Sort

theorem OwnU.blk {B : Nat} {w : World} {a : Option Addr} {n cap : Nat} {zs : List Int} (h : OwnU B w a n cap zs) : ∀ x, a = some x → B ≤ x.block ∧ x.block < w.heap.size := by
  intro x hx
  subst hx
  exact h.row.lt x.block rfl
theorem RowU.grownU {w w' : World} {a b : Option Addr} {n cap m : Nat} {ys : List Int} (h : RowU w b m ys) (hg : w.grownBy w' (Value.slice a n cap).ownBlock) (hne : ∀ x y, a = some x → b = some y → x.block ≠ y.block) : RowU w' b m ys := by
  refine ⟨h.len, fun k hk => ?_, h.rng⟩
  obtain ⟨b', off, rfl, hlt, hc⟩ := h.get k hk
  refine ⟨b', off, rfl, Nat.lt_of_lt_of_le hlt hg.size, (World.cell?_of_block (a := ⟨b', off + k, none⟩) (hg.block b' hlt (fun e => ?_))).trans hc⟩
  cases a with
  | none => simp [Value.ownBlock] at e
  | some x => simp [Value.ownBlock] at e; exact hne x _ rfl rfl e.symm
theorem OwnU.grownU {B : Nat} {w w' : World} {a b : Option Addr} {n cap m c : Nat} {ys : List Int} (h : OwnU B w b m c ys) (hg : w.grownBy w' (Value.slice a n cap).ownBlock) (hne : ∀ x y, a = some x → b = some y → x.block ≠ y.block) : OwnU B w' b m c ys := by
  refine ⟨h.row.kept hg ?_, h.rng⟩
  cases b with
  | none => exact .inl rfl
  | some y =>
    refine .inr (fun e => ?_)
    cases a with
    | none => simp [Value.ownBlock] at e
    | some x => simp [Value.ownBlock] at e; exact hne x y rfl rfl e.symm
theorem below_grownU {B : Nat} {w0 w w' : World} {a : Option Addr} {n cap : Nat} (hb : Below B w0 w) (hB : B ≤ w.heap.size) (hg : w.grownBy w' (Value.slice a n cap).ownBlock) (ha : ∀ x, a = some x → B ≤ x.block) : Below B w0 w' := by
  refine hb.grown hg hB (fun k hk => ?_)
  cases a with
  | none => simp [Value.ownBlock] at hk
  | some x => simp [Value.ownBlock] at hk; subst hk; exact ha x rfl

end Go.Proofs.Ythncodopdcmfiaa

namespace Go.Proofs.Ythncodopdcmfiaa
open Go.RowKit Go.Sort

def incR (zs : List Int) (i : Int) : List Int × Bool := if zs.length ≤ 200 ∧ 0 ≤ i ∧ i < zs.length then (incL zs i.toNat, true) else ([], false)
theorem incR_le (zs : List Int) (i : Int) : (incR zs i).1.length ≤ 1002 := by
  unfold incR
  split
  · rename_i h
    have := incL_len _ zs i.toNat (Nat.le_refl _)
    show (incL zs i.toNat).length ≤ _
    omega
  · exact Nat.zero_le _

set_option maxRecDepth 10000 in
set_option maxHeartbeats 1000000 in
theorem specInclude_any (a : Option Addr) (n c : Nat) (zs : List Int) (i : Int) (w : World) (h : RowU w a n zs) (hn : n ≤ 1048576) (hc : n ≤ c) (hcm : c ≤ 9223372036854775807) :
    Calls Try.prog 39 #[.slice a n c, .int .i64 i] w fun e w' => ∃ a' c', e = .returned (.tuple #[.slice a' (incR zs i).1.length c', .bool (incR zs i).2]) ∧ OwnU w.heap.size w' a' (incR zs i).1.length c' (incR zs i).1 ∧ Below w.heap.size w w' := by
  have H0 : Hid (RowU w a n zs) := h
  have HL : Hid (zs.length = n) := h.len
  clear h
  by_cases hg : n ≤ 200 ∧ 0 ≤ i ∧ i < n
  · obtain ⟨k, rfl⟩ := Int.eq_ofNat_of_zero_le (show 0 ≤ i by omega)
    have HV : Hid (incR zs k = (incL zs k, true)) := by show _ = _; unfold incR; rw [if_pos (by rw [HL.out]; exact hg)]; rfl
    have hg1 : ¬ (200 : Int) < (n : Int) := by omega
    have hg2 : ¬ (k : Int) < 0 := by omega
    have hg3 : ¬ (n : Int) ≤ (k : Int) := by omega
    have u1 : IntKind.i64.wrap ((n : Int) - 1) = (n : Int) - 1 := by rw [IntKind.wrap_i64]; omega
    go_enter Try.func39, Try.ntmps39
    go_wp2_with fail
    refine (l15Include_any n a n c zs k _ (Nat.le_refl _) H0.out (by omega) (by omega) (by omega) hc hcm).mono ?_
    rintro e w1 ⟨a1, c1, rfl, ho1, hb1⟩
    go_wp2
    go_ret2
    exact ⟨a1, c1, by rw [HV.out]; rfl, by rw [HV.out]; exact ho1, hb1⟩
  · have HV : Hid (incR zs i = ([], false)) := by show _ = _; unfold incR; rw [if_neg (by rw [HL.out]; exact hg)]
    have hoe := ownU_empty w
    have hbe : Below w.heap.size w (w.alloc (.cells #[] 27)) := (Below.refl _ _).alloc (Nat.le_refl _) _
    by_cases hb : (200 : Int) < (n : Int)
    · go_enter Try.func39, Try.ntmps39
      go_wp2
      go_ret2
      exact ⟨_, _, by rw [HV.out]; rfl, by rw [HV.out]; exact hoe, hbe⟩
    · by_cases hb2 : i < 0
      · go_enter Try.func39, Try.ntmps39
        go_wp2
        go_ret2
        exact ⟨_, _, by rw [HV.out]; rfl, by rw [HV.out]; exact hoe, hbe⟩
      · have hb3 : (n : Int) ≤ i := by omega
        go_enter Try.func39, Try.ntmps39
        go_wp2
        go_ret2
        exact ⟨_, _, by rw [HV.out]; rfl, by rw [HV.out]; exact hoe, hbe⟩

set_option maxRecDepth 10000 in
set_option maxHeartbeats 1000000 in
theorem implInclude_any (a : Option Addr) (n c : Nat) (zs : List Int) (i : Int) (w : World) (h : RowU w a n zs) (hn : n ≤ 1048576) (hc : n ≤ c) (hcm : c ≤ 9223372036854775807) :
    Calls Try.prog 10 #[.slice a n c, .int .i64 i] w fun e w' => ∃ a' c', e = .returned (.tuple #[.slice a' (incR zs i).1.length c', .bool (incR zs i).2]) ∧ OwnU w.heap.size w' a' (incR zs i).1.length c' (incR zs i).1 ∧ Below w.heap.size w w' := by
  have H0 : Hid (RowU w a n zs) := h
  have HL : Hid (zs.length = n) := h.len
  clear h
  by_cases hg : n ≤ 200 ∧ 0 ≤ i ∧ i < n
  · obtain ⟨k, rfl⟩ := Int.eq_ofNat_of_zero_le (show 0 ≤ i by omega)
    have HV : Hid (incR zs k = (incL zs k, true)) := by show _ = _; unfold incR; rw [if_pos (by rw [HL.out]; exact hg)]; rfl
    have hg1 : ¬ (200 : Int) < (n : Int) := by omega
    have hg2 : ¬ (k : Int) < 0 := by omega
    have hg3 : ¬ (n : Int) ≤ (k : Int) := by omega
    have u1 : IntKind.i64.wrap ((n : Int) - 1) = (n : Int) - 1 := by rw [IntKind.wrap_i64]; omega
    go_enter Try.func10, Try.ntmps10
    go_wp2_with fail
    refine (inBounds_t (k : Int) 0 ((n : Int) - 1) _ (by omega)).mono ?_
    rintro e w1 ⟨rfl, hw⟩
    have hw2 := hw.symm
    subst hw2
    go_wp2_with fail
    refine (includeProof_any n a n c zs k _ (Nat.le_refl _) H0.out (by omega) (by omega) (by omega) hc hcm).mono ?_
    rintro e w1 ⟨a1, c1, rfl, ho1, hb1⟩
    go_wp2
    go_ret2
    exact ⟨a1, c1, by rw [HV.out]; rfl, by rw [HV.out]; exact ho1, hb1⟩
  · have HV : Hid (incR zs i = ([], false)) := by show _ = _; unfold incR; rw [if_neg (by rw [HL.out]; exact hg)]
    have hoe := ownU_none w.heap.size w
    have hbe := Below.refl w.heap.size w
    by_cases hb : (200 : Int) < (n : Int)
    · go_enter Try.func10, Try.ntmps10
      go_wp2
      go_ret2
      exact ⟨_, _, by rw [HV.out]; rfl, by rw [HV.out]; exact hoe, hbe⟩
    · have u1 : IntKind.i64.wrap ((n : Int) - 1) = (n : Int) - 1 := by rw [IntKind.wrap_i64]; omega
      go_enter Try.func10, Try.ntmps10
      go_wp2_with fail
      refine (inBounds_f i 0 ((n : Int) - 1) _ (by omega)).mono ?_
      rintro e w1 ⟨rfl, hw⟩
      have hw2 := hw.symm
      subst hw2
      go_wp2
      go_ret2
      exact ⟨_, _, by rw [HV.out]; rfl, by rw [HV.out]; exact hoe, hbe⟩

end Go.Proofs.Ythncodopdcmfiaa

namespace Go.Proofs.Ythncodopdcmfiaa
open Go.RowKit Go.Sort

/-- The pairs on the way up of a proof. -/
def wayL (n i : Nat) (x : Int) (ps : List Int) : List (Int × Int) :=
  if _h : n < 2 ∨ ps.length = 0 then []
  else if i < hk n then wayL (hk n) i x (ps.take (ps.length - 1)) ++ [((match (wayL (hk n) i x (ps.take (ps.length - 1))).getLast? with | some l => pairN l.1 l.2 | none => x), ps.getD (ps.length - 1) 0)]
  else wayL (n - hk n) (i - hk n) x (ps.take (ps.length - 1)) ++ [(ps.getD (ps.length - 1) 0, (match (wayL (n - hk n) (i - hk n) x (ps.take (ps.length - 1))).getLast? with | some l => pairN l.1 l.2 | none => x))]
termination_by n
decreasing_by all_goals (have := hk_pos n; have := hk_lt (show 2 ≤ n by omega); omega)
/-- What the last pair has for a digest. -/
def rtd (x : Int) (ls : List (Int × Int)) : Int := match ls.getLast? with | some l => pairN l.1 l.2 | none => x
theorem rtd_snoc (x : Int) (ls : List (Int × Int)) (l : Int × Int) : rtd x (ls ++ [l]) = pairN l.1 l.2 := by simp [rtd]
theorem rtd_nil (x : Int) : rtd x [] = x := rfl
theorem wayL_nil (n i : Nat) (x : Int) (ps : List Int) (h : n < 2 ∨ ps.length = 0) : wayL n i x ps = [] := by rw [wayL, dif_pos h]
theorem wayL_lo (n i : Nat) (x : Int) (ps : List Int) (h : 2 ≤ n) (m : Nat) (hp : ps.length = m + 1) (hi : i < hk n) : wayL n i x ps = wayL (hk n) i x (ps.take m) ++ [(rtd x (wayL (hk n) i x (ps.take m)), ps.getD m 0)] := by
  conv => lhs; rw [wayL]
  rw [dif_neg (by omega), if_pos hi, hp, Nat.add_sub_cancel]
  rfl
theorem wayL_hi (n i : Nat) (x : Int) (ps : List Int) (h : 2 ≤ n) (m : Nat) (hp : ps.length = m + 1) (hi : ¬ i < hk n) : wayL n i x ps = wayL (n - hk n) (i - hk n) x (ps.take m) ++ [(ps.getD m 0, rtd x (wayL (n - hk n) (i - hk n) x (ps.take m)))] := by
  conv => lhs; rw [wayL]
  rw [dif_neg (by omega), if_neg hi, hp, Nat.add_sub_cancel]
  rfl
/-- The pairs of a row. -/
def linksL (zs : List Int) : List (Int × Int) :=
  if _h : zs.length < 2 then []
  else linksL (zs.take (hk zs.length)) ++ linksL (zs.drop (hk zs.length)) ++ [(rootL (zs.take (hk zs.length)), rootL (zs.drop (hk zs.length)))]
termination_by zs.length
decreasing_by
  · rw [List.length_take]; have := hk_lt (show 2 ≤ zs.length by omega); omega
  · rw [List.length_drop]; have := hk_pos zs.length; omega
theorem linksL_nil (zs : List Int) (h : zs.length < 2) : linksL zs = [] := by rw [linksL, dif_pos h]
theorem linksL_more (zs : List Int) (h : 2 ≤ zs.length) : linksL zs = linksL (zs.take (hk zs.length)) ++ linksL (zs.drop (hk zs.length)) ++ [(rootL (zs.take (hk zs.length)), rootL (zs.drop (hk zs.length)))] := by
  conv => lhs; rw [linksL]
  rw [dif_neg (by omega)]
/-- Two unlike pairs with one digest. -/
def ClashP (us bs : List (Int × Int)) : Prop := ∃ l ∈ us, ∃ m ∈ bs, l ≠ m ∧ pairN l.1 l.2 = pairN m.1 m.2
theorem ClashP.mono {us bs us' bs' : List (Int × Int)} (h : ClashP us bs) (ha : ∀ l ∈ us, l ∈ us') (hb : ∀ l ∈ bs, l ∈ bs') : ClashP us' bs' := by
  obtain ⟨l, hl, m, hm, h1, h2⟩ := h
  exact ⟨l, ha l hl, m, hb m hm, h1, h2⟩
theorem list_snoc {ps : List Int} {m : Nat} (h : ps.length = m + 1) : ps = ps.take m ++ [ps.getD m 0] := by
  have := take_snoc ps m (by omega)
  rw [List.take_of_length_le (by omega)] at this
  exact this
theorem getD_take' (zs : List Int) (k i : Nat) (h : i < k) : (zs.take k).getD i 0 = zs.getD i 0 := by
  rw [List.getD_eq_getElem?_getD, List.getElem?_take, if_pos h, List.getD_eq_getElem?_getD]
theorem getD_drop' (zs : List Int) (k i : Nat) : (zs.drop k).getD i 0 = zs.getD (k + i) 0 := by
  rw [List.getD_eq_getElem?_getD, List.getElem?_drop, List.getD_eq_getElem?_getD]
/-- The row's own proof is taken. -/
theorem from_own : ∀ (N : Nat) (zs : List Int) (i : Nat), zs.length ≤ N → i < zs.length → fromR zs.length i (zs.getD i 0) (incL zs i) = (rootL zs, true) := by
  intro N
  induction N with
  | zero => intro zs i h hi; omega
  | succ N ih =>
    intro zs i h hi
    by_cases h1 : zs.length ≤ 1
    · match zs, hi, h1 with
      | [x], hi, _ =>
        obtain rfl : i = 0 := by simp at hi; exact hi
        rw [fromR_one _ _ _ _ (by simp), incL_one _ _ (by simp), rootL_one]
        rfl
    · have hl := hk_lt (show 2 ≤ zs.length by omega)
      have hp := hk_pos zs.length
      have lt : (zs.take (hk zs.length)).length = hk zs.length := by rw [List.length_take]; omega
      have ld : (zs.drop (hk zs.length)).length = zs.length - hk zs.length := List.length_drop
      by_cases hik : i < hk zs.length
      · rw [incL_lo zs i (by omega) hik]
        have e := ih (zs.take (hk zs.length)) i (by omega) (by omega)
        rw [lt, getD_take' zs _ i hik] at e
        rw [fromR_lo zs.length i _ _ (by omega) (incL (zs.take (hk zs.length)) i).length (by simp) hik, List.take_left' rfl, e, rootL_more zs (by omega)]
        simp
      · rw [incL_hi zs i (by omega) hik]
        have e := ih (zs.drop (hk zs.length)) (i - hk zs.length) (by omega) (by omega)
        rw [ld, getD_drop', show hk zs.length + (i - hk zs.length) = i by omega] at e
        rw [fromR_hi zs.length i _ _ (by omega) (incL (zs.drop (hk zs.length)) (i - hk zs.length)).length (by simp) hik, List.take_left' rfl, e, rootL_more zs (by omega)]
        simp
/-- It is short. -/
theorem incL_short : ∀ (j : Nat) (zs : List Int) (i : Nat), zs.length ≤ 2 ^ j → (incL zs i).length ≤ j := by
  intro j
  induction j with
  | zero => intro zs i h; rw [incL_one zs i (by simpa using h)]; simp
  | succ j ih =>
    intro zs i h
    by_cases h1 : zs.length ≤ 1
    · rw [incL_one zs i h1]; simp
    · have hl := hk_lt (show 2 ≤ zs.length by omega)
      have hg := hk_ge zs.length
      rw [Nat.pow_succ] at h
      have hkj : hk zs.length ≤ 2 ^ j := by
        obtain ⟨q, hq⟩ := hk_pow zs.length
        rw [hq] at hl ⊢
        have : q < j + 1 := by
          rcases Nat.lt_or_ge q (j + 1) with h2 | h2
          · exact h2
          · have := Nat.pow_le_pow_right (n := 2) (by decide) h2
            rw [Nat.pow_succ] at this
            omega
        exact Nat.pow_le_pow_right (by decide) (by omega)
      by_cases hik : i < hk zs.length
      · rw [incL_lo zs i (by omega) hik, List.length_append]
        have := ih (zs.take (hk zs.length)) i (by rw [List.length_take]; omega)
        simp; omega
      · rw [incL_hi zs i (by omega) hik, List.length_append]
        have := ih (zs.drop (hk zs.length)) (i - hk zs.length) (by rw [List.length_drop]; omega)
        simp; omega
/-- The way's last pair has the root that comes out. -/
theorem way_root : ∀ (N n i : Nat) (x : Int) (ps : List Int), n ≤ N → 0 < n → (fromR n i x ps).2 = true → rtd x (wayL n i x ps) = (fromR n i x ps).1 := by
  intro N
  induction N with
  | zero => intro n i x ps h h0; omega
  | succ N ih =>
    intro n i x ps h h0 hok
    by_cases h1 : n ≤ 1
    · rw [wayL_nil n i x ps (by omega), fromR_one n i x ps h1]; rfl
    · have hl := hk_lt (show 2 ≤ n by omega)
      have hp := hk_pos n
      cases hps : ps.length with
      | zero => rw [fromR_nil n i x ps (by omega) hps] at hok; simp at hok
      | succ m =>
        by_cases hik : i < hk n
        · rw [wayL_lo n i x ps (by omega) m hps hik, rtd_snoc, fromR_lo n i x ps (by omega) m hps hik]
          rw [fromR_lo n i x ps (by omega) m hps hik] at hok
          rw [ih (hk n) i x (ps.take m) (by omega) hp hok]
        · rw [wayL_hi n i x ps (by omega) m hps hik, rtd_snoc, fromR_hi n i x ps (by omega) m hps hik]
          rw [fromR_hi n i x ps (by omega) m hps hik] at hok
          rw [ih (n - hk n) (i - hk n) x (ps.take m) (by omega) (by omega) hok]
/-- What is taken is the row's own, or two unlike pairs have one digest. -/
theorem proved_or_clash : ∀ (N : Nat) (zs : List Int) (i : Nat) (x : Int) (ps : List Int), zs.length ≤ N → i < zs.length → fromR zs.length i x ps = (rootL zs, true) →
    (x = zs.getD i 0 ∧ ps = incL zs i) ∨ ClashP (wayL zs.length i x ps) (linksL zs) := by
  intro N
  induction N with
  | zero => intro zs i x ps h hi; omega
  | succ N ih =>
    intro zs i x ps h hi he
    by_cases h1 : zs.length ≤ 1
    · match zs, hi, h1 with
      | [y], hi, _ =>
        obtain rfl : i = 0 := by simp at hi; exact hi
        rw [fromR_one _ _ _ _ (by simp), rootL_one] at he
        simp at he
        left
        refine ⟨he.1, ?_⟩
        rw [incL_one _ _ (by simp)]
        exact he.2
    · have hl := hk_lt (show 2 ≤ zs.length by omega)
      have hp := hk_pos zs.length
      have lt : (zs.take (hk zs.length)).length = hk zs.length := by rw [List.length_take]; omega
      have ld : (zs.drop (hk zs.length)).length = zs.length - hk zs.length := List.length_drop
      cases hps : ps.length with
      | zero => rw [fromR_nil zs.length i x ps (by omega) hps] at he; simp at he
      | succ m =>
        by_cases hik : i < hk zs.length
        · rw [fromR_lo zs.length i x ps (by omega) m hps hik, rootL_more zs (by omega)] at he
          simp only [Prod.mk.injEq] at he
          obtain ⟨e1, e2⟩ := he
          have hw := way_root (hk zs.length) (hk zs.length) i x (ps.take m) (Nat.le_refl _) hp e2
          by_cases hsame : (fromR (hk zs.length) i x (ps.take m)).1 = rootL (zs.take (hk zs.length)) ∧ ps.getD m 0 = rootL (zs.drop (hk zs.length))
          · have he2 : fromR (zs.take (hk zs.length)).length i x (ps.take m) = (rootL (zs.take (hk zs.length)), true) := by rw [lt]; exact Prod.ext hsame.1 e2
            rcases ih (zs.take (hk zs.length)) i x (ps.take m) (by omega) (by omega) he2 with ⟨q1, q2⟩ | hc
            · left
              rw [getD_take' zs _ i hik] at q1
              refine ⟨q1, ?_⟩
              rw [incL_lo zs i (by omega) hik, ← q2, ← hsame.2]
              exact list_snoc hps
            · right
              rw [lt] at hc
              rw [wayL_lo zs.length i x ps (by omega) m hps hik, linksL_more zs (by omega)]
              exact hc.mono (fun l hl => by simp [hl]) (fun l hl => by simp [hl])
          · right
            rw [wayL_lo zs.length i x ps (by omega) m hps hik, linksL_more zs (by omega)]
            refine ⟨(rtd x (wayL (hk zs.length) i x (ps.take m)), ps.getD m 0), by simp, (rootL (zs.take (hk zs.length)), rootL (zs.drop (hk zs.length))), by simp, fun e => ?_, ?_⟩
            · simp only [Prod.mk.injEq] at e
              rw [hw] at e
              exact hsame e
            · show pairN _ _ = pairN _ _
              rw [hw]; exact e1
        · rw [fromR_hi zs.length i x ps (by omega) m hps hik, rootL_more zs (by omega)] at he
          simp only [Prod.mk.injEq] at he
          obtain ⟨e1, e2⟩ := he
          have hw := way_root (zs.length - hk zs.length) (zs.length - hk zs.length) (i - hk zs.length) x (ps.take m) (Nat.le_refl _) (by omega) e2
          by_cases hsame : (fromR (zs.length - hk zs.length) (i - hk zs.length) x (ps.take m)).1 = rootL (zs.drop (hk zs.length)) ∧ ps.getD m 0 = rootL (zs.take (hk zs.length))
          · have he2 : fromR (zs.drop (hk zs.length)).length (i - hk zs.length) x (ps.take m) = (rootL (zs.drop (hk zs.length)), true) := by rw [ld]; exact Prod.ext hsame.1 e2
            rcases ih (zs.drop (hk zs.length)) (i - hk zs.length) x (ps.take m) (by omega) (by omega) he2 with ⟨q1, q2⟩ | hc
            · left
              rw [getD_drop', show hk zs.length + (i - hk zs.length) = i by omega] at q1
              refine ⟨q1, ?_⟩
              rw [incL_hi zs i (by omega) hik, ← q2, ← hsame.2]
              exact list_snoc hps
            · right
              rw [ld] at hc
              rw [wayL_hi zs.length i x ps (by omega) m hps hik, linksL_more zs (by omega)]
              exact hc.mono (fun l hl => by simp [hl]) (fun l hl => by simp [hl])
          · right
            rw [wayL_hi zs.length i x ps (by omega) m hps hik, linksL_more zs (by omega)]
            refine ⟨(ps.getD m 0, rtd x (wayL (zs.length - hk zs.length) (i - hk zs.length) x (ps.take m))), by simp, (rootL (zs.take (hk zs.length)), rootL (zs.drop (hk zs.length))), by simp, fun e => ?_, ?_⟩
            · simp only [Prod.mk.injEq] at e
              rw [hw] at e
              exact hsame ⟨e.2, e.1⟩
            · show pairN _ _ = pairN _ _
              rw [hw]; exact e1

end Go.Proofs.Ythncodopdcmfiaa

namespace Go.Proofs.Ythncodopdcmfiaa
open Go.RowKit Go.Sort

theorem OwnU.touched {w w' : World} {B lo hi : Nat} {a : Option Addr} {n cap : Nat} {zs : List Int} (h : OwnU B w a n cap zs) (ht : Touch lo hi w w') (hd : hi ≤ B) : OwnU B w' a n cap zs := ⟨owns_touch h.row ht hd, h.rng⟩
theorem OwnU.caps {B : Nat} {w : World} {a : Option Addr} {n cap : Nat} {zs : List Int} (h : OwnU B w a n cap zs) : n ≤ cap ∧ cap ≤ 9223372036854775807 := by
  rcases h.row.2 with ⟨hv, h0⟩ | ⟨g, cap', cur, hv, _, _, h1, h2, _⟩
  · simp only [Value.slice.injEq] at hv
    omega
  · simp only [Value.slice.injEq] at hv
    unfold maxLen at h2
    omega
theorem OwnU.lit0 (B : Nat) (w : World) (hB : B ≤ w.heap.size) : OwnU B (w.alloc (.cells #[] 27)) (some ⟨w.heap.size, 0, none⟩) 0 0 [] :=
  ⟨World.ownsRow_lit w #[] 0 hB (Nat.zero_le _) rfl, by simp [U64]⟩
theorem u64_small {v : Int} (h0 : 0 ≤ v) (h1 : v ≤ 1000) : U64 v := by unfold U64; omega

set_option maxRecDepth 10000 in
set_option maxHeartbeats 2000000 in
theorem drawRow_any (g : Nat) (a : Option Addr) (n cap : Nat) (bs : List Int) (m : Int) (w : World) (h : Rd w g a n cap bs) (hm0 : 0 ≤ m) (hm : m ≤ 100) :
    Calls Try.prog 30 #[.pointer (some ⟨g, 0, none⟩), .int .i64 m] w fun e w' => ∃ (a' : Option Addr) (k c' : Nat) (xs : List Int), e = .returned (.slice a' k c') ∧ k ≤ 201 ∧ OwnU w.heap.size w' a' k c' xs ∧ RdPost w g a n cap bs w' := by
  obtain ⟨i0, hi, hz0, hz1, hz2⟩ := info_parts Try.infoU
  have H : Hid (Rd w g a n cap bs) := h
  have hgw := h.lt
  clear h
  have H1 : Hid (Rd (w.alloc (.cells #[] 27)) g a n cap bs) := H.out.kept ((Below.refl _ _).alloc (Nat.le_refl _) _)
  go_enter Try.func30, Try.ntmps30
  go_wp2_with fail
  refine (below_any g a n cap bs (m + 1) _ H1.out (by omega)).mono ?_
  rintro e w1 ⟨v, rfl, hv0, hv1, hp1⟩
  obtain ⟨u, rfl⟩ := Int.eq_ofNat_of_zero_le hv0
  have hum : u ≤ 100 := by omega
  have hs0 : (w.alloc (.cells #[] 27)).heap.size = w.heap.size + 1 := by simp
  have hs1 := hp1.2.size
  have HOE : Hid (OwnU w.heap.size w1 (some ⟨w.heap.size, 0, none⟩) 0 0 []) := (OwnU.lit0 w.heap.size w (Nat.le_refl _)).touched hp1.2 (by omega)
  have HPE : Hid (RdPost w g a n cap bs w1) := ⟨hp1.1, (Touch.of_below ((Below.refl _ _).alloc (Nat.le_refl _) _)).trans hp1.2⟩
  have hs2 : w.heap.size ≤ w1.heap.size := by omega
  clear hp1 H1 hs0 hs1 hv1
  go_wp2
  go_loopw [5, 7] (fun o i wr => ∃ (k c' : Nat) (a' : Option Addr) (xs : List Int), k ≤ u ∧ i = .int .i64 k ∧ o = .slice a' k c' ∧ Hid (OwnU w.heap.size wr a' k c' xs) ∧ Hid (RdPost w g a n cap bs wr) ∧ w.heap.size ≤ wr.heap.size) (fun _ i _ => u - (intOf i).toNat)
  case atStart => exact ⟨0, 0, _, [], Nat.zero_le _, rfl, rfl, HOE, HPE, hs2⟩
  case round =>
    obtain ⟨k, c', a', xs, hk, rfl, rfl, HO, HR, hsr⟩ := hrel
    clear HOE HPE
    by_cases hlt : k < u
    · have hlti : (k : Int) < (u : Int) := by omega
      go_wp2_with fail
      refine (below_any g a n cap bs 9 _ HR.out.1 (by decide)).mono ?_
      rintro e w2 ⟨x, rfl, hx0, hx1, hp2⟩
      have hx9 : x ≤ 1000 := by omega
      have ho2 := HO.out.touched hp2.2 (by omega)
      have hpp := HR.out.step hp2
      have hs2' := hp2.2.size
      have ux : IntKind.u64.wrap x = x := by rw [IntKind.wrap_u64]; omega
      have hal : Below w2.heap.size w2 (w2.alloc (.cells #[.int .u64 x] 27)) := (Below.refl _ _).alloc (Nat.le_refl _) _
      have hor := ho2.kept hal
      have hcl := cell_oneU w2 x
      clear HO ho2 hal
      go_wp2_with (first | (at_builtin; refine wpList_append_own _ rfl (.tmp 18) (.tmp 22) 24 rfl w.heap.size 27 i0 _ 1 8 Try.underlying24 hi hz0 hz1 hz2 rfl (by decide) _ k _ rfl hor.row ⟨w2.heap.size, 0, none⟩ 1 1 ([x].map (Value.int .u64)) rfl rfl hcl (ints_oneCell .u64 [x]) (by unfold maxLen; omega) (by omega) (by simp; omega) ?_; intro v4 w4 hv4 hg4 _))
      rw [← List.map_append] at hv4
      obtain ⟨a4, c4, rfl, ho4⟩ := ownU_appended (u64_snoc hor.rng (u64_small hx0 hx9)) hv4
      have hT : Touch w.heap.size (w2.heap.size + 1) (w2.alloc (.cells #[.int .u64 x] 27)) w4 := touch_grown hg4 (fun k hk => by have := (hor.row.lt k hk); simp at this; omega)
      have HR4 : Hid (RdPost w g a n cap bs w4) := (hpp.alloc (.cells #[.int .u64 x] 27)).grown hT hgw (Nat.le_refl _)
      have HO4 : Hid (OwnU w.heap.size w4 a4 (k + 1) c4 (xs ++ [x])) := ho4
      have hs4 : w.heap.size ≤ w4.heap.size := by have := hg4.size; simp at this; omega
      clear hv4 hg4 hor hcl hT ho4 hpp hp2 HR
      go_roundw
      case rel => exact ⟨k + 1, c4, a4, _, by omega, by go_num, rfl, HO4, HR4, hs4⟩
      case measure => simp [intOf]; omega
    · obtain rfl : k = u := by omega
      go_wp2_with fail
      refine (once_any g a n cap bs 20 _ HR.out.1 (by decide) (by decide)).mono ?_
      rintro e w2 ⟨b, rfl, hp2⟩
      have HO2 : Hid (OwnU w.heap.size w2 a' k c' xs) := HO.out.touched hp2.2 (by omega)
      have HR2 : Hid (RdPost w g a n cap bs w2) := HR.out.step hp2
      have hs2' : w.heap.size ≤ w2.heap.size := by have := hp2.2.size; omega
      clear HO HR hp2
      cases b with
      | false =>
        go_wp2
        go_ret
        exact ⟨a', k, c', xs, rfl, by omega, HO2.out, HR2.out⟩
      | true =>
        go_wp2
        go_loopw [5] (fun o wr => ∃ (q c' : Nat) (a' : Option Addr) (xs : List Int), q ≤ 201 ∧ o = .slice a' q c' ∧ Hid (OwnU w.heap.size wr a' q c' xs) ∧ Hid (RdPost w g a n cap bs wr) ∧ w.heap.size ≤ wr.heap.size) (fun o _ => match o with | .slice _ q _ => 201 - q | _ => 0)
        case atStart => exact ⟨k, c', a', xs, by omega, rfl, HO2, HR2, hs2'⟩
        case round =>
          obtain ⟨q, c2, a2, ys, hq, rfl, HO, HR, hsr3⟩ := hrel
          clear HO2 HR2
          go_wp2_with fail
          refine (below_any g a n cap bs 2 _ HR.out.1 (by decide)).mono ?_
          rintro e w3 ⟨x, rfl, hx0, hx1, hp3⟩
          have HO3 : Hid (OwnU w.heap.size w3 a2 q c2 ys) := HO.out.touched hp3.2 (by omega)
          have HR3 : Hid (RdPost w g a n cap bs w3) := HR.out.step hp3
          have hs3 := hp3.2.size
          clear HO HR hp3
          by_cases hqx : (q : Int) < 200 + x
          · have hq2 : q ≤ 200 := by omega
            have hal : Below w3.heap.size w3 (w3.alloc (.cells #[.int .u64 5] 27)) := (Below.refl _ _).alloc (Nat.le_refl _) _
            have hor := HO3.out.kept hal
            have hcl := cell_oneU w3 5
            go_wp2_with (first | (at_builtin; refine wpList_append_own _ rfl (.tmp 32) (.tmp 33) 24 rfl w.heap.size 27 i0 _ 1 8 Try.underlying24 hi hz0 hz1 hz2 rfl (by decide) _ q _ rfl hor.row ⟨w3.heap.size, 0, none⟩ 1 1 ([5].map (Value.int .u64)) rfl rfl hcl (ints_oneCell .u64 [5]) (by unfold maxLen; omega) (by omega) (by simp; omega) ?_; intro v4 w4 hv4 hg4 _))
            rw [← List.map_append] at hv4
            obtain ⟨a4, c4, rfl, ho4⟩ := ownU_appended (u64_snoc hor.rng (u64_small (v := 5) (by decide) (by decide))) hv4
            have hT : Touch w.heap.size (w3.heap.size + 1) (w3.alloc (.cells #[.int .u64 5] 27)) w4 := touch_grown hg4 (fun k hk => by have := (hor.row.lt k hk); simp at this; omega)
            have HR4 : Hid (RdPost w g a n cap bs w4) := (HR3.out.alloc (.cells #[.int .u64 5] 27)).grown hT hgw (Nat.le_refl _)
            have HO4 : Hid (OwnU w.heap.size w4 a4 (q + 1) c4 (ys ++ [5])) := ho4
            have hs4 : w.heap.size ≤ w4.heap.size := by have := hg4.size; simp at this; omega
            clear hv4 hg4 hor hcl hT ho4
            go_roundw
            case rel => exact ⟨q + 1, c4, a4, _, by omega, rfl, HO4, HR4, hs4⟩
            case measure => simp; omega
          · go_wp2
            go_ret
            exact ⟨a2, q, c2, ys, rfl, hq, HO3.out, HR3.out⟩

set_option maxRecDepth 10000 in
set_option maxHeartbeats 1000000 in
theorem drawInclude_any (a : Option Addr) (n cap : Nat) (bs : List Int) (w : World) (h : Row w a n bs) (hn : n ≤ 1000000000) :
    Calls Try.prog 7 #[.slice a n cap] w fun e w' => ∃ (a' : Option Addr) (k c' : Nat) (xs : List Int) (i : Int), e = .returned (.tuple #[.slice a' k c', .int .i64 i]) ∧ k ≤ 201 ∧ -1 ≤ i ∧ i ≤ 300 ∧ OwnU w.heap.size w' a' k c' xs ∧ Below w.heap.size w w' := by
  have H : Hid (Row w a n bs) := h
  clear h
  go_enter Try.func7, Try.ntmps7
  go_wp2_with fail
  refine (open_any a n cap bs _ H.out hn).mono ?_
  rintro e w1 ⟨rfl, hr, hb⟩
  have hs1 := hb.size
  go_wp2_with fail
  refine (drawRow_any _ a n cap bs 40 _ hr (by decide) (by decide)).mono ?_
  rintro e w2 ⟨a', k, c', xs, rfl, hk, ho, hp⟩
  go_wp2_with fail
  refine (below_any _ a n cap bs ((k : Int) + 2) _ hp.1 (by omega)).mono ?_
  rintro e w3 ⟨i, rfl, hi0, hi1, hp3⟩
  have hlt := hr.lt
  have HO3 : Hid (OwnU w.heap.size w3 a' k c' xs) := (ho.touched hp3.2 (by omega)).mono hs1
  have HB : Hid (Below w.heap.size w w3) := (hp.step hp3).below hb
  clear ho hp hp3 hr hb
  go_wp2
  go_ret2
  exact ⟨a', k, c', xs, i - 1, rfl, hk, by omega, by omega, HO3.out, HB.out⟩

end Go.Proofs.Ythncodopdcmfiaa

namespace Go.Proofs.Ythncodopdcmfiaa
open Go.RowKit Go.Sort

def flK (ps : List (Int × Int)) : List Value := ps.flatMap fun p => [Value.int .u64 p.1, .int .u64 p.2]
theorem flK_cons (p : Int × Int) (r : List (Int × Int)) : flK (p :: r) = Value.int .u64 p.1 :: .int .u64 p.2 :: flK r := rfl
theorem flK_append (a b : List (Int × Int)) : flK (a ++ b) = flK a ++ flK b := by simp [flK, List.flatMap_append]
theorem flK_len (ps : List (Int × Int)) : (flK ps).length = ps.length * 2 := by
  induction ps with
  | nil => rfl
  | cons p r ih => rw [flK_cons]; simp [ih]; omega
theorem flK_get (ps : List (Int × Int)) : ∀ k, k < ps.length → (flK ps)[k * 2]? = some (.int .u64 (ps.getD k (0, 0)).1) ∧ (flK ps)[k * 2 + 1]? = some (.int .u64 (ps.getD k (0, 0)).2) := by
  induction ps with
  | nil => intro k h; simp at h
  | cons p r ih =>
    intro k h
    cases k with
    | zero => simp [flK_cons]
    | succ k =>
      have := ih k (by simpa using h)
      rw [flK_cons, show (k + 1) * 2 = k * 2 + 1 + 1 by omega]
      simpa using this
theorem flK_one (ps : List (Int × Int)) : ∀ u ∈ flK ps, u.oneCell' = true := by
  induction ps with
  | nil => intro u hu; simp [flK] at hu
  | cons p r ih =>
    intro u hu
    rw [flK_cons] at hu
    simp only [List.mem_cons] at hu
    rcases hu with rfl | rfl | hu
    · rfl
    · rfl
    · exact ih u hu
def UK (ls : List (Int × Int)) : Prop := ∀ l ∈ ls, U64 l.1 ∧ U64 l.2
theorem UK.at {ls : List (Int × Int)} (h : UK ls) {k : Nat} (hk : k < ls.length) : U64 (ls.getD k (0, 0)).1 ∧ U64 (ls.getD k (0, 0)).2 := by
  have e : ls.getD k (0, 0) = ls[k] := by simp [hk]
  rw [e]; exact h _ (List.getElem_mem hk)
theorem UK.append {a b : List (Int × Int)} (h : UK a) (k : UK b) : UK (a ++ b) := by
  intro l hl
  rw [List.mem_append] at hl
  rcases hl with q | q
  · exact h l q
  · exact k l q
theorem UK.one {x y : Int} (hx : U64 x) (hy : U64 y) : UK [(x, y)] := by intro l hl; simp at hl; subst hl; exact ⟨hx, hy⟩
theorem UK.nil : UK [] := by intro l hl; simp at hl
/-- The slice at a reads as these pairs. -/
structure RowK (w : World) (a : Option Addr) (n : Nat) (ps : List (Int × Int)) : Prop where
  len : ps.length = n
  get : ∀ k, k < n → ∃ b off, a = some ⟨b, off, none⟩ ∧ b < w.heap.size ∧ w.cell? ⟨b, off + k * 2, none⟩ = some (.int .u64 (ps.getD k (0, 0)).1) ∧ w.cell? ⟨b, off + k * 2 + 1, none⟩ = some (.int .u64 (ps.getD k (0, 0)).2)
theorem RowK.kept {w w' : World} {a : Option Addr} {n : Nat} {ps : List (Int × Int)} (h : RowK w a n ps) (hb : Below w.heap.size w w') : RowK w' a n ps := by
  refine ⟨h.len, fun k hk => ?_⟩
  obtain ⟨b, off, ha, hlt, h0, h1⟩ := h.get k hk
  exact ⟨b, off, ha, Nat.lt_of_lt_of_le hlt hb.size, (hb.cell (p := ⟨b, off + k * 2, none⟩) hlt).trans h0, (hb.cell (p := ⟨b, off + k * 2 + 1, none⟩) hlt).trans h1⟩
/-- Pairs of our own, from B on. -/
structure OwnK (B : Nat) (w : World) (a : Option Addr) (n cap : Nat) (ps : List (Int × Int)) : Prop where
  row : w.ownsRow B 69 2 (.slice a n cap) n (flK ps)
  rng : UK ps
theorem OwnK.len {B : Nat} {w : World} {a : Option Addr} {n cap : Nat} {ps : List (Int × Int)} (h : OwnK B w a n cap ps) : ps.length = n := by
  have := h.row.1
  rw [flK_len] at this
  omega
theorem OwnK.shape {B : Nat} {w : World} {a : Option Addr} {n cap : Nat} {ps : List (Int × Int)} (h : OwnK B w a n cap ps) (hn : 0 < n) : ∃ g, a = some ⟨g, 0, none⟩ ∧ B ≤ g ∧ g < w.heap.size := by
  rcases h.row.2 with ⟨_, h0⟩ | ⟨g, cap', cur, hv, hb, hg, _⟩
  · omega
  · simp only [Value.slice.injEq] at hv
    exact ⟨g, hv.1, hb, (Array.getElem?_eq_some_iff.1 hg).1⟩
theorem OwnK.toRow {B : Nat} {w : World} {a : Option Addr} {n cap : Nat} {ps : List (Int × Int)} (h : OwnK B w a n cap ps) : RowK w a n ps := by
  refine ⟨h.len, fun k hk => ?_⟩
  obtain ⟨g, rfl, _, hg⟩ := h.shape (by omega)
  have hf := flK_get ps k (by rw [h.len]; exact hk)
  exact ⟨g, 0, rfl, hg, by rw [Nat.zero_add, h.row.cellAt _ (by omega)]; exact hf.1, by rw [Nat.zero_add, h.row.cellAt _ (by omega)]; exact hf.2⟩
theorem OwnK.kept {B : Nat} {w w' : World} {a : Option Addr} {n cap : Nat} {ps : List (Int × Int)} (h : OwnK B w a n cap ps) (hb : Below w.heap.size w w') : OwnK B w' a n cap ps := ⟨ownsRow_below h.row hb, h.rng⟩
theorem OwnK.mono {B B' : Nat} {w : World} {a : Option Addr} {n cap : Nat} {ps : List (Int × Int)} (h : OwnK B w a n cap ps) (hB : B' ≤ B) : OwnK B' w a n cap ps :=
  ⟨⟨h.row.1, by rcases h.row.2 with h | ⟨g, cap, cur, hv, hb, r⟩; exact .inl h; exact .inr ⟨g, cap, cur, hv, by omega, r⟩⟩, h.rng⟩
theorem ownK_empty (w : World) : OwnK w.heap.size (w.alloc (.cells #[] 69)) (some ⟨w.heap.size, 0, none⟩) 0 0 [] :=
  ⟨World.ownsRow_lit w #[] 0 (Nat.le_refl _) (Nat.zero_le _) rfl, UK.nil⟩
theorem ownK_none (B : Nat) (w : World) : OwnK B w none 0 0 [] := ⟨World.ownsRow_nil _ _ _ _, UK.nil⟩
theorem ownK_appended {B : Nat} {w : World} {v : Value} {m : Nat} {xs ys : List (Int × Int)} (hx : UK xs) (hy : UK ys) (h : w.ownsRow B 69 2 v m (flK xs ++ flK ys)) : ∃ a cap, v = .slice a m cap ∧ OwnK B w a m cap (xs ++ ys) := by
  rw [← flK_append] at h
  rcases h.2 with ⟨rfl, rfl⟩ | ⟨g, cap, cur, rfl, _⟩
  · exact ⟨_, _, rfl, h, hx.append hy⟩
  · exact ⟨_, _, rfl, h, hx.append hy⟩
theorem Try.infoK : (Try.prog.info? 69).map (fun i => (i.zero, i.size, i.bytes)) = some (some (.agg #[.int .u64 0, .int .u64 0]), 2, 16) := by kernel_rfl
theorem cell_oneK (w : World) (x y : Int) : ∀ jj uu, (flK [(x, y)])[jj]? = some uu → (w.alloc (.cells #[.int .u64 x, .int .u64 y] 69)).cell? ((⟨w.heap.size, 0, none⟩ : Addr).add jj) = some uu := by
  intro jj uu hju
  rw [Addr.add_lit, Nat.zero_add, cell_of_row _ w.heap.size jj _ 69 _ (heap_alloc_new w _), ← hju]
  simp [flK]

set_option maxRecDepth 10000 in
set_option maxHeartbeats 1000000 in
theorem half_any (n : Nat) (w : World) (hn : n ≤ 1000000) :
    Calls Try.prog 43 #[.int .i64 n] w fun e w' => e = .returned (.int .i64 (hk n : Nat)) ∧ w' = w := by
  have HN : Hid (n ≤ 1000000) := hn
  go_enter Try.func43, Try.ntmps43
  go_wp2
  go_loop [3] (fun kk => ∃ k : Nat, kk = .int .i64 k ∧ 0 < k ∧ k ≤ 1000000 ∧ Hid (∃ j, k = 2 ^ j) ∧ Hid (k = 1 ∨ k < n)) (fun kk => n - (intOf kk).toNat)
  case atStart => exact ⟨1, rfl, by decide, by decide, ⟨0, rfl⟩, .inl rfl⟩
  case round =>
    obtain ⟨k, rfl, h0, h1, HJ, HK⟩ := hrel
    by_cases hlt : 2 * k < n
    · have hlti : 2 * (k : Int) < (n : Int) := by omega
      go_wp2
      go_round
      case rel => exact ⟨2 * k, by go_num, by omega, by have := HN.out; omega, by obtain ⟨j, hj⟩ := HJ.out; exact ⟨j + 1, by rw [hj, Nat.pow_succ]; omega⟩, .inr (by omega)⟩
      case measure => simp [intOf]; omega
    · have hlti : ¬ 2 * (k : Int) < (n : Int) := by omega
      have HE : Hid (hk n = k) := hk_of HJ.out HK.out (by omega)
      go_wp2
      go_ret
      exact ⟨by rw [HE.out]; rfl, rfl⟩

theorem lrR_two (x y : Int) : lrR [x, y] = (pairN x y, true) := by
  unfold lrR
  rw [if_pos (by simp), rootL_more [x, y] (by simp)]
  show (pairN (rootL [x]) (rootL [y]), true) = _
  rw [rootL_one, rootL_one]

set_option maxRecDepth 10000 in
set_option maxHeartbeats 1000000 in
theorem over_any (x y : Int) (w : World) (hx : U64 x) (hy : U64 y) :
    Calls Try.prog 42 #[.int .u64 x, .int .u64 y] w fun e w' => e = .returned (.int .u64 (pairN x y)) ∧ Below w.heap.size w w' := by
  have hbb : Below w.heap.size w (w.alloc (.cells #[.int .u64 x, .int .u64 y] 27)) := (Below.refl _ _).alloc (Nat.le_refl _) _
  have HR : Hid (RowU (w.alloc (.cells #[.int .u64 x, .int .u64 y] 27)) (some ⟨w.heap.size, 0, none⟩) 2 [x, y]) := rowU_two w x y hx hy
  go_enter Try.func42, Try.ntmps42
  go_wp2_with fail
  refine (implLogRoot_any _ 2 2 [x, y] _ HR.out).mono ?_
  rintro e w3 ⟨rfl, hb3⟩
  rw [lrR_two]
  go_wp2
  go_ret
  exact ⟨rfl, keepT hbb hb3⟩

theorem last_get (ls : List (Int × Int)) (m : Nat) (h : ls.length = m + 1) : ls.getLast? = some (ls.getD m (0, 0)) := by
  rw [List.getLast?_eq_getElem?, h, Nat.add_sub_cancel, List.getElem?_eq_getElem (by omega)]
  simp [show m < ls.length by omega]

set_option maxRecDepth 10000 in
set_option maxHeartbeats 2000000 in
theorem rooted_any (x : Int) (a : Option Addr) (n c : Nat) (ls : List (Int × Int)) (w : World) (h : RowK w a n ls) (hu : UK ls) (hn : n ≤ 100000) :
    Calls Try.prog 44 #[.int .u64 x, .slice a n c] w fun e w' => e = .returned (.int .u64 (rtd x ls)) ∧ Below w.heap.size w w' := by
  have hl := h.len
  rcases n with _ | m
  · have HE : Hid (rtd x ls = x) := by show _ = _; rw [List.eq_nil_of_length_eq_zero hl]; rfl
    clear h hl hu
    go_enter Try.func44, Try.ntmps44
    go_wp2
    go_ret
    exact ⟨by rw [HE.out]; rfl, Below.refl _ _⟩
  · obtain ⟨b, off, rfl, hlb, c0, c1⟩ := h.get m (by omega)
    have hub := hu.at (k := m) (by omega)
    have HE : Hid (rtd x ls = pairN (ls.getD m (0, 0)).1 (ls.getD m (0, 0)).2) := by show _ = _; unfold rtd; rw [last_get ls m hl]
    obtain ⟨p, hp⟩ : ∃ p, p = ls.getD m (0, 0) := ⟨_, rfl⟩
    rw [← hp] at c0 c1 hub HE
    clear hp h hl hu
    obtain ⟨p0, p1⟩ := p
    have j1 : ((m + 1 : Nat) : Int) - 1 = (m : Int) := by omega
    have j2 : IntKind.i64.wrap (m : Int) = (m : Int) := by rw [IntKind.wrap_i64]; omega
    have j3 : ¬ (m : Int) + 1 = 0 := by omega
    have z1 : ((m : Int) + 1 == 0) = false := by simp; omega
    have j7 : (m : Int) < (m : Int) + 1 := by omega
    have qc0 := cell_regrown c0
    have qc1 := cell_regrown c1
    have ca0 : Hid (∀ d os, Calls Try.prog 42 #[.int .u64 p0, .int .u64 p1] (grow (redrawn w d) os) fun e w'' => e = .returned (.int .u64 (pairN p0 p1)) ∧ ∃ p : Regrown, w'' = grow (redrawn w p.d) p.os) := fun d os => Calls.regrown_of (over_any p0 p1 _ hub.1 hub.2)
    go_enter Try.func44, Try.ntmps44
    go_wp2_with fail
    refine wp_region_quiet_below (by kernel_rfl) (by kernel_rfl) ?_
    iterate 14 (go_big_quiet_step (fail))
    go_big_quiet_step (exact ca0.out _ _)
    go_big_quiet_step (fail)
    refine wpQuiet_nil ?_
    intro _ hw'
    obtain ⟨⟨dq, osq⟩, hw''⟩ := hw'
    subst hw''
    have HBQ : Hid (Below w.heap.size w (grow (redrawn w dq) osq)) := below_regrown w dq osq
    go_wp2
    go_ret
    exact ⟨by rw [HE.out]; rfl, HBQ.out⟩

set_option maxRecDepth 10000 in
set_option maxHeartbeats 1000000 in
theorem sameDigests_any (a b : Option Addr) (n m ca cb : Nat) (xs ys : List Int) (w : World) (hx : RowU w a n xs) (hy : RowU w b m ys) (hn : n ≤ 1000000) (hm : m ≤ 1000000) :
    Calls Try.prog 14 #[.slice a n ca, .slice b m cb] w fun e w' => e = .returned (.bool (decide (xs = ys))) ∧ Below w.heap.size w w' := by
  have HX : Hid (RowU w a n xs) := hx
  have HY : Hid (RowU w b m ys) := hy
  have LX : Hid (xs.length = n) := hx.len
  have LY : Hid (ys.length = m) := hy.len
  clear hx hy
  obtain ⟨t, ht⟩ : ∃ t, t = decide (xs = ys) := ⟨_, rfl⟩
  rw [← ht]
  have HT : Hid (t = decide (xs = ys)) := ht
  clear ht
  by_cases hnm : n = m
  · subst hnm
    go_enter Try.func14, Try.ntmps14
    go_wp2
    go_loopw [5] (fun i wr => ∃ k : Nat, k ≤ n ∧ i = .int .i64 k ∧ Hid (xs.take k = ys.take k) ∧ Below w.heap.size w wr) (fun i _ => n - (intOf i).toNat)
    case atStart => exact ⟨0, Nat.zero_le _, rfl, rfl, Below.refl _ _⟩
    case round =>
      obtain ⟨k, hk, rfl, HE, hbr⟩ := hrel
      by_cases hlt : k < n
      · obtain ⟨b1, off1, rfl, hb1, hc1⟩ := HX.out.get k hlt
        obtain ⟨b2, off2, rfl, hb2, hc2⟩ := HY.out.get k hlt
        have hr1 : wr.cell? ⟨b1, off1 + k, none⟩ = some (.int .u64 (xs.getD k 0)) := (hbr.cell (p := ⟨b1, off1 + k, none⟩) hb1).trans hc1
        have hr2 : wr.cell? ⟨b2, off2 + k, none⟩ = some (.int .u64 (ys.getD k 0)) := (hbr.cell (p := ⟨b2, off2 + k, none⟩) hb2).trans hc2
        clear hc1 hc2
        have hlti : (k : Int) < (n : Int) := by omega
        obtain ⟨z, hz⟩ : ∃ z, z = xs.getD k 0 := ⟨_, rfl⟩
        obtain ⟨y, hy⟩ : ∃ y, y = ys.getD k 0 := ⟨_, rfl⟩
        have HZ : Hid (z = xs.getD k 0) := hz
        have HYY : Hid (y = ys.getD k 0) := hy
        rw [← hz] at hr1
        rw [← hy] at hr2
        clear hz hy
        by_cases hzy : z = y
        · subst hzy
          go_wp2
          go_quiet (fail)
          go_wp2
          go_roundw
          case rel => exact ⟨k + 1, by omega, by go_num, take_next HE.out (by rw [← HZ.out, ← HYY.out]) (by rw [LX.out]; exact hlt) (by rw [LY.out]; exact hlt), below_dnT hbr nq⟩
          case measure => simp [intOf]; omega
        · have z1 : (z != y) = true := by simpa using hzy
          have HF : Hid (t = false) := by show _ = _; rw [HT.out, decide_eq_false (fun e => hzy (by rw [HZ.out, HYY.out, e]))]
          go_wp2
          go_quiet (fail)
          go_wp2
          go_ret
          exact ⟨by rw [HF.out]; rfl, below_dnT hbr nq⟩
      · obtain rfl : k = n := by omega
        have HF : Hid (t = true) := by show _ = _; rw [HT.out, decide_eq_true (take_whole HE.out (by rw [LX.out]; exact Nat.le_refl _) (by rw [LY.out]; exact Nat.le_refl _))]
        go_wp2
        go_ret
        exact ⟨by rw [HF.out]; rfl, hbr⟩
  · have z1 : ((n : Int) != (m : Int)) = true := by simp; omega
    have z2 : ¬ (n : Int) = (m : Int) := by omega
    have HF : Hid (t = false) := by show _ = _; rw [HT.out, decide_eq_false (fun e => hnm (by rw [← LX.out, ← LY.out, e]))]
    go_enter Try.func14, Try.ntmps14
    go_wp2
    go_ret
    exact ⟨by rw [HF.out]; rfl, Below.refl _ _⟩

end Go.Proofs.Ythncodopdcmfiaa

namespace Go.Proofs.Ythncodopdcmfiaa
open Go.RowKit Go.Sort

theorem rtd_bd (x : Int) (ls : List (Int × Int)) (hx : U64 x) : U64 (rtd x ls) := by
  unfold rtd
  split
  · exact pairN_bd _ _
  · exact hx
theorem wayL_ok : ∀ (N n i : Nat) (x : Int) (ps : List Int), n ≤ N → U64 x → (∀ k, U64 (ps.getD k 0)) → UK (wayL n i x ps) ∧ (wayL n i x ps).length ≤ ps.length := by
  intro N
  induction N with
  | zero => intro n i x ps h hx hp; rw [wayL_nil n i x ps (by omega)]; exact ⟨UK.nil, Nat.zero_le _⟩
  | succ N ih =>
    intro n i x ps h hx hp
    by_cases h1 : n < 2 ∨ ps.length = 0
    · rw [wayL_nil n i x ps h1]; exact ⟨UK.nil, Nat.zero_le _⟩
    · have hl := hk_lt (show 2 ≤ n by omega)
      have hp0 := hk_pos n
      obtain ⟨m, hm⟩ : ∃ m, ps.length = m + 1 := ⟨ps.length - 1, by omega⟩
      by_cases hik : i < hk n
      · rw [wayL_lo n i x ps (by omega) m hm hik]
        obtain ⟨q1, q2⟩ := ih (hk n) i x (ps.take m) (by omega) hx (u64_take hp m)
        rw [List.length_take] at q2
        exact ⟨q1.append (UK.one (rtd_bd _ _ hx) (hp m)), by rw [List.length_append, List.length_singleton]; omega⟩
      · rw [wayL_hi n i x ps (by omega) m hm hik]
        obtain ⟨q1, q2⟩ := ih (n - hk n) (i - hk n) x (ps.take m) (by omega) hx (u64_take hp m)
        rw [List.length_take] at q2
        exact ⟨q1.append (UK.one (hp m) (rtd_bd _ _ hx)), by rw [List.length_append, List.length_singleton]; omega⟩
theorem linksL_len : ∀ (N : Nat) (zs : List Int), zs.length ≤ N → 0 < zs.length → (linksL zs).length + 1 ≤ zs.length := by
  intro N
  induction N with
  | zero => intro zs h h0; omega
  | succ N ih =>
    intro zs h h0
    by_cases h1 : zs.length < 2
    · rw [linksL_nil zs h1]; exact h0
    · have hl := hk_lt (show 2 ≤ zs.length by omega)
      have hp0 := hk_pos zs.length
      rw [linksL_more zs (by omega), List.length_append, List.length_append, List.length_singleton]
      have q := ih (zs.take (hk zs.length)) (by rw [List.length_take]; omega) (by rw [List.length_take]; omega)
      have r := ih (zs.drop (hk zs.length)) (by rw [List.length_drop]; omega) (by rw [List.length_drop]; omega)
      rw [List.length_take] at q
      rw [List.length_drop] at r
      omega
theorem linksL_uk : ∀ (N : Nat) (zs : List Int), zs.length ≤ N → (∀ k, U64 (zs.getD k 0)) → UK (linksL zs) := by
  intro N
  induction N with
  | zero => intro zs h hz; rw [linksL_nil zs (by omega)]; exact UK.nil
  | succ N ih =>
    intro zs h hz
    by_cases h1 : zs.length < 2
    · rw [linksL_nil zs h1]; exact UK.nil
    · have hl := hk_lt (show 2 ≤ zs.length by omega)
      have hp0 := hk_pos zs.length
      rw [linksL_more zs (by omega)]
      exact ((ih _ (by rw [List.length_take]; omega) (u64_take hz _)).append (ih _ (by rw [List.length_drop]; omega) (u64_drop hz _))).append (UK.one (rootL_bd _ (u64_take hz _)) (rootL_bd _ (u64_drop hz _)))

set_option maxRecDepth 10000 in
set_option maxHeartbeats 4000000 in
theorem way_any : ∀ (N n i : Nat) (x : Int) (a : Option Addr) (l c : Nat) (ps : List Int) (w : World), n ≤ N → 0 < n → i < n → n ≤ 1000 → U64 x → RowU w a l ps → l ≤ 2000 → l ≤ c → c ≤ 9223372036854775807 →
    Calls Try.prog 17 #[.int .i64 n, .int .i64 i, .int .u64 x, .slice a l c] w fun e w' => ∃ a' c', e = .returned (.slice a' (wayL n i x ps).length c') ∧ OwnK w.heap.size w' a' (wayL n i x ps).length c' (wayL n i x ps) ∧ Below w.heap.size w w' := by
  intro N
  induction N with
  | zero => intro n i x a l c ps w hN h0; omega
  | succ N ih =>
    intro n i x a l c ps w hN h0 hin hn hx h hlb1 hc hcm
    obtain ⟨i0, hi, hz0, hz1, hz2⟩ := info_parts Try.infoK
    have H0 : Hid (RowU w a l ps) := h
    have HL : Hid (ps.length = l) := h.len
    have HRG : Hid (∀ k, U64 (ps.getD k 0)) := h.rng
    clear h
    have hoe := ownK_empty w
    have hbe : Below w.heap.size w (w.alloc (.cells #[] 69)) := (Below.refl _ _).alloc (Nat.le_refl _) _
    by_cases h1 : n = 1
    · subst h1
      have HE : Hid (wayL 1 i x ps = []) := wayL_nil 1 i x ps (by omega)
      go_enter Try.func17, Try.ntmps17
      go_wp2
      go_ret
      exact ⟨_, _, by rw [HE.out]; rfl, by rw [HE.out]; exact hoe, hbe⟩
    · have z1 : ¬ (n : Int) < 2 := by omega
      by_cases hl : l = 0
      · subst hl
        have HE : Hid (wayL n i x ps = []) := wayL_nil n i x ps (.inr HL.out)
        go_enter Try.func17, Try.ntmps17
        go_wp2
        go_ret
        exact ⟨_, _, by rw [HE.out]; rfl, by rw [HE.out]; exact hoe, hbe⟩
      · obtain ⟨m, rfl⟩ : ∃ m, l = m + 1 := ⟨l - 1, by omega⟩
        clear hoe hbe
        have zl1 : ((m : Int) + 1 == 0) = false := by simp; omega
        have zl2 : ¬ (m : Int) + 1 = 0 := by omega
        obtain ⟨b, off, rfl, hlb, hc0⟩ := H0.out.get m (by omega)
        obtain ⟨p, hp⟩ : ∃ p, p = ps.getD m 0 := ⟨_, rfl⟩
        have HP : Hid (p = ps.getD m 0) := hp
        have hpb := H0.out.rng m
        rw [← hp] at hc0 hpb
        clear hp
        have j1 : ((m + 1 : Nat) : Int) - 1 = (m : Int) := by omega
        have j2 : IntKind.i64.wrap (m : Int) = (m : Int) := by rw [IntKind.wrap_i64]; omega
        have j4 : (m : Int) ≤ (c : Int) := by omega
        have j7 : (m : Int) < (m : Int) + 1 := by omega
        have hkl := hk_lt (show 2 ≤ n by omega)
        have hkp := hk_pos n
        obtain ⟨k, hkk⟩ : ∃ k, k = hk n := ⟨_, rfl⟩
        have HKK : Hid (k = hk n) := hkk
        rw [← hkk] at hkl hkp
        have HRW : Hid (∀ W, Below w.heap.size w W → RowU W (some ⟨b, off, none⟩) m (ps.take m)) := fun W hW => (H0.out.take m (by omega)).kept hW
        by_cases hik : i < k
        · have k1 : (i : Int) < (k : Int) := by omega
          have he := wayL_lo n i x ps (by omega) m HL.out (by rw [← hkk]; exact hik)
          rw [← hkk, ← HP.out] at he
          obtain ⟨ls, hls⟩ : ∃ ls, ls = wayL k i x (ps.take m) := ⟨_, rfl⟩
          have hok := wayL_ok k k i x (ps.take m) (Nat.le_refl _) hx (u64_take HRG.out m)
          have ih2 := fun W (hW : Below w.heap.size w W) => ih k i x (some ⟨b, off, none⟩) m c (ps.take m) W (by omega) hkp hik (by omega) hx (HRW.out W hW) (by omega) (by omega) hcm
          rw [← hls] at ih2 hok he
          have HE : Hid (wayL n i x ps = ls ++ [(rtd x ls, p)]) := he
          obtain ⟨L, hL⟩ : ∃ L, L = ls.length := ⟨_, rfl⟩
          have hLb : L ≤ 2000 := by have := hok.2; rw [List.length_take] at this; omega
          have HUK : Hid (UK ls) := hok.1
          have hrb := rtd_bd x ls hx
          obtain ⟨r, hr⟩ : ∃ r, r = rtd x ls := ⟨_, rfl⟩
          have HR : Hid (r = rtd x ls) := hr
          have HLL : Hid (ls.length = L) := hL.symm
          rw [← hr] at hrb HE
          rw [← hL] at ih2
          have IH : Hid (_) := ih2
          clear hkk he hls ih2 ih HRW hok hL hr
          go_enter Try.func17, Try.ntmps17
          go_wp2_with fail
          refine (half_any _ _ (by omega)).mono ?_
          rintro e w2 ⟨rfl, hw⟩
          have hw2 := hw.symm
          subst hw2
          rw [← HKK.out]
          go_wp2_with fail
          refine (IH.out _ (Below.refl _ _)).mono ?_
          rintro e w3 ⟨a3, c3, rfl, ho3, hb3⟩
          have HO3 : Hid (OwnK w.heap.size w3 a3 L c3 ls) := ho3
          clear ho3
          go_wp2_with fail
          refine (rooted_any x a3 L c3 ls _ HO3.out.toRow HUK.out (by omega)).mono ?_
          rintro e w5 ⟨rfl, hb5⟩
          rw [← HR.out]
          have hal : Below w5.heap.size w5 (w5.alloc (.cells #[.int .u64 r, .int .u64 p] 69)) := (Below.refl _ _).alloc (Nat.le_refl _) _
          have hb6 := keepT (keepT hb3 hb5) hal
          have hor := HO3.out.kept (keepT hb5 hal)
          have hcl := cell_oneK w5 r p
          go_wp2_with (first | (at_builtin; refine wpList_append_own _ rfl (.tmp 43) (.tmp 49) 39 rfl w.heap.size 69 i0 _ 2 16 Try.underlying39 hi hz0 hz1 hz2 rfl (by decide) _ L _ rfl hor.row ⟨w5.heap.size, 0, none⟩ 1 1 (flK [(r, p)]) rfl rfl hcl (flK_one _) (by unfold maxLen; omega) (by omega) (by have := hb6.size; exact this) ?_; intro v4 w4 hv4 hg4 _))
          obtain ⟨a4, c4, rfl, ho4⟩ := ownK_appended HUK.out (UK.one hrb hpb) hv4
          have hb4 : Below w.heap.size w w4 := hb6.grown hg4 hb6.size (fun k hk => (hor.row.lt k hk).1)
          go_ret
          exact ⟨a4, c4, by rw [HE.out, List.length_append, HLL.out]; rfl, by rw [HE.out, List.length_append, HLL.out]; exact ho4, hb4⟩
        · obtain ⟨q, rfl⟩ : ∃ q, i = k + q := ⟨i - k, by omega⟩
          obtain ⟨d, rfl⟩ : ∃ d, n = k + d := ⟨n - k, by omega⟩
          have k1 : ¬ (k : Int) + (q : Int) < (k : Int) := by omega
          have k2 : (k : Int) + (q : Int) - (k : Int) = (q : Int) := by omega
          have k3 : (k : Int) + (d : Int) - (k : Int) = (d : Int) := by omega
          have k4 : IntKind.i64.wrap (q : Int) = (q : Int) := by rw [IntKind.wrap_i64]; omega
          have k5 : IntKind.i64.wrap (d : Int) = (d : Int) := by rw [IntKind.wrap_i64]; omega
          have he := wayL_hi (k + d) (k + q) x ps (by omega) m HL.out (by rw [← hkk]; omega)
          rw [← hkk, ← HP.out, Nat.add_sub_cancel_left, Nat.add_sub_cancel_left] at he
          obtain ⟨ls, hls⟩ : ∃ ls, ls = wayL d q x (ps.take m) := ⟨_, rfl⟩
          have hok := wayL_ok d d q x (ps.take m) (Nat.le_refl _) hx (u64_take HRG.out m)
          have ih2 := fun W (hW : Below w.heap.size w W) => ih d q x (some ⟨b, off, none⟩) m c (ps.take m) W (by omega) (by omega) (by omega) (by omega) hx (HRW.out W hW) (by omega) (by omega) hcm
          rw [← hls] at ih2 hok he
          have HE : Hid (wayL (k + d) (k + q) x ps = ls ++ [(p, rtd x ls)]) := he
          obtain ⟨L, hL⟩ : ∃ L, L = ls.length := ⟨_, rfl⟩
          have hLb : L ≤ 2000 := by have := hok.2; rw [List.length_take] at this; omega
          have HUK : Hid (UK ls) := hok.1
          have hrb := rtd_bd x ls hx
          obtain ⟨r, hr⟩ : ∃ r, r = rtd x ls := ⟨_, rfl⟩
          have HR : Hid (r = rtd x ls) := hr
          have HLL : Hid (ls.length = L) := hL.symm
          rw [← hr] at hrb HE
          rw [← hL] at ih2
          have IH : Hid (_) := ih2
          clear hkk he hls ih2 ih HRW hok hL hr
          go_enter Try.func17, Try.ntmps17
          go_wp2_with fail
          refine (half_any _ _ (by omega)).mono ?_
          rintro e w2 ⟨rfl, hw⟩
          have hw2 := hw.symm
          subst hw2
          rw [← HKK.out]
          go_wp2_with fail
          refine (IH.out _ (Below.refl _ _)).mono ?_
          rintro e w3 ⟨a3, c3, rfl, ho3, hb3⟩
          have HO3 : Hid (OwnK w.heap.size w3 a3 L c3 ls) := ho3
          clear ho3
          go_wp2_with fail
          refine (rooted_any x a3 L c3 ls _ HO3.out.toRow HUK.out (by omega)).mono ?_
          rintro e w5 ⟨rfl, hb5⟩
          rw [← HR.out]
          have hal : Below w5.heap.size w5 (w5.alloc (.cells #[.int .u64 p, .int .u64 r] 69)) := (Below.refl _ _).alloc (Nat.le_refl _) _
          have hb6 := keepT (keepT hb3 hb5) hal
          have hor := HO3.out.kept (keepT hb5 hal)
          have hcl := cell_oneK w5 p r
          go_wp2_with (first | (at_builtin; refine wpList_append_own _ rfl (.tmp 60) (.tmp 66) 39 rfl w.heap.size 69 i0 _ 2 16 Try.underlying39 hi hz0 hz1 hz2 rfl (by decide) _ L _ rfl hor.row ⟨w5.heap.size, 0, none⟩ 1 1 (flK [(p, r)]) rfl rfl hcl (flK_one _) (by unfold maxLen; omega) (by omega) (by have := hb6.size; exact this) ?_; intro v4 w4 hv4 hg4 _))
          obtain ⟨a4, c4, rfl, ho4⟩ := ownK_appended HUK.out (UK.one hpb hrb) hv4
          have hb4 : Below w.heap.size w w4 := hb6.grown hg4 hb6.size (fun k hk => (hor.row.lt k hk).1)
          go_ret
          exact ⟨a4, c4, by rw [HE.out, List.length_append, HLL.out]; rfl, by rw [HE.out, List.length_append, HLL.out]; exact ho4, hb4⟩

end Go.Proofs.Ythncodopdcmfiaa

namespace Go.Proofs.Ythncodopdcmfiaa
open Go.RowKit Go.Sort

theorem rowK_cells {w : World} {ad : Addr} {m : Nat} {ys : List (Int × Int)} {B cap : Nat} (h : OwnK B w (some ad) m cap ys) : ∀ j u, (flK ys)[j]? = some u → w.cell? (ad.add j) = some u := by
  intro j u hj
  rcases h.row.2 with ⟨hv, _⟩ | ⟨g, cap', cur, hv, _⟩
  · simp at hv
  · simp only [Value.slice.injEq, Option.some.injEq] at hv
    obtain ⟨rfl, _⟩ := hv
    have hl := h.row.1
    have hjl : j < (flK ys).length := (List.getElem?_eq_some_iff.1 hj).1
    rw [Addr.add_lit, Nat.zero_add, h.row.cellAt j (by omega)]
    exact hj

set_option maxRecDepth 10000 in
set_option maxHeartbeats 8000000 in
theorem links_any : ∀ (N : Nat) (a : Option Addr) (n c : Nat) (zs : List Int) (w : World), n ≤ N → RowU w a n zs → n ≤ 200 → n ≤ c → c ≤ 9223372036854775807 →
    Calls Try.prog 18 #[.slice a n c] w fun e w' => ∃ g c', e = .returned (.slice (some ⟨g, 0, none⟩) (linksL zs).length c') ∧ OwnK w.heap.size w' (some ⟨g, 0, none⟩) (linksL zs).length c' (linksL zs) ∧ Below w.heap.size w w' := by
  intro N
  induction N with
  | zero =>
    intro a n c zs w hN h hn hc hcm
    obtain rfl : n = 0 := by omega
    have HE : Hid (linksL zs = []) := linksL_nil zs (by rw [h.len]; decide)
    have hoe := ownK_empty w
    have hbe : Below w.heap.size w (w.alloc (.cells #[] 69)) := (Below.refl _ _).alloc (Nat.le_refl _) _
    clear h
    go_enter Try.func18, Try.ntmps18
    go_wp2
    go_ret
    exact ⟨_, _, by rw [HE.out]; rfl, by rw [HE.out]; exact hoe, hbe⟩
  | succ N ih =>
    intro a n c zs w hN h hn hc hcm
    obtain ⟨i0, hi, hz0, hz1, hz2⟩ := info_parts Try.infoK
    have H0 : Hid (RowU w a n zs) := h
    have HL : Hid (zs.length = n) := h.len
    have HRG : Hid (∀ k, U64 (zs.getD k 0)) := h.rng
    by_cases h1 : n < 2
    · have HE : Hid (linksL zs = []) := linksL_nil zs (by rw [HL.out]; exact h1)
      have h1i : (n : Int) < 2 := by omega
      have hoe := ownK_empty w
      have hbe : Below w.heap.size w (w.alloc (.cells #[] 69)) := (Below.refl _ _).alloc (Nat.le_refl _) _
      clear h
      go_enter Try.func18, Try.ntmps18
      go_wp2
      go_ret
      exact ⟨_, _, by rw [HE.out]; rfl, by rw [HE.out]; exact hoe, hbe⟩
    · have z1 : ¬ (n : Int) < 2 := by omega
      obtain ⟨b, off, rfl, hlb, _⟩ := h.get 0 (by omega)
      clear h
      have hkl := hk_lt (show 2 ≤ n by omega)
      have hkp := hk_pos n
      obtain ⟨k, hkk⟩ : ∃ k, k = hk n := ⟨_, rfl⟩
      have HKK : Hid (k = hk n) := hkk
      rw [← hkk] at hkl hkp
      have i1 : (k : Int) ≤ (n : Int) := by omega
      have i2 : (k : Int) ≤ (c : Int) := by omega
      have i3 : ¬ (k : Int) = (c : Int) := by omega
      have i4 : ¬ k = c := by omega
      have i5 : k < c := by omega
      have i6 : ¬ c = k := by omega
      have H1 : Hid (∀ W, Below w.heap.size w W → RowU W (some ⟨b, off, none⟩) k (zs.take k)) := fun W hW => (H0.out.take k (by omega)).kept hW
      have H2 : Hid (∀ W, Below w.heap.size w W → RowU W (some ⟨b, off + k, none⟩) (n - k) (zs.drop k)) := fun W hW => (H0.out.drop k (by omega)).kept hW
      have he := linksL_more zs (by rw [HL.out]; omega)
      rw [HL.out, ← hkk] at he
      have l1 := linksL_len _ (zs.take k) (Nat.le_refl _) (by rw [List.length_take, HL.out]; omega)
      have l2 := linksL_len _ (zs.drop k) (Nat.le_refl _) (by rw [List.length_drop, HL.out]; omega)
      rw [List.length_take, HL.out] at l1
      rw [List.length_drop, HL.out] at l2
      have HU1 : Hid (UK (linksL (zs.take k))) := linksL_uk _ _ (Nat.le_refl _) (u64_take HRG.out k)
      have HU2 : Hid (UK (linksL (zs.drop k))) := linksL_uk _ _ (Nat.le_refl _) (u64_drop HRG.out k)
      have ih1 := fun W (hW : Below w.heap.size w W) => ih (some ⟨b, off, none⟩) k c (zs.take k) W (by omega) (H1.out W hW) (by omega) (by omega) hcm
      have ih2 := fun W (hW : Below w.heap.size w W) => ih (some ⟨b, off + k, none⟩) (n - k) (c - k) (zs.drop k) W (by omega) (H2.out W hW) (by omega) (by omega) (by omega)
      obtain ⟨la, hla⟩ : ∃ la, la = linksL (zs.take k) := ⟨_, rfl⟩
      obtain ⟨lb, hlb2⟩ : ∃ lb, lb = linksL (zs.drop k) := ⟨_, rfl⟩
      rw [← hla] at ih1 he HU1 l1
      rw [← hlb2] at ih2 he HU2 l2
      obtain ⟨La, hLa⟩ : ∃ La, La = la.length := ⟨_, rfl⟩
      obtain ⟨Lb, hLb⟩ : ∃ Lb, Lb = lb.length := ⟨_, rfl⟩
      have hLab : La ≤ 200 := by omega
      have hLbb : Lb ≤ 200 := by omega
      rw [← hLa] at ih1
      rw [← hLb] at ih2
      have b1 := rootL_bd _ (u64_take HRG.out k)
      have b2 := rootL_bd _ (u64_drop HRG.out k)
      have hr1 : lrR (zs.take k) = (rootL (zs.take k), true) := by unfold lrR; rw [if_pos (by rw [List.length_take, HL.out]; omega)]
      have hr2 : lrR (zs.drop k) = (rootL (zs.drop k), true) := by unfold lrR; rw [if_pos (by rw [List.length_drop, HL.out]; omega)]
      obtain ⟨r1, hq1⟩ : ∃ r1, r1 = rootL (zs.take k) := ⟨_, rfl⟩
      obtain ⟨r2, hq2⟩ : ∃ r2, r2 = rootL (zs.drop k) := ⟨_, rfl⟩
      rw [← hq1] at he b1 hr1
      rw [← hq2] at he b2 hr2
      have HE : Hid (linksL zs = la ++ lb ++ [(r1, r2)]) := he
      have HR1 : Hid (lrR (zs.take k) = (r1, true)) := hr1
      have HR2 : Hid (lrR (zs.drop k) = (r2, true)) := hr2
      have HLa : Hid (la.length = La) := hLa.symm
      have HLb : Hid (lb.length = Lb) := hLb.symm
      have HLf : Hid ((flK lb).length = Lb * 2) := by show _ = _; rw [flK_len, HLb.out]
      have IH1 : Hid (_) := ih1
      have IH2 : Hid (_) := ih2
      have TOK : Hid (∀ q : Nat, q = q) := fun _ => rfl
      have hdr : Below w.heap.size w w.drew := (Below.refl _ _).drew
      clear hkk he ih ih1 ih2 hla hlb2 hLa hLb hq1 hq2 hr1 hr2 l1 l2
      go_enter Try.func18, Try.ntmps18
      go_wp2_with fail
      refine (half_any n _ (by omega)).mono ?_
      rintro e w1 ⟨rfl, hw⟩
      have hw2 := hw.symm
      subst hw2
      rw [← HKK.out]
      go_wp2_with fail
      go_region_held_law (fun _ => True) (first | trivial)
        (first
          | (have tk := TOK; clear TOK tk; go_at_call 18; (try rw [if_neg i6]); refine (IH1.out _ hdr).mono ?_; rintro e w1 ⟨g1, c1, rfl, ho1, hb1⟩; have hb1' := keepT hdr hb1)
          | (go_at_call 18; (try rw [if_neg i6]); refine (IH2.out _ hb1').mono ?_; rintro e w2 ⟨g2, c2, rfl, ho2, hb2⟩; have hb2' := keepT hb1' hb2; have hor := ho1.kept hb2; have hcl := rowK_cells ho2)
          | (refine step_append_ownT rfl (.tmp 19) (.tmp 23) 39 rfl w.heap.size 69 i0 _ 2 16 Try.underlying39 hi hz0 hz1 hz2 rfl (by decide) _ La _ rfl hor.row ⟨g2, 0, none⟩ Lb c2 (flK lb) rfl HLf.out hcl (flK_one _) (by unfold maxLen; omega) (by omega) (by have := hb2'.size; exact this) ?_; intro v4 w4 hv4 hg4))
      all_goals
        obtain ⟨a4, c4, rfl, ho4⟩ := ownK_appended HU1.out HU2.out hv4
        have hb4 : Below w.heap.size w w4 := hb2'.grown hg4 hb2'.size (fun k hk => (hor.row.lt k hk).1)
        have HO4 : Hid (OwnK w.heap.size w4 a4 (La + Lb) c4 (la ++ lb)) := ho4
        clear hv4 hg4 hor hcl ho1 ho2 ho4
        go_wp2_with fail
        refine (implLogRoot_any _ k c (zs.take k) _ (H1.out _ hb4)).mono ?_
        rintro e w5 ⟨rfl, hb5⟩
        rw [HR1.out]
        have B5 := keepT hb4 hb5
        go_wp2_with fail
        refine (implLogRoot_any _ (n - k) (c - k) (zs.drop k) _ (H2.out _ B5)).mono ?_
        rintro e w6 ⟨rfl, hb6⟩
        rw [HR2.out]
        have B6 := keepT B5 hb6
        have hal : Below w6.heap.size w6 (w6.alloc (.cells #[.int .u64 r1, .int .u64 r2] 69)) := (Below.refl _ _).alloc (Nat.le_refl _) _
        have B7 := keepT B6 hal
        have hor := HO4.out.kept (keepT (keepT hb5 hb6) hal)
        have hcl := cell_oneK w6 r1 r2
        go_wp2_with (first | (at_builtin; refine wpList_append_own _ rfl (.tmp 39) (.tmp 43) 39 rfl w.heap.size 69 i0 _ 2 16 Try.underlying39 hi hz0 hz1 hz2 rfl (by decide) _ (La + Lb) _ rfl hor.row ⟨w6.heap.size, 0, none⟩ 1 1 (flK [(r1, r2)]) rfl rfl hcl (flK_one _) (by unfold maxLen; omega) (by omega) (by have := B7.size; exact this) ?_; intro v8 w8 hv8 hg8 _))
        obtain ⟨a8, c8, rfl, ho8⟩ := ownK_appended (HU1.out.append HU2.out) (UK.one b1 b2) hv8
        have hb8 : Below w.heap.size w w8 := B7.grown hg8 B7.size (fun k hk => (hor.row.lt k hk).1)
        obtain ⟨g8, rfl, _, _⟩ := ho8.shape (by omega)
        go_ret
        exact ⟨g8, c8, by rw [HE.out, List.length_append, List.length_append, HLa.out, HLb.out]; simp [Array.getD], by rw [HE.out, List.length_append, List.length_append, HLa.out, HLb.out]; exact ho8, hb8⟩

end Go.Proofs.Ythncodopdcmfiaa

namespace Go.Proofs.Ythncodopdcmfiaa
open Go.RowKit Go.Sort

def HitP (us bs : List (Int × Int)) (j k : Nat) : Prop := us.getD j (0, 0) ≠ bs.getD k (0, 0) ∧ pairN (us.getD j (0, 0)).1 (us.getD j (0, 0)).2 = pairN (bs.getD k (0, 0)).1 (bs.getD k (0, 0)).2
theorem clash_hit {us bs : List (Int × Int)} (h : ClashP us bs) : ∃ j k, j < us.length ∧ k < bs.length ∧ HitP us bs j k := by
  obtain ⟨l, hl, m, hm, h1, h2⟩ := h
  obtain ⟨j, hj, rfl⟩ := List.getElem_of_mem hl
  obtain ⟨k, hk, rfl⟩ := List.getElem_of_mem hm
  refine ⟨j, k, hj, hk, ?_⟩
  have e1 : us.getD j (0, 0) = us[j] := by simp [hj]
  have e2 : bs.getD k (0, 0) = bs[k] := by simp [hk]
  unfold HitP
  rw [e1, e2]
  exact ⟨h1, h2⟩

set_option maxRecDepth 10000 in
set_option maxHeartbeats 8000000 in
theorem clash_any (a b : Option Addr) (n m ca cb : Nat) (us bs : List (Int × Int)) (w : World) (hx : RowK w a n us) (hy : RowK w b m bs) (hu : UK us) (hv : UK bs) (hn : n ≤ 100000) (hm : m ≤ 100000) (hc : ClashP us bs) :
    Calls Try.prog 16 #[.slice a n ca, .slice b m cb] w fun e w' => e = .returned (.bool true) ∧ Below w.heap.size w w' := by
  have HX : Hid (RowK w a n us) := hx
  have HY : Hid (RowK w b m bs) := hy
  have LX : Hid (us.length = n) := hx.len
  have LY : Hid (bs.length = m) := hy.len
  have HU : Hid (UK us) := hu
  have HV : Hid (UK bs) := hv
  have HC : Hid (_) := clash_hit hc
  clear hx hy hu hv hc
  go_enter Try.func16, Try.ntmps16
  go_wp2
  go_loopw [5] (fun i wr => ∃ j : Nat, j ≤ n ∧ i = .int .i64 j ∧ Hid (∀ j' k, j' < j → k < m → ¬ HitP us bs j' k) ∧ Below w.heap.size w wr) (fun i _ => n - (intOf i).toNat)
  case atStart => exact ⟨0, Nat.zero_le _, rfl, fun j' k hj => absurd hj (Nat.not_lt_zero _), Below.refl _ _⟩
  case round =>
    obtain ⟨j, hj, rfl, HN, hbr⟩ := hrel
    by_cases hjn : j < n
    · have hjni : (j : Int) < (n : Int) := by omega
      obtain ⟨b1, o1, rfl, hl1, x0, x1⟩ := HX.out.get j hjn
      have hub := HU.out.at (k := j) (by rw [LX.out]; exact hjn)
      obtain ⟨p, hp⟩ : ∃ p, p = us.getD j (0, 0) := ⟨_, rfl⟩
      have HP : Hid (p = us.getD j (0, 0)) := hp
      rw [← hp] at x0 x1 hub
      clear hp
      obtain ⟨p0, p1⟩ := p
      obtain ⟨W0, rfl⟩ : ∃ W0, W0 = wr := ⟨wr, rfl⟩
      go_wp2
      go_loopw [6] (fun i wr => ∃ k : Nat, k ≤ m ∧ i = .int .i64 k ∧ Hid (∀ k', k' < k → ¬ HitP us bs j k') ∧ Below w.heap.size w wr) (fun i _ => m - (intOf i).toNat)
      case atStart => exact ⟨0, Nat.zero_le _, rfl, fun k hk => absurd hk (Nat.not_lt_zero _), hbr⟩
      case round =>
        obtain ⟨k, hk, rfl, HM, hbr2⟩ := hrel
        by_cases hkm : k < m
        · have hkmi : (k : Int) < (m : Int) := by omega
          obtain ⟨b2, o2, rfl, hl2, y0, y1⟩ := HY.out.get k hkm
          have hvb := HV.out.at (k := k) (by rw [LY.out]; exact hkm)
          obtain ⟨q, hq⟩ : ∃ q, q = bs.getD k (0, 0) := ⟨_, rfl⟩
          have HQ : Hid (q = bs.getD k (0, 0)) := hq
          rw [← hq] at y0 y1 hvb
          clear hq
          obtain ⟨q0, q1⟩ := q
          have X0 : wr.cell? ⟨b1, o1 + j * 2, none⟩ = some (.int .u64 p0) := (hbr2.cell (p := ⟨b1, o1 + j * 2, none⟩) hl1).trans x0
          have X1 : wr.cell? ⟨b1, o1 + j * 2 + 1, none⟩ = some (.int .u64 p1) := (hbr2.cell (p := ⟨b1, o1 + j * 2 + 1, none⟩) hl1).trans x1
          have Y0 : wr.cell? ⟨b2, o2 + k * 2, none⟩ = some (.int .u64 q0) := (hbr2.cell (p := ⟨b2, o2 + k * 2, none⟩) hl2).trans y0
          have Y1 : wr.cell? ⟨b2, o2 + k * 2 + 1, none⟩ = some (.int .u64 q1) := (hbr2.cell (p := ⟨b2, o2 + k * 2 + 1, none⟩) hl2).trans y1
          have qx0 := cell_regrown X0
          have qx1 := cell_regrown X1
          have qy0 := cell_regrown Y0
          have qy1 := cell_regrown Y1
          have HH : Hid (HitP us bs j k ↔ ((p0, p1) ≠ (q0, q1) ∧ pairN p0 p1 = pairN q0 q1)) := by show _ ↔ _; unfold HitP; rw [← HP.out, ← HQ.out]
          clear x0 x1 y0 y1
          by_cases hpq : p0 = q0 ∧ p1 = q1
          · obtain ⟨rfl, rfl⟩ := hpq
            go_wp2_with fail
            refine wp_region_quiet_below (by kernel_rfl) (by kernel_rfl) ?_
            iterate 34 (go_big_quiet_step (fail))
            refine wpQuiet_nil ?_
            intro _ hw'
            obtain ⟨⟨dq, osq⟩, hw''⟩ := hw'
            subst hw''
            have HBQ : Hid (Below w.heap.size w (grow (redrawn wr dq) osq)) := keepT hbr2 (below_regrown wr dq osq)
            have HM2 : Hid (∀ k', k' < k + 1 → ¬ HitP us bs j k') := fun k' hk' => by
              by_cases e : k' = k
              · subst e; intro hh; exact (HH.out.1 hh).1 rfl
              · exact HM.out k' (by omega)
            go_wp2
            go_roundw
            case rel => exact ⟨k + 1, by omega, by go_num, HM2, HBQ.out⟩
            case measure => simp [intOf]; omega
          · obtain ⟨u, hu1⟩ : ∃ u, u = pairN p0 p1 := ⟨_, rfl⟩
            obtain ⟨v, hv1⟩ : ∃ v, v = pairN q0 q1 := ⟨_, rfl⟩
            have HU1 : Hid (pairN p0 p1 = u) := hu1.symm
            have HV1 : Hid (pairN q0 q1 = v) := hv1.symm
            have ca0 : Hid (∀ d os, Calls Try.prog 42 #[.int .u64 p0, .int .u64 p1] (grow (redrawn wr d) os) fun e w'' => e = .returned (.int .u64 u) ∧ ∃ p : Regrown, w'' = grow (redrawn wr p.d) p.os) := fun d os => Calls.regrown_of (by rw [hu1]; exact over_any p0 p1 _ hub.1 hub.2)
            have ca1 : Hid (∀ d os, Calls Try.prog 42 #[.int .u64 q0, .int .u64 q1] (grow (redrawn wr d) os) fun e w'' => e = .returned (.int .u64 v) ∧ ∃ p : Regrown, w'' = grow (redrawn wr p.d) p.os) := fun d os => Calls.regrown_of (by rw [hv1]; exact over_any q0 q1 _ hvb.1 hvb.2)
            clear hu1 hv1
            by_cases h0 : p0 = q0
            · subst h0
              have h1 : ¬ p1 = q1 := fun e => hpq ⟨rfl, e⟩
              have z1 : (p1 == q1) = false := by simpa using h1
              by_cases huv : u = v
              · subst huv
                go_wp2_with fail
                refine wp_region_quiet_below (by kernel_rfl) (by kernel_rfl) ?_
                iterate 20 (go_big_quiet_step (fail))
                go_big_quiet_step (exact ca0.out _ _)
                iterate 10 (go_big_quiet_step (fail))
                go_big_quiet_step (exact ca1.out _ _)
                iterate 2 (go_big_quiet_step (fail))
                refine wpQuiet_nil ?_
                intro _ hw'
                obtain ⟨⟨dq, osq⟩, hw''⟩ := hw'
                subst hw''
                have HBQ : Hid (Below w.heap.size w (grow (redrawn wr dq) osq)) := keepT hbr2 (below_regrown wr dq osq)
                go_wp2
                go_ret
                exact ⟨rfl, HBQ.out⟩
              · have zu : (u == v) = false := by simpa using huv
                have HM2 : Hid (∀ k', k' < k + 1 → ¬ HitP us bs j k') := fun k' hk' => by
                  by_cases e : k' = k
                  · subst e; intro hh; exact huv (by rw [← HU1.out, ← HV1.out]; exact (HH.out.1 hh).2)
                  · exact HM.out k' (by omega)
                go_wp2_with fail
                refine wp_region_quiet_below (by kernel_rfl) (by kernel_rfl) ?_
                iterate 20 (go_big_quiet_step (fail))
                go_big_quiet_step (exact ca0.out _ _)
                iterate 10 (go_big_quiet_step (fail))
                go_big_quiet_step (exact ca1.out _ _)
                iterate 2 (go_big_quiet_step (fail))
                refine wpQuiet_nil ?_
                intro _ hw'
                obtain ⟨⟨dq, osq⟩, hw''⟩ := hw'
                subst hw''
                have HBQ : Hid (Below w.heap.size w (grow (redrawn wr dq) osq)) := keepT hbr2 (below_regrown wr dq osq)
                go_wp2
                go_roundw
                case rel => exact ⟨k + 1, by omega, by go_num, HM2, HBQ.out⟩
                case measure => simp [intOf]; omega
            · have z0 : (p0 == q0) = false := by simpa using h0
              by_cases huv : u = v
              · subst huv
                go_wp2_with fail
                refine wp_region_quiet_below (by kernel_rfl) (by kernel_rfl) ?_
                iterate 20 (go_big_quiet_step (fail))
                go_big_quiet_step (exact ca0.out _ _)
                iterate 10 (go_big_quiet_step (fail))
                go_big_quiet_step (exact ca1.out _ _)
                iterate 2 (go_big_quiet_step (fail))
                refine wpQuiet_nil ?_
                intro _ hw'
                obtain ⟨⟨dq, osq⟩, hw''⟩ := hw'
                subst hw''
                have HBQ : Hid (Below w.heap.size w (grow (redrawn wr dq) osq)) := keepT hbr2 (below_regrown wr dq osq)
                go_wp2
                go_ret
                exact ⟨rfl, HBQ.out⟩
              · have zu : (u == v) = false := by simpa using huv
                have HM2 : Hid (∀ k', k' < k + 1 → ¬ HitP us bs j k') := fun k' hk' => by
                  by_cases e : k' = k
                  · subst e; intro hh; exact huv (by rw [← HU1.out, ← HV1.out]; exact (HH.out.1 hh).2)
                  · exact HM.out k' (by omega)
                go_wp2_with fail
                refine wp_region_quiet_below (by kernel_rfl) (by kernel_rfl) ?_
                iterate 20 (go_big_quiet_step (fail))
                go_big_quiet_step (exact ca0.out _ _)
                iterate 10 (go_big_quiet_step (fail))
                go_big_quiet_step (exact ca1.out _ _)
                iterate 2 (go_big_quiet_step (fail))
                refine wpQuiet_nil ?_
                intro _ hw'
                obtain ⟨⟨dq, osq⟩, hw''⟩ := hw'
                subst hw''
                have HBQ : Hid (Below w.heap.size w (grow (redrawn wr dq) osq)) := keepT hbr2 (below_regrown wr dq osq)
                go_wp2
                go_roundw
                case rel => exact ⟨k + 1, by omega, by go_num, HM2, HBQ.out⟩
                case measure => simp [intOf]; omega
        · obtain rfl : k = m := by omega
          have HN2 : Hid (∀ j' k', j' < j + 1 → k' < k → ¬ HitP us bs j' k') := fun j' k' hj' hk' => by
            by_cases e : j' = j
            · subst e; exact HM.out k' hk'
            · exact HN.out j' k' (by omega) hk'
          go_wp2
          go_roundw
          case rel => exact ⟨j + 1, by omega, by go_num, HN2, hbr2⟩
          case measure => simp [intOf]; omega
    · obtain ⟨j', k', h1, h2, h3⟩ := HC.out
      exact absurd h3 (HN.out j' k' (by rw [LX.out] at h1; omega) (by rw [LY.out] at h2; exact h2))

end Go.Proofs.Ythncodopdcmfiaa

namespace Go.Proofs.Ythncodopdcmfiaa
open Go.RowKit Go.Sort

/-- The roots of the first m and of all n that a proof leads to; sp: as the specification works it out. -/
def bothR (sp : Bool) (old : Int) (m n : Nat) (fl : Bool) (ps : List Int) : Int × Int × Bool :=
  if _h : n ≤ m ∨ n ≤ 1 then
    if fl then (old, old, decide (ps.length = 0))
    else if sp then (if ps.length = 1 then (ps.getD 0 0, ps.getD 0 0, true) else (0, 0, false))
    else (if ps.length = 0 then (0, 0, false) else (ps.getD (ps.length - 1) 0, ps.getD (ps.length - 1) 0, decide (ps.length = 1)))
  else if ps.length = 0 then (0, 0, false)
  else if m ≤ hk n then
    ((bothR sp old m (hk n) fl (ps.take (ps.length - 1))).1, pairN (bothR sp old m (hk n) fl (ps.take (ps.length - 1))).2.1 (ps.getD (ps.length - 1) 0), (bothR sp old m (hk n) fl (ps.take (ps.length - 1))).2.2)
  else
    (pairN (ps.getD (ps.length - 1) 0) (bothR sp (if sp then old else 0) (m - hk n) (n - hk n) false (ps.take (ps.length - 1))).1, pairN (ps.getD (ps.length - 1) 0) (bothR sp (if sp then old else 0) (m - hk n) (n - hk n) false (ps.take (ps.length - 1))).2.1, (bothR sp (if sp then old else 0) (m - hk n) (n - hk n) false (ps.take (ps.length - 1))).2.2)
termination_by n
decreasing_by all_goals (have := hk_pos n; have := hk_lt (show 2 ≤ n by omega); omega)
theorem bothR_known (sp : Bool) (old : Int) (m n : Nat) (ps : List Int) (h : n ≤ m ∨ n ≤ 1) : bothR sp old m n true ps = (old, old, decide (ps.length = 0)) := by rw [bothR, dif_pos h]; rfl
theorem bothR_spec (old : Int) (m n : Nat) (ps : List Int) (h : n ≤ m ∨ n ≤ 1) : bothR true old m n false ps = if ps.length = 1 then (ps.getD 0 0, ps.getD 0 0, true) else (0, 0, false) := by rw [bothR, dif_pos h]; rfl
theorem bothR_impl (old : Int) (m n : Nat) (ps : List Int) (h : n ≤ m ∨ n ≤ 1) : bothR false old m n false ps = if ps.length = 0 then (0, 0, false) else (ps.getD (ps.length - 1) 0, ps.getD (ps.length - 1) 0, decide (ps.length = 1)) := by rw [bothR, dif_pos h]; rfl
theorem bothR_nil (sp : Bool) (old : Int) (m n : Nat) (fl : Bool) (ps : List Int) (h : 2 ≤ n) (hm : m < n) (hp : ps.length = 0) : bothR sp old m n fl ps = (0, 0, false) := by rw [bothR, dif_neg (by omega), if_pos hp]
theorem bothR_lo (sp : Bool) (old : Int) (m n : Nat) (fl : Bool) (ps : List Int) (h : 2 ≤ n) (hm : m < n) (q : Nat) (hp : ps.length = q + 1) (hi : m ≤ hk n) : bothR sp old m n fl ps = ((bothR sp old m (hk n) fl (ps.take q)).1, pairN (bothR sp old m (hk n) fl (ps.take q)).2.1 (ps.getD q 0), (bothR sp old m (hk n) fl (ps.take q)).2.2) := by
  conv => lhs; rw [bothR]
  rw [dif_neg (by omega), if_neg (by omega), if_pos hi, hp, Nat.add_sub_cancel]
theorem bothR_hi (sp : Bool) (old : Int) (m n : Nat) (fl : Bool) (ps : List Int) (h : 2 ≤ n) (hm : m < n) (q : Nat) (hp : ps.length = q + 1) (hi : ¬ m ≤ hk n) : bothR sp old m n fl ps = (pairN (ps.getD q 0) (bothR sp (if sp then old else 0) (m - hk n) (n - hk n) false (ps.take q)).1, pairN (ps.getD q 0) (bothR sp (if sp then old else 0) (m - hk n) (n - hk n) false (ps.take q)).2.1, (bothR sp (if sp then old else 0) (m - hk n) (n - hk n) false (ps.take q)).2.2) := by
  conv => lhs; rw [bothR]
  rw [dif_neg (by omega), if_neg (by omega), if_neg hi, hp, Nat.add_sub_cancel]
theorem bothR_bd : ∀ (N : Nat) (sp : Bool) (old : Int) (m n : Nat) (fl : Bool) (ps : List Int), n ≤ N → U64 old → (∀ k, U64 (ps.getD k 0)) → U64 (bothR sp old m n fl ps).1 ∧ U64 (bothR sp old m n fl ps).2.1 := by
  have z : U64 0 := by simp [U64]
  intro N
  induction N with
  | zero =>
    intro sp old m n fl ps hN ho hp
    cases fl with
    | true => rw [bothR_known sp old m n ps (by omega)]; exact ⟨ho, ho⟩
    | false =>
      cases sp with
      | true => rw [bothR_spec old m n ps (by omega)]; split; exact ⟨hp _, hp _⟩; exact ⟨z, z⟩
      | false => rw [bothR_impl old m n ps (by omega)]; split; exact ⟨z, z⟩; exact ⟨hp _, hp _⟩
  | succ N ih =>
    intro sp old m n fl ps hN ho hp
    by_cases h1 : n ≤ m ∨ n ≤ 1
    · cases fl with
      | true => rw [bothR_known sp old m n ps h1]; exact ⟨ho, ho⟩
      | false =>
        cases sp with
        | true => rw [bothR_spec old m n ps h1]; split; exact ⟨hp _, hp _⟩; exact ⟨z, z⟩
        | false => rw [bothR_impl old m n ps h1]; split; exact ⟨z, z⟩; exact ⟨hp _, hp _⟩
    · by_cases h2 : ps.length = 0
      · rw [bothR_nil sp old m n fl ps (by omega) (by omega) h2]; exact ⟨z, z⟩
      · by_cases h3 : m ≤ hk n
        · rw [bothR_lo sp old m n fl ps (by omega) (by omega) (ps.length - 1) (by omega) h3]
          exact ⟨(ih sp old m (hk n) fl _ (by have := hk_lt (show 2 ≤ n by omega); omega) ho (u64_take hp _)).1, pairN_bd _ _⟩
        · rw [bothR_hi sp old m n fl ps (by omega) (by omega) (ps.length - 1) (by omega) h3]
          exact ⟨pairN_bd _ _, pairN_bd _ _⟩
/-- Both sides work out the same, where the proof has as many digests as it must. -/
theorem both_same : ∀ (N : Nat) (o1 o2 : Int) (m n : Nat) (fl : Bool) (ps : List Int), n ≤ N → (fl = true → o1 = o2) → (bothR true o1 m n fl ps).2.2 = (bothR false o2 m n fl ps).2.2 ∧ ((bothR true o1 m n fl ps).2.2 = true → bothR true o1 m n fl ps = bothR false o2 m n fl ps) := by
  have base : ∀ (o1 o2 : Int) (m n : Nat) (fl : Bool) (ps : List Int), (n ≤ m ∨ n ≤ 1) → (fl = true → o1 = o2) → (bothR true o1 m n fl ps).2.2 = (bothR false o2 m n fl ps).2.2 ∧ ((bothR true o1 m n fl ps).2.2 = true → bothR true o1 m n fl ps = bothR false o2 m n fl ps) := by
    intro o1 o2 m n fl ps h1 ho
    cases fl with
    | true => rw [bothR_known true o1 m n ps h1, bothR_known false o2 m n ps h1, ho rfl]; exact ⟨rfl, fun _ => rfl⟩
    | false =>
      rw [bothR_spec o1 m n ps h1, bothR_impl o2 m n ps h1]
      by_cases h3 : ps.length = 1
      · rw [if_pos h3, if_neg (by omega), h3]; exact ⟨rfl, fun _ => rfl⟩
      · by_cases h4 : ps.length = 0
        · rw [if_neg h3, if_pos h4]; exact ⟨rfl, fun _ => rfl⟩
        · rw [if_neg h3, if_neg h4]; simp [h3]
  intro N
  induction N with
  | zero => intro o1 o2 m n fl ps hN ho; exact base o1 o2 m n fl ps (by omega) ho
  | succ N ih =>
    intro o1 o2 m n fl ps hN ho
    by_cases h1 : n ≤ m ∨ n ≤ 1
    · exact base o1 o2 m n fl ps h1 ho
    · have hl := hk_lt (show 2 ≤ n by omega)
      have hp := hk_pos n
      by_cases h2 : ps.length = 0
      · rw [bothR_nil true o1 m n fl ps (by omega) (by omega) h2, bothR_nil false o2 m n fl ps (by omega) (by omega) h2]; exact ⟨rfl, fun _ => rfl⟩
      · by_cases h3 : m ≤ hk n
        · rw [bothR_lo true o1 m n fl ps (by omega) (by omega) (ps.length - 1) (by omega) h3, bothR_lo false o2 m n fl ps (by omega) (by omega) (ps.length - 1) (by omega) h3]
          obtain ⟨e1, e2⟩ := ih o1 o2 m (hk n) fl (ps.take (ps.length - 1)) (by omega) ho
          exact ⟨e1, fun h => by rw [e2 h]⟩
        · rw [bothR_hi true o1 m n fl ps (by omega) (by omega) (ps.length - 1) (by omega) h3, bothR_hi false o2 m n fl ps (by omega) (by omega) (ps.length - 1) (by omega) h3]
          obtain ⟨e1, e2⟩ := ih (if true then o1 else 0) (if false then o2 else 0) (m - hk n) (n - hk n) false (ps.take (ps.length - 1)) (by omega) (by simp)
          exact ⟨e1, fun h => by rw [e2 h]⟩

end Go.Proofs.Ythncodopdcmfiaa

namespace Go.Proofs.Ythncodopdcmfiaa
open Go.RowKit Go.Sort

theorem results_br {fn : Func} {t u : Tmp} (h : fn.results = #[.cell t 74, .tmp u]) (tmps : Array Value) (g : Nat) (ht : tmps.getD t undef = .pointer (some ⟨g, 0, none⟩)) (v : Value) (hv : tmps.getD u undef = v) (w : World) (c0 c1 : Value)
    (hb : w.heap[g]? = some (.cells #[c0, c1] 74 (0, 0))) : (results fn tmps).run Try.prog w = .ok (.tuple #[.agg #[c0, c1], v]) w := by
  have d0 : w.cell? ⟨g, 0, none⟩ = some c0 := (cell_of_row _ g 0 _ 74 (0, 0) hb).trans rfl
  have d1 : w.cell? ⟨g, 1, none⟩ = some c1 := (cell_of_row _ g 1 _ 74 (0, 0) hb).trans rfl
  clear hb
  have ht' : tmps[t]?.getD undef = .pointer (some ⟨g, 0, none⟩) := by rw [← ht]; simp
  have hv' : tmps[u]?.getD undef = v := by rw [← hv]; simp
  simp [results, h, go_sem, ht', hv', d0, d1]
theorem heap_set2 {w : World} {g t : Nat} {c0 c1 : Value} (h : w.heap[g]? = some (.cells #[c0, c1] t (0, 0))) (v0 v1 : Value) : ((w.setCell ⟨g, 0, none⟩ v0).setCell ⟨g, 1, none⟩ v1).heap[g]? = some (.cells #[v0, v1] t (0, 0)) :=
  heap_setCell_same _ _ 1 _ t _ (heap_setCell_same _ _ 0 _ t _ h)
theorem two_blocksQ (w : World) (o0 o1 : Obj) : ((w.alloc o0).alloc o1).heap[w.heap.size]? = some o0 ∧ ((w.alloc o0).alloc o1).heap[w.heap.size + 1]? = some o1 := by
  have s1 : (w.alloc o0).heap.size = w.heap.size + 1 := by simp
  refine ⟨(heap_alloc_old (w.alloc o0) o1 (by simp)).trans (heap_alloc_new w _), ?_⟩
  rw [← s1]; exact heap_alloc_new _ _

set_option maxRecDepth 10000 in
set_option maxHeartbeats 4000000 in
theorem extendedRoots_any : ∀ (N : Nat) (old : Int) (m n : Nat) (fl : Bool) (a : Option Addr) (l c : Nat) (ps : List Int) (w : World), n ≤ N → 0 < m → m ≤ n → n ≤ 1000 → U64 old → RowU w a l ps → l ≤ c → c ≤ 9223372036854775807 →
    Calls Try.prog 46 #[.agg #[.int .i64 m, .int .u64 old, .bool fl], .int .i64 n, .slice a l c] w fun e w' => e = .returned (.tuple #[.agg #[.int .u64 (bothR false old m n fl ps).1, .int .u64 (bothR false old m n fl ps).2.1], .bool (bothR false old m n fl ps).2.2]) ∧ Below w.heap.size w w' := by
  intro N
  induction N with
  | zero => intro old m n fl a l c ps w hN h0; omega
  | succ N ih =>
    intro old m n fl a l c ps w hN h0 hin hn ho h hc hcm
    obtain ⟨w1, hw1⟩ : ∃ w1, w1 = (w.alloc (.cells #[.int .i64 m, .int .u64 old, .bool fl] 78)).alloc (.cells #[.int .u64 0, .int .u64 0] 74) := ⟨_, rfl⟩
    have hbb : Below w.heap.size w w1 := by rw [hw1]; exact ((Below.refl _ _).alloc (Nat.le_refl _) _).alloc (by simp) _
    have hsz : w1.heap.size = w.heap.size + 2 := by rw [hw1]; simp
    have HB : Hid (∀ W, Below w1.heap.size w1 W → W.heap[w.heap.size]? = some (.cells #[.int .i64 m, .int .u64 old, .bool fl] 78) ∧ W.heap[w.heap.size + 1]? = some (.cells #[.int .u64 0, .int .u64 0] 74)) := fun W hW => by
      have hh := two_blocksQ w (.cells #[.int .i64 m, .int .u64 old, .bool fl] 78) (.cells #[.int .u64 0, .int .u64 0] 74)
      rw [← hw1] at hh
      exact ⟨(hW.block _ (by omega)).trans hh.1, (hW.block _ (by omega)).trans hh.2⟩
    have HW : Hid (_ = _) := hw1
    clear hw1
    have H0 : Hid (∀ W, Below w.heap.size w W → RowU W a l ps) := fun W hW => h.kept hW
    have HL : Hid (ps.length = l) := h.len
    have HRG : Hid (∀ k, U64 (ps.getD k 0)) := h.rng
    clear h
    have hr1 := Below.refl w1.heap.size w1
    have s0 : w1.cell? ⟨w.heap.size, 0, none⟩ = some (.int .i64 m) := (cell_of_row _ _ 0 _ 78 (0, 0) (HB.out _ hr1).1).trans rfl
    have s1 : w1.cell? ⟨w.heap.size, 1, none⟩ = some (.int .u64 old) := (cell_of_row _ _ 1 _ 78 (0, 0) (HB.out _ hr1).1).trans rfl
    have s2 : w1.cell? ⟨w.heap.size, 2, none⟩ = some (.bool fl) := (cell_of_row _ _ 2 _ 78 (0, 0) (HB.out _ hr1).1).trans rfl
    by_cases h1 : m = n
    · subst h1
      cases fl with
      | true =>
        have HE : Hid (bothR false old m m true ps = (old, old, decide (l = 0))) := by show _ = _; rw [bothR_known false old m m ps (.inl (Nat.le_refl _)), HL.out]
        have f0 : w1.frozen? ⟨w.heap.size + 1, 0, none⟩ = false := frozen_of_row w1 _ 0 _ 74 (HB.out _ hr1).2
        have f1 : w1.frozen? ⟨w.heap.size + 1, 1, none⟩ = false := frozen_of_row w1 _ 1 _ 74 (HB.out _ hr1).2
        have r0 : w1.cell? ⟨w.heap.size + 1, 0, none⟩ = some (.int .u64 0) := (cell_of_row _ _ 0 _ 74 (0, 0) (HB.out _ hr1).2).trans rfl
        have r1 : w1.cell? ⟨w.heap.size + 1, 1, none⟩ = some (.int .u64 0) := (cell_of_row _ _ 1 _ 74 (0, 0) (HB.out _ hr1).2).trans rfl
        by_cases hl : l = 0
        · subst hl
          go_enter Try.func46, Try.ntmps46
          go_upto_region 1 with fail
          rw [← HW.out]
          clear HW
          go_wp2
          try simp only [Exit.inBlock, Exit.then]
          refine bodyPost_ret (results_br rfl _ (w.heap.size + 1) rfl _ rfl _ _ _ (heap_set2 (HB.out _ hr1).2 _ _)) rfl ⟨by rw [HE.out]; rfl, ((keepT hbb hr1).setCell (by simp) _).setCell (by simp) _⟩
        · have z0 : ((l : Int) == 0) = false := by simp; omega
          have z1 : decide (l = 0) = false := by simp; omega
          go_enter Try.func46, Try.ntmps46
          go_upto_region 1 with fail
          rw [← HW.out]
          clear HW
          go_wp2
          try simp only [Exit.inBlock, Exit.then]
          refine bodyPost_ret (results_br rfl _ (w.heap.size + 1) rfl _ rfl _ _ _ (heap_set2 (HB.out _ hr1).2 _ _)) rfl ⟨by rw [HE.out, z1]; rfl, ((keepT hbb hr1).setCell (by simp) _).setCell (by simp) _⟩
      | false =>
        have HE : Hid (bothR false old m m false ps = if l = 0 then (0, 0, false) else (ps.getD (l - 1) 0, ps.getD (l - 1) 0, decide (l = 1))) := by show _ = _; rw [bothR_impl old m m ps (.inl (Nat.le_refl _)), HL.out]
        by_cases hl : l = 0
        · subst hl
          have f0 : w1.frozen? ⟨w.heap.size + 1, 0, none⟩ = false := frozen_of_row w1 _ 0 _ 74 (HB.out _ hr1).2
          have f1 : w1.frozen? ⟨w.heap.size + 1, 1, none⟩ = false := frozen_of_row w1 _ 1 _ 74 (HB.out _ hr1).2
          have r0 : w1.cell? ⟨w.heap.size + 1, 0, none⟩ = some (.int .u64 0) := (cell_of_row _ _ 0 _ 74 (0, 0) (HB.out _ hr1).2).trans rfl
          have r1 : w1.cell? ⟨w.heap.size + 1, 1, none⟩ = some (.int .u64 0) := (cell_of_row _ _ 1 _ 74 (0, 0) (HB.out _ hr1).2).trans rfl
          go_enter Try.func46, Try.ntmps46
          go_upto_region 1 with fail
          rw [← HW.out]
          clear HW
          go_wp2_with fail
          refine (cutTop_none a c _).mono ?_
          rintro e w2 ⟨rfl, hw⟩
          have hw2 := hw.symm
          subst hw2
          go_wp2
          try simp only [Exit.inBlock, Exit.then]
          refine bodyPost_ret (results_br rfl _ (w.heap.size + 1) rfl _ rfl _ _ _ (heap_set2 (HB.out _ hr1).2 _ _)) rfl ⟨by rw [HE.out]; rfl, ((keepT hbb hr1).setCell (by simp) _).setCell (by simp) _⟩
        · obtain ⟨q, rfl⟩ : ∃ q, l = q + 1 := ⟨l - 1, by omega⟩
          have HE2 : Hid (bothR false old m m false ps = (ps.getD q 0, ps.getD q 0, decide (q = 0))) := by show _ = _; rw [HE.out, if_neg hl, Nat.add_sub_cancel]; simp
          by_cases hq : q = 0
          · subst hq
            go_enter Try.func46, Try.ntmps46
            go_upto_region 1 with fail
            rw [← HW.out]
            clear HW
            go_wp2_with fail
            refine (cutTop_more a 0 c ps _ (H0.out _ hbb) hc hcm).mono ?_
            rintro e w2 ⟨rfl, hb2⟩
            have s0 : w2.cell? ⟨w.heap.size, 0, none⟩ = some (.int .i64 m) := (cell_of_row _ _ 0 _ 78 (0, 0) (HB.out _ hb2).1).trans rfl
            have s1 : w2.cell? ⟨w.heap.size, 1, none⟩ = some (.int .u64 old) := (cell_of_row _ _ 1 _ 78 (0, 0) (HB.out _ hb2).1).trans rfl
            have s2 : w2.cell? ⟨w.heap.size, 2, none⟩ = some (.bool false) := (cell_of_row _ _ 2 _ 78 (0, 0) (HB.out _ hb2).1).trans rfl
            have f0 : w2.frozen? ⟨w.heap.size + 1, 0, none⟩ = false := frozen_of_row w2 _ 0 _ 74 (HB.out _ hb2).2
            have f1 : w2.frozen? ⟨w.heap.size + 1, 1, none⟩ = false := frozen_of_row w2 _ 1 _ 74 (HB.out _ hb2).2
            have r0 : w2.cell? ⟨w.heap.size + 1, 0, none⟩ = some (.int .u64 0) := (cell_of_row _ _ 0 _ 74 (0, 0) (HB.out _ hb2).2).trans rfl
            have r1 : w2.cell? ⟨w.heap.size + 1, 1, none⟩ = some (.int .u64 0) := (cell_of_row _ _ 1 _ 74 (0, 0) (HB.out _ hb2).2).trans rfl
            go_wp2
            try simp only [Exit.inBlock, Exit.then]
            refine bodyPost_ret (results_br rfl _ (w.heap.size + 1) rfl _ rfl _ _ _ (heap_set2 (HB.out _ hb2).2 _ _)) rfl ⟨by rw [HE2.out]; rfl, ((keepT hbb hb2).setCell (by simp) _).setCell (by simp) _⟩
          · have z0 : ((q : Int) == 0) = false := by simp; omega
            have z1 : decide (q = 0) = false := by simp; omega
            go_enter Try.func46, Try.ntmps46
            go_upto_region 1 with fail
            rw [← HW.out]
            clear HW
            go_wp2_with fail
            refine (cutTop_more a q c ps _ (H0.out _ hbb) hc hcm).mono ?_
            rintro e w2 ⟨rfl, hb2⟩
            have s0 : w2.cell? ⟨w.heap.size, 0, none⟩ = some (.int .i64 m) := (cell_of_row _ _ 0 _ 78 (0, 0) (HB.out _ hb2).1).trans rfl
            have s1 : w2.cell? ⟨w.heap.size, 1, none⟩ = some (.int .u64 old) := (cell_of_row _ _ 1 _ 78 (0, 0) (HB.out _ hb2).1).trans rfl
            have s2 : w2.cell? ⟨w.heap.size, 2, none⟩ = some (.bool false) := (cell_of_row _ _ 2 _ 78 (0, 0) (HB.out _ hb2).1).trans rfl
            have f0 : w2.frozen? ⟨w.heap.size + 1, 0, none⟩ = false := frozen_of_row w2 _ 0 _ 74 (HB.out _ hb2).2
            have f1 : w2.frozen? ⟨w.heap.size + 1, 1, none⟩ = false := frozen_of_row w2 _ 1 _ 74 (HB.out _ hb2).2
            have r0 : w2.cell? ⟨w.heap.size + 1, 0, none⟩ = some (.int .u64 0) := (cell_of_row _ _ 0 _ 74 (0, 0) (HB.out _ hb2).2).trans rfl
            have r1 : w2.cell? ⟨w.heap.size + 1, 1, none⟩ = some (.int .u64 0) := (cell_of_row _ _ 1 _ 74 (0, 0) (HB.out _ hb2).2).trans rfl
            go_wp2
            try simp only [Exit.inBlock, Exit.then]
            refine bodyPost_ret (results_br rfl _ (w.heap.size + 1) rfl _ rfl _ _ _ (heap_set2 (HB.out _ hb2).2 _ _)) rfl ⟨by rw [HE2.out, z1]; rfl, ((keepT hbb hb2).setCell (by simp) _).setCell (by simp) _⟩
    · have z1 : ((m : Int) == (n : Int)) = false := by simp; omega
      have z3 : ¬ (m : Int) = (n : Int) := by omega
      by_cases hl : l = 0
      · subst hl
        have HE : Hid (bothR false old m n fl ps = (0, 0, false)) := bothR_nil false old m n fl ps (by omega) (by omega) HL.out
        have f0 : w1.frozen? ⟨w.heap.size + 1, 0, none⟩ = false := frozen_of_row w1 _ 0 _ 74 (HB.out _ hr1).2
        have f1 : w1.frozen? ⟨w.heap.size + 1, 1, none⟩ = false := frozen_of_row w1 _ 1 _ 74 (HB.out _ hr1).2
        have r0 : w1.cell? ⟨w.heap.size + 1, 0, none⟩ = some (.int .u64 0) := (cell_of_row _ _ 0 _ 74 (0, 0) (HB.out _ hr1).2).trans rfl
        have r1 : w1.cell? ⟨w.heap.size + 1, 1, none⟩ = some (.int .u64 0) := (cell_of_row _ _ 1 _ 74 (0, 0) (HB.out _ hr1).2).trans rfl
        go_enter Try.func46, Try.ntmps46
        go_upto_region 1 with fail
        rw [← HW.out]
        clear HW
        go_wp2_with fail
        refine (cutTop_none a c _).mono ?_
        rintro e w2 ⟨rfl, hw⟩
        have hw2 := hw.symm
        subst hw2
        go_wp2
        try simp only [Exit.inBlock, Exit.then]
        refine bodyPost_ret (results_br rfl _ (w.heap.size + 1) rfl _ rfl _ _ _ (heap_set2 (HB.out _ hr1).2 _ _)) rfl ⟨by rw [HE.out]; rfl, ((keepT hbb hr1).setCell (by simp) _).setCell (by simp) _⟩
      · obtain ⟨q, rfl⟩ : ∃ q, l = q + 1 := ⟨l - 1, by omega⟩
        obtain ⟨p, hp⟩ : ∃ p, p = ps.getD q 0 := ⟨_, rfl⟩
        have HP : Hid (p = ps.getD q 0) := hp
        have hpb := HRG.out q
        rw [← hp] at hpb
        clear hp
        have hkl := hk_lt (show 2 ≤ n by omega)
        have hkp := hk_pos n
        obtain ⟨k, hkk⟩ : ∃ k, k = hk n := ⟨_, rfl⟩
        have HKK : Hid (k = hk n) := hkk
        rw [← hkk] at hkl hkp
        have HRW : Hid (∀ W, Below w.heap.size w W → RowU W a q (ps.take q)) := fun W hW => (H0.out W hW).take q (by omega)
        by_cases hik : m ≤ k
        · have k1 : (m : Int) ≤ (k : Int) := by omega
          have he := bothR_lo false old m n fl ps (by omega) (by omega) q HL.out (by rw [← hkk]; exact hik)
          rw [← hkk, ← HP.out] at he
          obtain ⟨v, hv⟩ : ∃ v, v = bothR false old m k fl (ps.take q) := ⟨_, rfl⟩
          have hvb := bothR_bd _ false old m k fl (ps.take q) (Nat.le_refl _) ho (u64_take HRG.out q)
          have ih2 := fun W (hW : Below w.heap.size w W) => ih old m k fl a q c (ps.take q) W (by omega) h0 hik (by omega) ho (HRW.out W hW) (by omega) hcm
          rw [← hv] at ih2 hvb he
          obtain ⟨v0, v1, ok⟩ := v
          have HE : Hid (bothR false old m n fl ps = (v0, pairN v1 p, ok)) := he
          have IH : Hid (_) := ih2
          have hv1 := hvb.2
          clear hkk he hv ih2 ih HRW hvb
          go_enter Try.func46, Try.ntmps46
          go_upto_region 1 with fail
          rw [← HW.out]
          clear HW
          go_wp2_with fail
          refine (cutTop_more a q c ps _ (H0.out _ hbb) hc hcm).mono ?_
          rintro e w2 ⟨rfl, hb2⟩
          rw [← HP.out]
          clear s0 s1 s2
          have s0 : w2.cell? ⟨w.heap.size, 0, none⟩ = some (.int .i64 m) := (cell_of_row _ _ 0 _ 78 (0, 0) (HB.out _ hb2).1).trans rfl
          have s1 : w2.cell? ⟨w.heap.size, 1, none⟩ = some (.int .u64 old) := (cell_of_row _ _ 1 _ 78 (0, 0) (HB.out _ hb2).1).trans rfl
          have s2 : w2.cell? ⟨w.heap.size, 2, none⟩ = some (.bool fl) := (cell_of_row _ _ 2 _ 78 (0, 0) (HB.out _ hb2).1).trans rfl
          go_wp2_with fail
          refine (firstPart_any _ _ (by omega)).mono ?_
          rintro e w3 ⟨rfl, hw⟩
          have hw3 := hw.symm
          subst hw3
          rw [← HKK.out]
          go_wp2_with fail
          refine (IH.out _ (keepT hbb hb2)).mono ?_
          rintro e w3 ⟨rfl, hb3⟩
          obtain ⟨w4, hw4⟩ : ∃ w4, w4 = w3.alloc (.cells #[.int .u64 v0, .int .u64 v1] 74) := ⟨_, rfl⟩
          have hb4 : Below w3.heap.size w3 w4 := by rw [hw4]; exact (Below.refl _ _).alloc (Nat.le_refl _) _
          have HB4 : Hid (∀ W, Below w4.heap.size w4 W → W.heap[w3.heap.size]? = some (.cells #[.int .u64 v0, .int .u64 v1] 74)) := fun W hW => (hW.block _ (by rw [hw4]; simp)).trans (by rw [hw4]; exact heap_alloc_new _ _)
          have hbx : Below w1.heap.size w1 w4 := keepT (keepT hb2 hb3) hb4
          have hlw : w3.heap.size < w4.heap.size := by rw [hw4]; simp
          have hlw2 : w.heap.size + 1 < w4.heap.size := by have := hbx.size; omega
          have HW4 : Hid (_ = _) := hw4
          clear s0 s1 s2 hw4
          go_upto_region 11 with fail
          rw [← HW4.out]
          clear HW4
          have x0 : w4.cell? ⟨w3.heap.size, 0, none⟩ = some (.int .u64 v0) := (cell_of_row _ _ 0 _ 74 (0, 0) (HB4.out _ (Below.refl _ _))).trans rfl
          have x1 : w4.cell? ⟨w3.heap.size, 1, none⟩ = some (.int .u64 v1) := (cell_of_row _ _ 1 _ 74 (0, 0) (HB4.out _ (Below.refl _ _))).trans rfl
          have hdr : Below w4.heap.size w4 w4.drew := (Below.refl _ _).drew
          go_region_with ((go_at_call 63; refine (pairOf_any v1 p _ hv1 hpb).mono ?_; rintro e w5 ⟨rfl, hb5⟩; have hb45 := keepT hdr hb5; have y0 : w5.cell? ⟨w3.heap.size, 0, none⟩ = some (.int .u64 v0) := (cell_of_row _ _ 0 _ 74 (0, 0) (HB4.out _ hb45)).trans rfl; have hb15 := keepT hbx hb45; have f0 : w5.frozen? ⟨w.heap.size + 1, 0, none⟩ = false := frozen_of_row w5 _ 0 _ 74 (HB.out _ hb15).2; have f1 : w5.frozen? ⟨w.heap.size + 1, 1, none⟩ = false := frozen_of_row w5 _ 1 _ 74 (HB.out _ hb15).2; have r0 : w5.cell? ⟨w.heap.size + 1, 0, none⟩ = some (.int .u64 0) := (cell_of_row _ _ 0 _ 74 (0, 0) (HB.out _ hb15).2).trans rfl; have r1 : w5.cell? ⟨w.heap.size + 1, 1, none⟩ = some (.int .u64 0) := (cell_of_row _ _ 1 _ 74 (0, 0) (HB.out _ hb15).2).trans rfl))
          all_goals
            go_wp2
            try simp only [Exit.inBlock, Exit.then]
            refine bodyPost_ret (results_br rfl _ (w.heap.size + 1) rfl _ rfl _ _ _ (heap_set2 (HB.out _ hb15).2 _ _)) rfl ⟨by rw [HE.out]; rfl, ((keepT hbb hb15).setCell (by simp) _).setCell (by simp) _⟩
        · obtain ⟨q2, rfl⟩ : ∃ q2, m = k + q2 := ⟨m - k, by omega⟩
          obtain ⟨d, rfl⟩ : ∃ d, n = k + d := ⟨n - k, by omega⟩
          have k1 : ¬ (k : Int) + (q2 : Int) ≤ (k : Int) := by omega
          have k2 : (k : Int) + (q2 : Int) - (k : Int) = (q2 : Int) := by omega
          have k3 : (k : Int) + (d : Int) - (k : Int) = (d : Int) := by omega
          have k4 : IntKind.i64.wrap (q2 : Int) = (q2 : Int) := by rw [IntKind.wrap_i64]; omega
          have k5 : IntKind.i64.wrap (d : Int) = (d : Int) := by rw [IntKind.wrap_i64]; omega
          have k6 : ((k + q2 : Nat) : Int) = (k : Int) + (q2 : Int) := by omega
          have he := bothR_hi false old (k + q2) (k + d) fl ps (by omega) (by omega) q HL.out (by rw [← hkk]; omega)
          rw [← hkk, ← HP.out, Nat.add_sub_cancel_left, Nat.add_sub_cancel_left, if_neg (by decide)] at he
          obtain ⟨v, hv⟩ : ∃ v, v = bothR false 0 q2 d false (ps.take q) := ⟨_, rfl⟩
          have hz : U64 0 := by simp [U64]
          have hvb := bothR_bd _ false 0 q2 d false (ps.take q) (Nat.le_refl _) hz (u64_take HRG.out q)
          have ih2 := fun W (hW : Below w.heap.size w W) => ih 0 q2 d false a q c (ps.take q) W (by omega) (by omega) (by omega) (by omega) hz (HRW.out W hW) (by omega) hcm
          rw [← hv] at ih2 hvb he
          obtain ⟨v0, v1, ok⟩ := v
          have HE : Hid (bothR false old (k + q2) (k + d) fl ps = (pairN p v0, pairN p v1, ok)) := he
          have IH : Hid (_) := ih2
          have hv1 := hvb.2
          have hv0 := hvb.1
          clear hkk he hv ih2 ih HRW hvb hz
          rw [k6] at s0 HW
          go_enter Try.func46, Try.ntmps46
          go_upto_region 1 with fail
          rw [← HW.out]
          clear HW
          go_wp2_with fail
          refine (cutTop_more a q c ps _ (H0.out _ hbb) hc hcm).mono ?_
          rintro e w2 ⟨rfl, hb2⟩
          rw [← HP.out]
          clear s0 s1 s2
          have s0 : w2.cell? ⟨w.heap.size, 0, none⟩ = some (.int .i64 ((k + q2 : Nat) : Int)) := (cell_of_row _ _ 0 _ 78 (0, 0) (HB.out _ hb2).1).trans rfl
          have s1 : w2.cell? ⟨w.heap.size, 1, none⟩ = some (.int .u64 old) := (cell_of_row _ _ 1 _ 78 (0, 0) (HB.out _ hb2).1).trans rfl
          have s2 : w2.cell? ⟨w.heap.size, 2, none⟩ = some (.bool fl) := (cell_of_row _ _ 2 _ 78 (0, 0) (HB.out _ hb2).1).trans rfl
          rw [k6] at s0
          go_wp2_with fail
          refine (firstPart_any _ _ (by omega)).mono ?_
          rintro e w3 ⟨rfl, hw⟩
          have hw3 := hw.symm
          subst hw3
          rw [← HKK.out]
          go_wp2_with fail
          refine (IH.out _ (keepT hbb hb2)).mono ?_
          rintro e w3 ⟨rfl, hb3⟩
          obtain ⟨w4, hw4⟩ : ∃ w4, w4 = w3.alloc (.cells #[.int .u64 v0, .int .u64 v1] 74) := ⟨_, rfl⟩
          have hb4 : Below w3.heap.size w3 w4 := by rw [hw4]; exact (Below.refl _ _).alloc (Nat.le_refl _) _
          have HB4 : Hid (∀ W, Below w4.heap.size w4 W → W.heap[w3.heap.size]? = some (.cells #[.int .u64 v0, .int .u64 v1] 74)) := fun W hW => (hW.block _ (by rw [hw4]; simp)).trans (by rw [hw4]; exact heap_alloc_new _ _)
          have hbx : Below w1.heap.size w1 w4 := keepT (keepT hb2 hb3) hb4
          have hlw : w3.heap.size < w4.heap.size := by rw [hw4]; simp
          have hlw2 : w.heap.size + 1 < w4.heap.size := by have := hbx.size; omega
          have HW4 : Hid (_ = _) := hw4
          clear s0 s1 s2 hw4
          go_upto_region 13 with fail
          rw [← HW4.out]
          clear HW4
          have x0 : w4.cell? ⟨w3.heap.size, 0, none⟩ = some (.int .u64 v0) := (cell_of_row _ _ 0 _ 74 (0, 0) (HB4.out _ (Below.refl _ _))).trans rfl
          have x1 : w4.cell? ⟨w3.heap.size, 1, none⟩ = some (.int .u64 v1) := (cell_of_row _ _ 1 _ 74 (0, 0) (HB4.out _ (Below.refl _ _))).trans rfl
          have hdr : Below w4.heap.size w4 w4.drew := (Below.refl _ _).drew
          go_region_with (first
            | (go_at_call_of 63 v0; refine (pairOf_any p v0 _ hpb hv0).mono ?_; rintro e w5 ⟨rfl, hb5⟩; have hb45 := keepT hdr hb5; have y0 : w5.cell? ⟨w3.heap.size, 1, none⟩ = some (.int .u64 v1) := (cell_of_row _ _ 1 _ 74 (0, 0) (HB4.out _ hb45)).trans rfl)
            | (go_at_call_of 63 v1; refine (pairOf_any p v1 _ hpb hv1).mono ?_; rintro e w6 ⟨rfl, hb6⟩; have hb15 := keepT hbx (keepT hb45 hb6); have f0 : w6.frozen? ⟨w.heap.size + 1, 0, none⟩ = false := frozen_of_row w6 _ 0 _ 74 (HB.out _ hb15).2; have f1 : w6.frozen? ⟨w.heap.size + 1, 1, none⟩ = false := frozen_of_row w6 _ 1 _ 74 (HB.out _ hb15).2; have r0 : w6.cell? ⟨w.heap.size + 1, 0, none⟩ = some (.int .u64 0) := (cell_of_row _ _ 0 _ 74 (0, 0) (HB.out _ hb15).2).trans rfl; have r1 : w6.cell? ⟨w.heap.size + 1, 1, none⟩ = some (.int .u64 0) := (cell_of_row _ _ 1 _ 74 (0, 0) (HB.out _ hb15).2).trans rfl))
          all_goals
            go_wp2
            try simp only [Exit.inBlock, Exit.then]
            refine bodyPost_ret (results_br rfl _ (w.heap.size + 1) rfl _ rfl _ _ _ (heap_set2 (HB.out _ hb15).2 _ _)) rfl ⟨by rw [HE.out]; rfl, ((keepT hbb hb15).setCell (by simp) _).setCell (by simp) _⟩

end Go.Proofs.Ythncodopdcmfiaa

namespace Go.Proofs.Ythncodopdcmfiaa
open Go.RowKit Go.Sort

end Go.Proofs.Ythncodopdcmfiaa

namespace Go.Proofs.Ythncodopdcmfiaa
open Go.RowKit Go.Sort

/-- Whether a proof of a beginning is taken. -/
def cxP (old m root n : Int) (ps : List Int) : Bool :=
  if 1 ≤ n ∧ n ≤ 200 ∧ 1 ≤ m ∧ m ≤ n then
    (bothR true old m.toNat n.toNat true ps).2.2 && (decide ((bothR true old m.toNat n.toNat true ps).1 = old) && decide ((bothR true old m.toNat n.toNat true ps).2.1 = root))
  else false
theorem cxP_impl (old root : Int) (m n : Nat) (ps : List Int) (h : 1 ≤ (n : Int) ∧ (n : Int) ≤ 200 ∧ 1 ≤ (m : Int) ∧ (m : Int) ≤ n) : cxP old m root n ps = ((bothR false old m n true ps).2.2 && (decide ((bothR false old m n true ps).1 = old) && decide ((bothR false old m n true ps).2.1 = root))) := by
  unfold cxP
  rw [if_pos h, Int.toNat_natCast, Int.toNat_natCast]
  obtain ⟨e1, e2⟩ := both_same n old old m n true ps (Nat.le_refl _) (fun _ => rfl)
  cases hb : (bothR true old m n true ps).2.2 with
  | false => rw [← e1, hb, Bool.false_and, Bool.false_and]
  | true => rw [← e2 hb, hb]

set_option maxRecDepth 10000 in
set_option maxHeartbeats 1000000 in
theorem implCheckExtend_any (old m root n : Int) (a : Option Addr) (l c : Nat) (ps : List Int) (w : World) (ho : U64 old) (h : RowU w a l ps) (hc : l ≤ c) (hcm : c ≤ 9223372036854775807) :
    Calls Try.prog 21 #[.int .u64 old, .int .i64 m, .int .u64 root, .int .i64 n, .slice a l c] w fun e w' => e = .returned (.bool (cxP old m root n ps)) ∧ Below w.heap.size w w' := by
  have H0 : Hid (RowU w a l ps) := h
  clear h
  by_cases h1 : 1 ≤ n ∧ n ≤ 200
  · by_cases h2 : 1 ≤ m ∧ m ≤ n
    · obtain ⟨n', rfl⟩ := Int.eq_ofNat_of_zero_le (show 0 ≤ n by omega)
      obtain ⟨m', rfl⟩ := Int.eq_ofNat_of_zero_le (show 0 ≤ m by omega)
      have hh : 1 ≤ (n' : Int) ∧ (n' : Int) ≤ 200 ∧ 1 ≤ (m' : Int) ∧ (m' : Int) ≤ n' := ⟨h1.1, h1.2, h2.1, h2.2⟩
      have HV : Hid (cxP old m' root n' ps = ((bothR false old m' n' true ps).2.2 && (decide ((bothR false old m' n' true ps).1 = old) && decide ((bothR false old m' n' true ps).2.1 = root)))) := cxP_impl old root m' n' ps hh
      obtain ⟨v, hv⟩ : ∃ v, v = bothR false old m' n' true ps := ⟨_, rfl⟩
      have hr := fun W (hW : Below w.heap.size w W) => extendedRoots_any n' old m' n' true a l c ps W (Nat.le_refl _) (by omega) (by omega) (by omega) ho (H0.out.kept hW) hc hcm
      rw [← hv] at hr HV
      have HR : Hid (_) := hr
      clear hv hr hh
      obtain ⟨v0, v1, ok⟩ := v
      go_enter Try.func21, Try.ntmps21
      go_wp2_with fail
      refine (inBounds_t (n' : Int) 1 200 _ h1).mono ?_
      rintro e w1 ⟨rfl, hw⟩
      have hw2 := hw.symm
      subst hw2
      go_wp2_with fail
      refine (inBounds_t (m' : Int) 1 (n' : Int) _ h2).mono ?_
      rintro e w1 ⟨rfl, hw⟩
      have hw2 := hw.symm
      subst hw2
      go_wp2_with fail
      refine (HR.out _ (Below.refl _ _)).mono ?_
      rintro e w1 ⟨rfl, hb1⟩
      obtain ⟨w2, hw2⟩ : ∃ w2, w2 = w1.alloc (.cells #[.int .u64 v0, .int .u64 v1] 74) := ⟨_, rfl⟩
      have hb2 : Below w1.heap.size w1 w2 := by rw [hw2]; exact (Below.refl _ _).alloc (Nat.le_refl _) _
      have hbk : w2.heap[w1.heap.size]? = some (.cells #[.int .u64 v0, .int .u64 v1] 74) := by rw [hw2]; exact heap_alloc_new _ _
      have x0 : w2.cell? ⟨w1.heap.size, 0, none⟩ = some (.int .u64 v0) := (cell_of_row _ _ 0 _ 74 (0, 0) hbk).trans rfl
      have x1 : w2.cell? ⟨w1.heap.size, 1, none⟩ = some (.int .u64 v1) := (cell_of_row _ _ 1 _ 74 (0, 0) hbk).trans rfl
      have HW2 : Hid (_ = _) := hw2
      have HB2 : Hid (Below w.heap.size w w2) := keepT hb1 hb2
      clear hw2 hbk hb2
      go_upto_region 4 with fail
      rw [← HW2.out]
      clear HW2
      cases ok with
      | false =>
        go_wp2
        go_ret
        exact ⟨by rw [HV.out]; rfl, HB2.out⟩
      | true =>
        by_cases hvo : v0 = old
        · subst hvo
          by_cases hvr : v1 = root
          · subst hvr
            go_wp2
            go_ret
            exact ⟨by rw [HV.out]; simp, HB2.out⟩
          · have z1 : (v1 == root) = false := by simpa using hvr
            go_wp2
            go_ret
            exact ⟨by rw [HV.out]; simp [hvr], HB2.out⟩
        · have z1 : (v0 == old) = false := by simpa using hvo
          go_wp2
          go_ret
          exact ⟨by rw [HV.out]; simp [hvo], HB2.out⟩
    · have HV : Hid (cxP old m root n ps = false) := by show _ = _; unfold cxP; rw [if_neg (fun hh => h2 ⟨hh.2.2.1, hh.2.2.2⟩)]
      go_enter Try.func21, Try.ntmps21
      go_wp2_with fail
      refine (inBounds_t n 1 200 _ h1).mono ?_
      rintro e w1 ⟨rfl, hw⟩
      have hw2 := hw.symm
      subst hw2
      go_wp2_with fail
      refine (inBounds_f m 1 n _ h2).mono ?_
      rintro e w1 ⟨rfl, hw⟩
      have hw2 := hw.symm
      subst hw2
      go_wp2
      go_ret
      exact ⟨by rw [HV.out]; rfl, Below.refl _ _⟩
  · have HV : Hid (cxP old m root n ps = false) := by show _ = _; unfold cxP; rw [if_neg (fun hh => h1 ⟨hh.1, hh.2.1⟩)]
    go_enter Try.func21, Try.ntmps21
    go_wp2_with fail
    refine (inBounds_f n 1 200 _ h1).mono ?_
    rintro e w1 ⟨rfl, hw⟩
    have hw2 := hw.symm
    subst hw2
    go_wp2
    go_ret
    exact ⟨by rw [HV.out]; rfl, Below.refl _ _⟩

end Go.Proofs.Ythncodopdcmfiaa

namespace Go.Proofs.Ythncodopdcmfiaa
open Go.RowKit Go.Sort

set_option maxRecDepth 10000 in
set_option maxHeartbeats 2000000 in
theorem extendProof_any : ∀ (N : Nat) (a : Option Addr) (n c : Nat) (zs : List Int) (i : Nat) (fl : Bool) (w : World), n ≤ N → RowU w a n zs → 0 < n → 0 < i → i ≤ n → n ≤ 1000 → n ≤ c → c ≤ 9223372036854775807 →
    Calls Try.prog 45 #[.slice a n c, .int .i64 i, .bool fl] w fun e w' => ∃ a' c', e = .returned (.slice a' (extL zs i fl).length c') ∧ OwnU w.heap.size w' a' (extL zs i fl).length c' (extL zs i fl) ∧ Below w.heap.size w w' := by
  intro N
  induction N with
  | zero => intro a n c zs i fl w hN h h0; omega
  | succ N ih =>
    intro a n c zs i fl w hN h h0 hi0 hin hn hc hcm
    obtain ⟨i0, hi, hz0, hz1, hz2⟩ := info_parts Try.infoU
    have H0 : Hid (RowU w a n zs) := h
    have HL : Hid (zs.length = n) := h.len
    obtain ⟨b, off, rfl, hlb, hc0⟩ := h.get 0 (by omega)
    clear h hc0
    by_cases h1 : i = n
    · subst h1
      cases fl with
      | true =>
        have HE : Hid (extL zs i true = []) := (extL_all zs i true (.inl (by rw [HL.out]; exact Nat.le_refl _))).trans rfl
        have hoe := ownU_none w.heap.size w
        have hbe := Below.refl w.heap.size w
        go_enter Try.func45, Try.ntmps45
        go_wp2
        go_ret
        exact ⟨_, _, by rw [HE.out]; rfl, by rw [HE.out]; exact hoe, hbe⟩
      | false =>
        have HE : Hid (extL zs i false = [rootL zs]) := (extL_all zs i false (.inl (by rw [HL.out]; exact Nat.le_refl _))).trans rfl
        go_enter Try.func45, Try.ntmps45
        go_wp2_with fail
        refine (rootOf_any (some ⟨b, off, none⟩) i c zs _ H0.out (by omega)).mono ?_
        rintro e w1 ⟨rfl, hb1⟩
        have hoe := rowU_lit1 w1 _ (rootL_bd zs H0.out.rng)
        have hbe : Below w.heap.size w (w1.alloc (.cells #[.int .u64 (rootL zs)] 27)) := hb1.alloc hb1.size _
        go_wp2
        go_ret
        exact ⟨_, _, by rw [HE.out]; rfl, by rw [HE.out]; exact hoe.mono hb1.size, hbe⟩
    · have z1 : ((i : Int) == (n : Int)) = false := by simp; omega
      have z3 : ¬ (i : Int) = (n : Int) := by omega
      have hkl := hk_lt (show 2 ≤ n by omega)
      have hkp := hk_pos n
      obtain ⟨k, hkk⟩ : ∃ k, k = hk n := ⟨_, rfl⟩
      have HKK : Hid (k = hk n) := hkk
      have HKZ : Hid (hk zs.length = k) := by show _ = _; rw [HL.out, hkk]
      rw [← hkk] at hkl hkp
      clear hkk
      have i1 : (k : Int) ≤ (n : Int) := by omega
      have i2 : (k : Int) ≤ (c : Int) := by omega
      have i3 : ¬ (k : Int) = (c : Int) := by omega
      have i4 : ¬ k = c := by omega
      have i5 : k < c := by omega
      have i6 : ¬ c = k := by omega
      have hdr : Below w.heap.size w w.drew := (Below.refl _ _).drew
      have H1 : Hid (∀ W, Below w.heap.size w W → RowU W (some ⟨b, off, none⟩) k (zs.take k)) := fun W hW => (H0.out.take k (by omega)).kept hW
      have H2 : Hid (∀ W, Below w.heap.size w W → RowU W (some ⟨b, off + k, none⟩) (n - k) (zs.drop k)) := fun W hW => (H0.out.drop k (by omega)).kept hW
      by_cases hik : i ≤ k
      · have j1 : (i : Int) ≤ (k : Int) := by omega
        obtain ⟨r, hr⟩ : ∃ r, r = rootL (zs.drop k) := ⟨_, rfl⟩
        have HR : Hid (r = rootL (zs.drop k)) := hr
        have HRB : Hid (U64 r) := by show U64 r; rw [hr]; exact rootL_bd _ (u64_drop H0.out.rng k)
        have HE : Hid (extL zs i fl = extL (zs.take k) i fl ++ [r]) := by show _ = _; rw [extL_lo zs i fl (by rw [HL.out]; omega) (by rw [HL.out]; omega) (by rw [HKZ.out]; exact hik), HKZ.out, hr]
        obtain ⟨L, hL⟩ : ∃ L, L = (extL (zs.take k) i fl).length := ⟨_, rfl⟩
        have HLL : Hid ((extL (zs.take k) i fl).length = L) := hL.symm
        have hLb : L ≤ 1001 := by have := extL_len _ (zs.take k) i fl (Nat.le_refl _); rw [List.length_take, HL.out] at this; omega
        have ih2 := fun W (hW : Below w.heap.size w W) => ih (some ⟨b, off, none⟩) k c (zs.take k) i fl W (by omega) (H1.out W hW) hkp hi0 hik (by omega) (by omega) hcm
        rw [← hL] at ih2
        have IH : Hid (_) := ih2
        clear hL hr ih ih2 H0
        go_enter Try.func45, Try.ntmps45
        go_wp2_with fail
        refine (firstPart_any n _ (by omega)).mono ?_
        rintro e w1 ⟨rfl, hw⟩
        have hw2 := hw.symm
        subst hw2
        rw [← HKK.out]
        go_wp2_with fail
        go_region_held_law (fun _ => True) (first | trivial)
          (first
            | (go_at_call 45; (try rw [if_neg i6]); (try rw [j6]); refine (IH.out _ hdr).mono ?_; rintro e w1 ⟨a1, c1, rfl, ho1, hb1⟩; have hb1' := keepT hdr hb1)
            | (go_at_call 32; (try rw [if_neg i6]); refine (rootOf_any (some ⟨b, off + k, none⟩) (n - k) (c - k) (zs.drop k) _ (H2.out _ hb1') (by omega)).mono ?_; rintro e w2 ⟨rfl, hb2⟩; rw [← HR.out]; have hb2' := keepT hb1' hb2; have hal : Below w2.heap.size w2 (w2.alloc (.cells #[.int .u64 r] 27)) := (Below.refl _ _).alloc (Nat.le_refl _) _; have hb3 := keepT hb2' hal; have hor := ho1.kept (keepT hb2 hal); have hcl := cell_oneU w2 r)
            | (refine step_append_ownT rfl (.tmp 27) (.tmp 32) 24 rfl w.heap.size 27 i0 _ 1 8 Try.underlying24 hi hz0 hz1 hz2 rfl (by decide) _ L _ rfl hor.row ⟨w2.heap.size, 0, none⟩ 1 1 ([r].map (Value.int .u64)) rfl rfl hcl (ints_oneCell .u64 [r]) (by unfold maxLen; omega) (by omega) (by have := hb3.size; exact this) ?_; intro v4 w4 hv4 hg4))
        all_goals
          rw [← List.map_append] at hv4
          obtain ⟨a4, c4, rfl, ho4⟩ := ownU_appended (u64_snoc hor.rng HRB.out) hv4
          have hb4 : Below w.heap.size w w4 := hb3.grown hg4 hb3.size (fun k hk => (hor.row.lt k hk).1)
          go_wp2
          go_ret
          exact ⟨a4, c4, by rw [HE.out, List.length_append, HLL.out]; simp [Array.getD], by rw [HE.out, List.length_append, HLL.out]; exact ho4, hb4⟩
      · have j1 : ¬ (i : Int) ≤ (k : Int) := by omega
        obtain ⟨q, rfl⟩ : ∃ q, i = k + q := ⟨i - k, by omega⟩
        have j2 : ((k + q : Nat) : Int) - (k : Int) = (q : Int) := by omega
        have j3 : IntKind.i64.wrap (((k + q : Nat) : Int) - (k : Int)) = (q : Int) := by rw [j2, IntKind.wrap_i64]; omega
        have j4 : IntKind.i64.wrap ((k : Int) + (q : Int) - (k : Int)) = (q : Int) := by rw [IntKind.wrap_i64]; omega
        have j5 : (k : Int) + (q : Int) - (k : Int) = (q : Int) := by omega
        have j6 : IntKind.i64.wrap (q : Int) = (q : Int) := by rw [IntKind.wrap_i64]; omega
        obtain ⟨r, hr⟩ : ∃ r, r = rootL (zs.take k) := ⟨_, rfl⟩
        have HR : Hid (r = rootL (zs.take k)) := hr
        have HRB : Hid (U64 r) := by show U64 r; rw [hr]; exact rootL_bd _ (u64_take H0.out.rng k)
        have HE : Hid (extL zs (k + q) fl = extL (zs.drop k) q false ++ [r]) := by show _ = _; rw [extL_hi zs (k + q) fl (by rw [HL.out]; omega) (by rw [HL.out]; omega) (by rw [HKZ.out]; omega), HKZ.out, hr, Nat.add_sub_cancel_left]
        obtain ⟨L, hL⟩ : ∃ L, L = (extL (zs.drop k) q false).length := ⟨_, rfl⟩
        have HLL : Hid ((extL (zs.drop k) q false).length = L) := hL.symm
        have hLb : L ≤ 1001 := by have := extL_len _ (zs.drop k) q false (Nat.le_refl _); rw [List.length_drop, HL.out] at this; omega
        have ih2 := fun W (hW : Below w.heap.size w W) => ih (some ⟨b, off + k, none⟩) (n - k) (c - k) (zs.drop k) q false W (by omega) (H2.out W hW) (by omega) (by omega) (by omega) (by omega) (by omega) (by omega)
        rw [← hL] at ih2
        have IH : Hid (_) := ih2
        clear hL hr ih ih2 H0
        go_enter Try.func45, Try.ntmps45
        go_wp2_with fail
        refine (firstPart_any n _ (by omega)).mono ?_
        rintro e w1 ⟨rfl, hw⟩
        have hw2 := hw.symm
        subst hw2
        rw [← HKK.out]
        go_wp2_with fail
        go_region_held_law (fun _ => True) (first | trivial)
          (first
            | (go_at_call 45; (try rw [if_neg i6]); (try rw [j6]); refine (IH.out _ hdr).mono ?_; rintro e w1 ⟨a1, c1, rfl, ho1, hb1⟩; have hb1' := keepT hdr hb1)
            | (go_at_call 32; (try rw [if_neg i6]); refine (rootOf_any (some ⟨b, off, none⟩) k c (zs.take k) _ (H1.out _ hb1') (by omega)).mono ?_; rintro e w2 ⟨rfl, hb2⟩; rw [← HR.out]; have hb2' := keepT hb1' hb2; have hal : Below w2.heap.size w2 (w2.alloc (.cells #[.int .u64 r] 27)) := (Below.refl _ _).alloc (Nat.le_refl _) _; have hb3 := keepT hb2' hal; have hor := ho1.kept (keepT hb2 hal); have hcl := cell_oneU w2 r)
            | (refine step_append_ownT rfl (.tmp 40) (.tmp 45) 24 rfl w.heap.size 27 i0 _ 1 8 Try.underlying24 hi hz0 hz1 hz2 rfl (by decide) _ L _ rfl hor.row ⟨w2.heap.size, 0, none⟩ 1 1 ([r].map (Value.int .u64)) rfl rfl hcl (ints_oneCell .u64 [r]) (by unfold maxLen; omega) (by omega) (by have := hb3.size; exact this) ?_; intro v4 w4 hv4 hg4))
        all_goals
          rw [← List.map_append] at hv4
          obtain ⟨a4, c4, rfl, ho4⟩ := ownU_appended (u64_snoc hor.rng HRB.out) hv4
          have hb4 : Below w.heap.size w w4 := hb3.grown hg4 hb3.size (fun k hk => (hor.row.lt k hk).1)
          go_wp2
          go_ret
          exact ⟨a4, c4, by rw [HE.out, List.length_append, HLL.out]; simp [Array.getD], by rw [HE.out, List.length_append, HLL.out]; exact ho4, hb4⟩

end Go.Proofs.Ythncodopdcmfiaa

namespace Go.Proofs.Ythncodopdcmfiaa
open Go.RowKit Go.Sort

set_option maxRecDepth 10000 in
set_option maxHeartbeats 2000000 in
theorem l15Extend_any : ∀ (N : Nat) (a : Option Addr) (n c : Nat) (zs : List Int) (i : Nat) (fl : Bool) (w : World), n ≤ N → RowU w a n zs → 0 < n → 0 < i → i ≤ n → n ≤ 1000 → n ≤ c → c ≤ 9223372036854775807 →
    Calls Try.prog 48 #[.slice a n c, .int .i64 i, .bool fl] w fun e w' => ∃ a' c', e = .returned (.slice a' (extL zs i fl).length c') ∧ OwnU w.heap.size w' a' (extL zs i fl).length c' (extL zs i fl) ∧ Below w.heap.size w w' := by
  intro N
  induction N with
  | zero => intro a n c zs i fl w hN h h0; omega
  | succ N ih =>
    intro a n c zs i fl w hN h h0 hi0 hin hn hc hcm
    obtain ⟨i0, hi, hz0, hz1, hz2⟩ := info_parts Try.infoU
    have H0 : Hid (RowU w a n zs) := h
    have HL : Hid (zs.length = n) := h.len
    obtain ⟨b, off, rfl, hlb, hc0⟩ := h.get 0 (by omega)
    clear h hc0
    by_cases h1 : i = n
    · subst h1
      cases fl with
      | true =>
        have HE : Hid (extL zs i true = []) := (extL_all zs i true (.inl (by rw [HL.out]; exact Nat.le_refl _))).trans rfl
        have hoe := ownU_empty w
        have hbe : Below w.heap.size w (w.alloc (.cells #[] 27)) := (Below.refl _ _).alloc (Nat.le_refl _) _
        go_enter Try.func48, Try.ntmps48
        go_wp2
        go_ret
        exact ⟨_, _, by rw [HE.out]; rfl, by rw [HE.out]; exact hoe, hbe⟩
      | false =>
        have HE : Hid (extL zs i false = [rootL zs]) := (extL_all zs i false (.inl (by rw [HL.out]; exact Nat.le_refl _))).trans rfl
        go_enter Try.func48, Try.ntmps48
        go_wp2_with fail
        refine (l15Root_any i (some ⟨b, off, none⟩) i c zs _ (Nat.le_refl _) H0.out (by omega) (by omega) (by omega)).mono ?_
        rintro e w1 ⟨rfl, hb1⟩
        have hoe := rowU_lit1 w1 _ (rootL_bd zs H0.out.rng)
        have hbe : Below w.heap.size w (w1.alloc (.cells #[.int .u64 (rootL zs)] 27)) := hb1.alloc hb1.size _
        go_wp2
        go_ret
        exact ⟨_, _, by rw [HE.out]; rfl, by rw [HE.out]; exact hoe.mono hb1.size, hbe⟩
    · have z1 : ((i : Int) == (n : Int)) = false := by simp; omega
      have z3 : ¬ (i : Int) = (n : Int) := by omega
      have hkl := hk_lt (show 2 ≤ n by omega)
      have hkp := hk_pos n
      obtain ⟨k, hkk⟩ : ∃ k, k = hk n := ⟨_, rfl⟩
      have HKK : Hid (k = hk n) := hkk
      have HKZ : Hid (hk zs.length = k) := by show _ = _; rw [HL.out, hkk]
      rw [← hkk] at hkl hkp
      clear hkk
      have i1 : (k : Int) ≤ (n : Int) := by omega
      have i2 : (k : Int) ≤ (c : Int) := by omega
      have i3 : ¬ (k : Int) = (c : Int) := by omega
      have i4 : ¬ k = c := by omega
      have i5 : k < c := by omega
      have i6 : ¬ c = k := by omega
      have hdr : Below w.heap.size w w.drew := (Below.refl _ _).drew
      have H1 : Hid (∀ W, Below w.heap.size w W → RowU W (some ⟨b, off, none⟩) k (zs.take k)) := fun W hW => (H0.out.take k (by omega)).kept hW
      have H2 : Hid (∀ W, Below w.heap.size w W → RowU W (some ⟨b, off + k, none⟩) (n - k) (zs.drop k)) := fun W hW => (H0.out.drop k (by omega)).kept hW
      by_cases hik : i ≤ k
      · have j1 : (i : Int) ≤ (k : Int) := by omega
        obtain ⟨r, hr⟩ : ∃ r, r = rootL (zs.drop k) := ⟨_, rfl⟩
        have HR : Hid (r = rootL (zs.drop k)) := hr
        have HRB : Hid (U64 r) := by show U64 r; rw [hr]; exact rootL_bd _ (u64_drop H0.out.rng k)
        have HE : Hid (extL zs i fl = extL (zs.take k) i fl ++ [r]) := by show _ = _; rw [extL_lo zs i fl (by rw [HL.out]; omega) (by rw [HL.out]; omega) (by rw [HKZ.out]; exact hik), HKZ.out, hr]
        obtain ⟨L, hL⟩ : ∃ L, L = (extL (zs.take k) i fl).length := ⟨_, rfl⟩
        have HLL : Hid ((extL (zs.take k) i fl).length = L) := hL.symm
        have hLb : L ≤ 1001 := by have := extL_len _ (zs.take k) i fl (Nat.le_refl _); rw [List.length_take, HL.out] at this; omega
        have ih2 := fun W (hW : Below w.heap.size w W) => ih (some ⟨b, off, none⟩) k c (zs.take k) i fl W (by omega) (H1.out W hW) hkp hi0 hik (by omega) (by omega) hcm
        rw [← hL] at ih2
        have IH : Hid (_) := ih2
        clear hL hr ih ih2 H0
        go_enter Try.func48, Try.ntmps48
        go_wp2_with fail
        refine (l15Half_any n _ (by omega)).mono ?_
        rintro e w1 ⟨rfl, hw⟩
        have hw2 := hw.symm
        subst hw2
        rw [← HKK.out]
        go_wp2_with fail
        go_region_held_law (fun _ => True) (first | trivial)
          (first
            | (go_at_call 48; (try rw [if_neg i6]); (try rw [j6]); refine (IH.out _ hdr).mono ?_; rintro e w1 ⟨a1, c1, rfl, ho1, hb1⟩; have hb1' := keepT hdr hb1)
            | (go_at_call 33; (try rw [if_neg i6]); refine (l15Root_any (n - k) (some ⟨b, off + k, none⟩) (n - k) (c - k) (zs.drop k) _ (Nat.le_refl _) (H2.out _ hb1') (by omega) (by omega) (by omega)).mono ?_; rintro e w2 ⟨rfl, hb2⟩; rw [← HR.out]; have hb2' := keepT hb1' hb2; have hal : Below w2.heap.size w2 (w2.alloc (.cells #[.int .u64 r] 27)) := (Below.refl _ _).alloc (Nat.le_refl _) _; have hb3 := keepT hb2' hal; have hor := ho1.kept (keepT hb2 hal); have hcl := cell_oneU w2 r)
            | (refine step_append_ownT rfl (.tmp 28) (.tmp 33) 24 rfl w.heap.size 27 i0 _ 1 8 Try.underlying24 hi hz0 hz1 hz2 rfl (by decide) _ L _ rfl hor.row ⟨w2.heap.size, 0, none⟩ 1 1 ([r].map (Value.int .u64)) rfl rfl hcl (ints_oneCell .u64 [r]) (by unfold maxLen; omega) (by omega) (by have := hb3.size; exact this) ?_; intro v4 w4 hv4 hg4))
        all_goals
          rw [← List.map_append] at hv4
          obtain ⟨a4, c4, rfl, ho4⟩ := ownU_appended (u64_snoc hor.rng HRB.out) hv4
          have hb4 : Below w.heap.size w w4 := hb3.grown hg4 hb3.size (fun k hk => (hor.row.lt k hk).1)
          go_wp2
          go_ret
          exact ⟨a4, c4, by rw [HE.out, List.length_append, HLL.out]; simp [Array.getD], by rw [HE.out, List.length_append, HLL.out]; exact ho4, hb4⟩
      · have j1 : ¬ (i : Int) ≤ (k : Int) := by omega
        obtain ⟨q, rfl⟩ : ∃ q, i = k + q := ⟨i - k, by omega⟩
        have j2 : ((k + q : Nat) : Int) - (k : Int) = (q : Int) := by omega
        have j3 : IntKind.i64.wrap (((k + q : Nat) : Int) - (k : Int)) = (q : Int) := by rw [j2, IntKind.wrap_i64]; omega
        have j4 : IntKind.i64.wrap ((k : Int) + (q : Int) - (k : Int)) = (q : Int) := by rw [IntKind.wrap_i64]; omega
        have j5 : (k : Int) + (q : Int) - (k : Int) = (q : Int) := by omega
        have j6 : IntKind.i64.wrap (q : Int) = (q : Int) := by rw [IntKind.wrap_i64]; omega
        obtain ⟨r, hr⟩ : ∃ r, r = rootL (zs.take k) := ⟨_, rfl⟩
        have HR : Hid (r = rootL (zs.take k)) := hr
        have HRB : Hid (U64 r) := by show U64 r; rw [hr]; exact rootL_bd _ (u64_take H0.out.rng k)
        have HE : Hid (extL zs (k + q) fl = extL (zs.drop k) q false ++ [r]) := by show _ = _; rw [extL_hi zs (k + q) fl (by rw [HL.out]; omega) (by rw [HL.out]; omega) (by rw [HKZ.out]; omega), HKZ.out, hr, Nat.add_sub_cancel_left]
        obtain ⟨L, hL⟩ : ∃ L, L = (extL (zs.drop k) q false).length := ⟨_, rfl⟩
        have HLL : Hid ((extL (zs.drop k) q false).length = L) := hL.symm
        have hLb : L ≤ 1001 := by have := extL_len _ (zs.drop k) q false (Nat.le_refl _); rw [List.length_drop, HL.out] at this; omega
        have ih2 := fun W (hW : Below w.heap.size w W) => ih (some ⟨b, off + k, none⟩) (n - k) (c - k) (zs.drop k) q false W (by omega) (H2.out W hW) (by omega) (by omega) (by omega) (by omega) (by omega) (by omega)
        rw [← hL] at ih2
        have IH : Hid (_) := ih2
        clear hL hr ih ih2 H0
        go_enter Try.func48, Try.ntmps48
        go_wp2_with fail
        refine (l15Half_any n _ (by omega)).mono ?_
        rintro e w1 ⟨rfl, hw⟩
        have hw2 := hw.symm
        subst hw2
        rw [← HKK.out]
        go_wp2_with fail
        go_region_held_law (fun _ => True) (first | trivial)
          (first
            | (go_at_call 48; (try rw [if_neg i6]); (try rw [j6]); refine (IH.out _ hdr).mono ?_; rintro e w1 ⟨a1, c1, rfl, ho1, hb1⟩; have hb1' := keepT hdr hb1)
            | (go_at_call 33; (try rw [if_neg i6]); refine (l15Root_any k (some ⟨b, off, none⟩) k c (zs.take k) _ (Nat.le_refl _) (H1.out _ hb1') (by omega) (by omega) hcm).mono ?_; rintro e w2 ⟨rfl, hb2⟩; rw [← HR.out]; have hb2' := keepT hb1' hb2; have hal : Below w2.heap.size w2 (w2.alloc (.cells #[.int .u64 r] 27)) := (Below.refl _ _).alloc (Nat.le_refl _) _; have hb3 := keepT hb2' hal; have hor := ho1.kept (keepT hb2 hal); have hcl := cell_oneU w2 r)
            | (refine step_append_ownT rfl (.tmp 41) (.tmp 46) 24 rfl w.heap.size 27 i0 _ 1 8 Try.underlying24 hi hz0 hz1 hz2 rfl (by decide) _ L _ rfl hor.row ⟨w2.heap.size, 0, none⟩ 1 1 ([r].map (Value.int .u64)) rfl rfl hcl (ints_oneCell .u64 [r]) (by unfold maxLen; omega) (by omega) (by have := hb3.size; exact this) ?_; intro v4 w4 hv4 hg4))
        all_goals
          rw [← List.map_append] at hv4
          obtain ⟨a4, c4, rfl, ho4⟩ := ownU_appended (u64_snoc hor.rng HRB.out) hv4
          have hb4 : Below w.heap.size w w4 := hb3.grown hg4 hb3.size (fun k hk => (hor.row.lt k hk).1)
          go_wp2
          go_ret
          exact ⟨a4, c4, by rw [HE.out, List.length_append, HLL.out]; simp [Array.getD], by rw [HE.out, List.length_append, HLL.out]; exact ho4, hb4⟩

end Go.Proofs.Ythncodopdcmfiaa

namespace Go.Proofs.Ythncodopdcmfiaa
open Go.RowKit Go.Sort

def extR (zs : List Int) (m : Int) : List Int × Bool := if zs.length ≤ 200 ∧ 1 ≤ m ∧ m ≤ zs.length then (extL zs m.toNat true, true) else ([], false)
theorem extR_le (zs : List Int) (m : Int) : (extR zs m).1.length ≤ 1002 := by
  unfold extR
  split
  · rename_i h
    have := extL_len _ zs m.toNat true (Nat.le_refl _)
    show (extL zs m.toNat true).length ≤ _
    omega
  · exact Nat.zero_le _

set_option maxRecDepth 10000 in
set_option maxHeartbeats 1000000 in
theorem specExtend_any (a : Option Addr) (n c : Nat) (zs : List Int) (m : Int) (w : World) (h : RowU w a n zs) (hn : n ≤ 1048576) (hc : n ≤ c) (hcm : c ≤ 9223372036854775807) :
    Calls Try.prog 24 #[.slice a n c, .int .i64 m] w fun e w' => ∃ a' c', e = .returned (.tuple #[.slice a' (extR zs m).1.length c', .bool (extR zs m).2]) ∧ OwnU w.heap.size w' a' (extR zs m).1.length c' (extR zs m).1 ∧ Below w.heap.size w w' := by
  have H0 : Hid (RowU w a n zs) := h
  have HL : Hid (zs.length = n) := h.len
  clear h
  by_cases hg : n ≤ 200 ∧ 1 ≤ m ∧ m ≤ n
  · obtain ⟨k, rfl⟩ := Int.eq_ofNat_of_zero_le (show 0 ≤ m by omega)
    have HV : Hid (extR zs k = (extL zs k true, true)) := by show _ = _; unfold extR; rw [if_pos (by rw [HL.out]; exact hg)]; rfl
    have hg1 : ¬ (200 : Int) < (n : Int) := by omega
    have hg2 : ¬ (k : Int) < 1 := by omega
    have hg3 : ¬ (n : Int) < (k : Int) := by omega
    have u1 : IntKind.i64.wrap ((n : Int) - 1) = (n : Int) - 1 := by rw [IntKind.wrap_i64]; omega
    go_enter Try.func24, Try.ntmps24
    go_wp2_with fail
    refine (l15Extend_any n a n c zs k true _ (Nat.le_refl _) H0.out (by omega) (by omega) (by omega) (by omega) hc hcm).mono ?_
    rintro e w1 ⟨a1, c1, rfl, ho1, hb1⟩
    go_wp2
    go_ret2
    exact ⟨a1, c1, by rw [HV.out]; rfl, by rw [HV.out]; exact ho1, hb1⟩
  · have HV : Hid (extR zs m = ([], false)) := by show _ = _; unfold extR; rw [if_neg (by rw [HL.out]; exact hg)]
    have hoe := ownU_empty w
    have hbe : Below w.heap.size w (w.alloc (.cells #[] 27)) := (Below.refl _ _).alloc (Nat.le_refl _) _
    by_cases hb : (200 : Int) < (n : Int)
    · go_enter Try.func24, Try.ntmps24
      go_wp2
      go_ret2
      exact ⟨_, _, by rw [HV.out]; rfl, by rw [HV.out]; exact hoe, hbe⟩
    · by_cases hb2 : m < 1
      · go_enter Try.func24, Try.ntmps24
        go_wp2
        go_ret2
        exact ⟨_, _, by rw [HV.out]; rfl, by rw [HV.out]; exact hoe, hbe⟩
      · have hb3 : (n : Int) < m := by omega
        go_enter Try.func24, Try.ntmps24
        go_wp2
        go_ret2
        exact ⟨_, _, by rw [HV.out]; rfl, by rw [HV.out]; exact hoe, hbe⟩

set_option maxRecDepth 10000 in
set_option maxHeartbeats 1000000 in
theorem implExtend_any (a : Option Addr) (n c : Nat) (zs : List Int) (m : Int) (w : World) (h : RowU w a n zs) (hn : n ≤ 1048576) (hc : n ≤ c) (hcm : c ≤ 9223372036854775807) :
    Calls Try.prog 20 #[.slice a n c, .int .i64 m] w fun e w' => ∃ a' c', e = .returned (.tuple #[.slice a' (extR zs m).1.length c', .bool (extR zs m).2]) ∧ OwnU w.heap.size w' a' (extR zs m).1.length c' (extR zs m).1 ∧ Below w.heap.size w w' := by
  have H0 : Hid (RowU w a n zs) := h
  have HL : Hid (zs.length = n) := h.len
  clear h
  by_cases hg : n ≤ 200 ∧ 1 ≤ m ∧ m ≤ n
  · obtain ⟨k, rfl⟩ := Int.eq_ofNat_of_zero_le (show 0 ≤ m by omega)
    have HV : Hid (extR zs k = (extL zs k true, true)) := by show _ = _; unfold extR; rw [if_pos (by rw [HL.out]; exact hg)]; rfl
    have hg1 : ¬ (200 : Int) < (n : Int) := by omega
    have hg2 : ¬ (k : Int) < 1 := by omega
    have hg3 : ¬ (n : Int) < (k : Int) := by omega
    have u1 : IntKind.i64.wrap ((n : Int) - 1) = (n : Int) - 1 := by rw [IntKind.wrap_i64]; omega
    go_enter Try.func20, Try.ntmps20
    go_wp2_with fail
    refine (inBounds_t (k : Int) 1 ((n : Int)) _ (by omega)).mono ?_
    rintro e w1 ⟨rfl, hw⟩
    have hw2 := hw.symm
    subst hw2
    go_wp2_with fail
    refine (extendProof_any n a n c zs k true _ (Nat.le_refl _) H0.out (by omega) (by omega) (by omega) (by omega) hc hcm).mono ?_
    rintro e w1 ⟨a1, c1, rfl, ho1, hb1⟩
    go_wp2
    go_ret2
    exact ⟨a1, c1, by rw [HV.out]; rfl, by rw [HV.out]; exact ho1, hb1⟩
  · have HV : Hid (extR zs m = ([], false)) := by show _ = _; unfold extR; rw [if_neg (by rw [HL.out]; exact hg)]
    have hoe := ownU_none w.heap.size w
    have hbe := Below.refl w.heap.size w
    by_cases hb : (200 : Int) < (n : Int)
    · go_enter Try.func20, Try.ntmps20
      go_wp2
      go_ret2
      exact ⟨_, _, by rw [HV.out]; rfl, by rw [HV.out]; exact hoe, hbe⟩
    · have u1 : IntKind.i64.wrap ((n : Int) - 1) = (n : Int) - 1 := by rw [IntKind.wrap_i64]; omega
      go_enter Try.func20, Try.ntmps20
      go_wp2_with fail
      refine (inBounds_f m 1 ((n : Int)) _ (by omega)).mono ?_
      rintro e w1 ⟨rfl, hw⟩
      have hw2 := hw.symm
      subst hw2
      go_wp2
      go_ret2
      exact ⟨_, _, by rw [HV.out]; rfl, by rw [HV.out]; exact hoe, hbe⟩

end Go.Proofs.Ythncodopdcmfiaa

namespace Go.Proofs.Ythncodopdcmfiaa
open Go.RowKit Go.Sort

theorem hk_take {m k n : Nat} (h : k = hk n) (h1 : k < m) (h2 : m ≤ n) : hk m = k := by
  have hg := hk_ge n
  rw [← h] at hg
  exact hk_of (by obtain ⟨j, hj⟩ := hk_pow n; exact ⟨j, by rw [h, hj]⟩) (.inr h1) (by omega)
theorem root_hi (zs : List Int) (m : Nat) (h : hk zs.length < m) (hm : m ≤ zs.length) : rootL (zs.take m) = pairN (rootL (zs.take (hk zs.length))) (rootL ((zs.drop (hk zs.length)).take (m - hk zs.length))) := by
  have lm : (zs.take m).length = m := by rw [List.length_take]; omega
  have hp := hk_pos zs.length
  have e := hk_take rfl h hm
  rw [rootL_more (zs.take m) (by omega), lm, e, List.take_take, List.drop_take]
  rw [show min (hk zs.length) m = hk zs.length by omega]
/-- The row's own proof of a beginning is taken. -/
theorem both_own : ∀ (N : Nat) (zs : List Int) (m : Nat) (fl : Bool) (old : Int), zs.length ≤ N → 0 < m → m ≤ zs.length → (fl = true → old = rootL (zs.take m)) →
    bothR false old m zs.length fl (extL zs m fl) = (rootL (zs.take m), rootL zs, true) := by
  intro N
  induction N with
  | zero => intro zs m fl old h h0 hm; omega
  | succ N ih =>
    intro zs m fl old h h0 hm ho
    by_cases h1 : m = zs.length
    · subst h1
      have et : zs.take zs.length = zs := List.take_of_length_le (Nat.le_refl _)
      rw [extL_all zs zs.length fl (.inl (Nat.le_refl _)), et]
      rw [et] at ho
      cases fl with
      | true => rw [bothR_known false old _ _ _ (.inl (Nat.le_refl _)), ho rfl]; rfl
      | false => rw [bothR_impl old _ _ _ (.inl (Nat.le_refl _))]; simp
    · have hl := hk_lt (show 2 ≤ zs.length by omega)
      have hp := hk_pos zs.length
      have lt : (zs.take (hk zs.length)).length = hk zs.length := by rw [List.length_take]; omega
      have ld : (zs.drop (hk zs.length)).length = zs.length - hk zs.length := List.length_drop
      by_cases hik : m ≤ hk zs.length
      · rw [extL_lo zs m fl (by omega) (by omega) hik]
        have tt : (zs.take (hk zs.length)).take m = zs.take m := by rw [List.take_take, show min m (hk zs.length) = m by omega]
        have e := ih (zs.take (hk zs.length)) m fl old (by omega) h0 (by omega) (by rw [tt]; exact ho)
        rw [lt, tt] at e
        rw [bothR_lo false old m zs.length fl _ (by omega) (by omega) (extL (zs.take (hk zs.length)) m fl).length (by simp) hik, List.take_left' rfl, e, rootL_more zs (by omega)]
        simp
      · rw [extL_hi zs m fl (by omega) (by omega) hik]
        have e := ih (zs.drop (hk zs.length)) (m - hk zs.length) false 0 (by omega) (by omega) (by omega) (by simp)
        rw [ld] at e
        rw [bothR_hi false old m zs.length fl _ (by omega) (by omega) (extL (zs.drop (hk zs.length)) (m - hk zs.length) false).length (by simp) hik, List.take_left' rfl, if_neg (by decide), e, rootL_more zs (by omega), root_hi zs m (by omega) hm]
        simp
/-- What grow works out. -/
structure Grw where
  old : Int
  all : Int
  list : List (Int × Int)
  ok : Bool
def grwR (m n : Nat) (own : Bool) (old : Int) (ps : List Int) : Grw :=
  if _h : n ≤ m ∨ n ≤ 1 then
    if own then ⟨old, old, [], true⟩
    else if ps.length = 0 then ⟨0, 0, [], false⟩
    else ⟨ps.getD (ps.length - 1) 0, ps.getD (ps.length - 1) 0, [], true⟩
  else if ps.length = 0 then ⟨0, 0, [], false⟩
  else if m ≤ hk n then
    ⟨(grwR m (hk n) own old (ps.take (ps.length - 1))).old, pairN (grwR m (hk n) own old (ps.take (ps.length - 1))).all (ps.getD (ps.length - 1) 0), (grwR m (hk n) own old (ps.take (ps.length - 1))).list ++ [((grwR m (hk n) own old (ps.take (ps.length - 1))).all, ps.getD (ps.length - 1) 0)], (grwR m (hk n) own old (ps.take (ps.length - 1))).ok⟩
  else
    ⟨pairN (ps.getD (ps.length - 1) 0) (grwR (m - hk n) (n - hk n) false old (ps.take (ps.length - 1))).old, pairN (ps.getD (ps.length - 1) 0) (grwR (m - hk n) (n - hk n) false old (ps.take (ps.length - 1))).all, (grwR (m - hk n) (n - hk n) false old (ps.take (ps.length - 1))).list ++ [(ps.getD (ps.length - 1) 0, (grwR (m - hk n) (n - hk n) false old (ps.take (ps.length - 1))).all)] ++ [(ps.getD (ps.length - 1) 0, (grwR (m - hk n) (n - hk n) false old (ps.take (ps.length - 1))).old)], (grwR (m - hk n) (n - hk n) false old (ps.take (ps.length - 1))).ok⟩
termination_by n
decreasing_by all_goals (have := hk_pos n; have := hk_lt (show 2 ≤ n by omega); omega)
theorem grwR_own (m n : Nat) (old : Int) (ps : List Int) (h : n ≤ m ∨ n ≤ 1) : grwR m n true old ps = ⟨old, old, [], true⟩ := by rw [grwR, dif_pos h]; rfl
theorem grwR_top (m n : Nat) (old : Int) (ps : List Int) (h : n ≤ m ∨ n ≤ 1) : grwR m n false old ps = if ps.length = 0 then ⟨0, 0, [], false⟩ else ⟨ps.getD (ps.length - 1) 0, ps.getD (ps.length - 1) 0, [], true⟩ := by rw [grwR, dif_pos h]; rfl
theorem grwR_nil (m n : Nat) (own : Bool) (old : Int) (ps : List Int) (h : 2 ≤ n) (hm : m < n) (hp : ps.length = 0) : grwR m n own old ps = ⟨0, 0, [], false⟩ := by rw [grwR, dif_neg (by omega), if_pos hp]
theorem grwR_lo (m n : Nat) (own : Bool) (old : Int) (ps : List Int) (h : 2 ≤ n) (hm : m < n) (q : Nat) (hp : ps.length = q + 1) (hi : m ≤ hk n) : grwR m n own old ps = ⟨(grwR m (hk n) own old (ps.take q)).old, pairN (grwR m (hk n) own old (ps.take q)).all (ps.getD q 0), (grwR m (hk n) own old (ps.take q)).list ++ [((grwR m (hk n) own old (ps.take q)).all, ps.getD q 0)], (grwR m (hk n) own old (ps.take q)).ok⟩ := by
  conv => lhs; rw [grwR]
  rw [dif_neg (by omega), if_neg (by omega), if_pos hi, hp, Nat.add_sub_cancel]
theorem grwR_hi (m n : Nat) (own : Bool) (old : Int) (ps : List Int) (h : 2 ≤ n) (hm : m < n) (q : Nat) (hp : ps.length = q + 1) (hi : ¬ m ≤ hk n) : grwR m n own old ps = ⟨pairN (ps.getD q 0) (grwR (m - hk n) (n - hk n) false old (ps.take q)).old, pairN (ps.getD q 0) (grwR (m - hk n) (n - hk n) false old (ps.take q)).all, (grwR (m - hk n) (n - hk n) false old (ps.take q)).list ++ [(ps.getD q 0, (grwR (m - hk n) (n - hk n) false old (ps.take q)).all)] ++ [(ps.getD q 0, (grwR (m - hk n) (n - hk n) false old (ps.take q)).old)], (grwR (m - hk n) (n - hk n) false old (ps.take q)).ok⟩ := by
  conv => lhs; rw [grwR]
  rw [dif_neg (by omega), if_neg (by omega), if_neg hi, hp, Nat.add_sub_cancel]
/-- All that it has are digests; its pairs are not many. -/
theorem grwR_ok : ∀ (N m n : Nat) (own : Bool) (old : Int) (ps : List Int), n ≤ N → U64 old → (∀ k, U64 (ps.getD k 0)) → U64 (grwR m n own old ps).old ∧ U64 (grwR m n own old ps).all ∧ UK (grwR m n own old ps).list ∧ (grwR m n own old ps).list.length ≤ 2 * ps.length := by
  have z : U64 0 := by simp [U64]
  have base : ∀ (m n : Nat) (own : Bool) (old : Int) (ps : List Int), (n ≤ m ∨ n ≤ 1) → U64 old → (∀ k, U64 (ps.getD k 0)) → U64 (grwR m n own old ps).old ∧ U64 (grwR m n own old ps).all ∧ UK (grwR m n own old ps).list ∧ (grwR m n own old ps).list.length ≤ 2 * ps.length := by
    intro m n own old ps h ho hp
    cases own with
    | true => rw [grwR_own m n old ps h]; exact ⟨ho, ho, UK.nil, Nat.zero_le _⟩
    | false =>
      rw [grwR_top m n old ps h]
      split
      · exact ⟨z, z, UK.nil, Nat.zero_le _⟩
      · exact ⟨hp _, hp _, UK.nil, Nat.zero_le _⟩
  intro N
  induction N with
  | zero => intro m n own old ps hN ho hp; exact base m n own old ps (by omega) ho hp
  | succ N ih =>
    intro m n own old ps hN ho hp
    by_cases h1 : n ≤ m ∨ n ≤ 1
    · exact base m n own old ps h1 ho hp
    · have hl := hk_lt (show 2 ≤ n by omega)
      have hp0 := hk_pos n
      by_cases h2 : ps.length = 0
      · rw [grwR_nil m n own old ps (by omega) (by omega) h2]; exact ⟨z, z, UK.nil, Nat.zero_le _⟩
      · obtain ⟨q, hq⟩ : ∃ q, ps.length = q + 1 := ⟨ps.length - 1, by omega⟩
        by_cases h3 : m ≤ hk n
        · rw [grwR_lo m n own old ps (by omega) (by omega) q hq h3]
          obtain ⟨g1, g2, g3, g4⟩ := ih m (hk n) own old (ps.take q) (by omega) ho (u64_take hp q)
          rw [List.length_take] at g4
          exact ⟨g1, pairN_bd _ _, g3.append (UK.one g2 (hp q)), by show List.length (_ ++ _) ≤ _; rw [List.length_append, List.length_singleton]; omega⟩
        · rw [grwR_hi m n own old ps (by omega) (by omega) q hq h3]
          obtain ⟨g1, g2, g3, g4⟩ := ih (m - hk n) (n - hk n) false old (ps.take q) (by omega) ho (u64_take hp q)
          rw [List.length_take] at g4
          exact ⟨pairN_bd _ _, pairN_bd _ _, (g3.append (UK.one (hp q) g2)).append (UK.one (hp q) g1), by show List.length (_ ++ _ ++ _) ≤ _; rw [List.length_append, List.length_append, List.length_singleton, List.length_singleton]; omega⟩
theorem grw_both : ∀ (N m n : Nat) (fl : Bool) (o1 o2 : Int) (ps : List Int), n ≤ N → (fl = true → o1 = o2) → (bothR false o1 m n fl ps).2.2 = true →
    (grwR m n fl o2 ps).ok = true ∧ (grwR m n fl o2 ps).old = (bothR false o1 m n fl ps).1 ∧ (grwR m n fl o2 ps).all = (bothR false o1 m n fl ps).2.1 := by
  have base : ∀ (m n : Nat) (fl : Bool) (o1 o2 : Int) (ps : List Int), (n ≤ m ∨ n ≤ 1) → (fl = true → o1 = o2) → (bothR false o1 m n fl ps).2.2 = true →
      (grwR m n fl o2 ps).ok = true ∧ (grwR m n fl o2 ps).old = (bothR false o1 m n fl ps).1 ∧ (grwR m n fl o2 ps).all = (bothR false o1 m n fl ps).2.1 := by
    intro m n fl o1 o2 ps h ho hok
    cases fl with
    | true => rw [bothR_known false o1 m n ps h, grwR_own m n o2 ps h, ho rfl]; exact ⟨rfl, rfl, rfl⟩
    | false =>
      rw [bothR_impl o1 m n ps h] at hok ⊢
      rw [grwR_top m n o2 ps h]
      by_cases hp : ps.length = 0
      · rw [if_pos hp] at hok; simp at hok
      · rw [if_neg hp, if_neg hp]; exact ⟨rfl, rfl, rfl⟩
  intro N
  induction N with
  | zero => intro m n fl o1 o2 ps hN ho hok; exact base m n fl o1 o2 ps (by omega) ho hok
  | succ N ih =>
    intro m n fl o1 o2 ps hN ho hok
    by_cases h1 : n ≤ m ∨ n ≤ 1
    · exact base m n fl o1 o2 ps h1 ho hok
    · have hl := hk_lt (show 2 ≤ n by omega)
      have hp0 := hk_pos n
      by_cases h2 : ps.length = 0
      · rw [bothR_nil false o1 m n fl ps (by omega) (by omega) h2] at hok; simp at hok
      · obtain ⟨q, hq⟩ : ∃ q, ps.length = q + 1 := ⟨ps.length - 1, by omega⟩
        by_cases h3 : m ≤ hk n
        · rw [bothR_lo false o1 m n fl ps (by omega) (by omega) q hq h3] at hok ⊢
          rw [grwR_lo m n fl o2 ps (by omega) (by omega) q hq h3]
          obtain ⟨e1, e2, e3⟩ := ih m (hk n) fl o1 o2 (ps.take q) (by omega) ho hok
          exact ⟨e1, e2, by show pairN _ _ = pairN _ _; rw [e3]⟩
        · rw [bothR_hi false o1 m n fl ps (by omega) (by omega) q hq h3] at hok ⊢
          rw [grwR_hi m n fl o2 ps (by omega) (by omega) q hq h3]
          obtain ⟨e1, e2, e3⟩ := ih (m - hk n) (n - hk n) false (if false then o1 else 0) o2 (ps.take q) (by omega) (by simp) hok
          exact ⟨e1, by show pairN _ _ = pairN _ _; rw [e2], by show pairN _ _ = pairN _ _; rw [e3]⟩
/-- Nobody can show another past, or two unlike pairs have one digest. -/
theorem grown_or_clash : ∀ (N : Nat) (zs : List Int) (m : Nat) (fl : Bool) (o1 o2 : Int) (ps : List Int), zs.length ≤ N → 0 < m → m ≤ zs.length → (fl = true → o1 = o2) → (bothR false o1 m zs.length fl ps).2.2 = true → (bothR false o1 m zs.length fl ps).2.1 = rootL zs →
    ((bothR false o1 m zs.length fl ps).1 = rootL (zs.take m) ∨ ClashP (grwR m zs.length fl o2 ps).list (linksL zs)) := by
  intro N
  induction N with
  | zero => intro zs m fl o1 o2 ps h h0 hm; omega
  | succ N ih =>
    intro zs m fl o1 o2 ps h h0 hm ho hok hall
    by_cases h1 : m = zs.length
    · subst h1
      have et : zs.take zs.length = zs := List.take_of_length_le (Nat.le_refl _)
      rw [et]
      cases fl with
      | true => rw [bothR_known false o1 _ _ ps (.inl (Nat.le_refl _))] at hall ⊢; exact .inl hall
      | false =>
        rw [bothR_impl o1 _ _ ps (.inl (Nat.le_refl _))] at hok hall ⊢
        by_cases hp : ps.length = 0
        · rw [if_pos hp] at hok; simp at hok
        · rw [if_neg hp] at hall ⊢; exact .inl hall
    · have hl := hk_lt (show 2 ≤ zs.length by omega)
      have hp0 := hk_pos zs.length
      have lt : (zs.take (hk zs.length)).length = hk zs.length := by rw [List.length_take]; omega
      have ld : (zs.drop (hk zs.length)).length = zs.length - hk zs.length := List.length_drop
      by_cases h2 : ps.length = 0
      · rw [bothR_nil false o1 m zs.length fl ps (by omega) (by omega) h2] at hok; simp at hok
      · obtain ⟨q, hq⟩ : ∃ q, ps.length = q + 1 := ⟨ps.length - 1, by omega⟩
        by_cases hik : m ≤ hk zs.length
        · have tt : (zs.take (hk zs.length)).take m = zs.take m := by rw [List.take_take, show min m (hk zs.length) = m by omega]
          rw [bothR_lo false o1 m zs.length fl ps (by omega) (by omega) q hq hik] at hok hall ⊢
          rw [grwR_lo m zs.length fl o2 ps (by omega) (by omega) q hq hik, linksL_more zs (by omega)]
          rw [rootL_more zs (by omega)] at hall
          have hok2 : (bothR false o1 m (hk zs.length) fl (ps.take q)).2.2 = true := hok
          have hall2 : pairN (bothR false o1 m (hk zs.length) fl (ps.take q)).2.1 (ps.getD q 0) = pairN (rootL (zs.take (hk zs.length))) (rootL (zs.drop (hk zs.length))) := hall
          obtain ⟨_, _, e3⟩ := grw_both (hk zs.length) m (hk zs.length) fl o1 o2 (ps.take q) (Nat.le_refl _) ho hok2
          by_cases hsame : (bothR false o1 m (hk zs.length) fl (ps.take q)).2.1 = rootL (zs.take (hk zs.length)) ∧ ps.getD q 0 = rootL (zs.drop (hk zs.length))
          · have hi := ih (zs.take (hk zs.length)) m fl o1 o2 (ps.take q) (by omega) h0 (by omega) ho (by rw [lt]; exact hok2) (by rw [lt]; exact hsame.1)
            rw [lt, tt] at hi
            rcases hi with hi | hi
            · exact .inl hi
            · exact .inr (hi.mono (fun l hl => by simp [hl]) (fun l hl => by simp [hl]))
          · right
            refine ⟨((grwR m (hk zs.length) fl o2 (ps.take q)).all, ps.getD q 0), by simp, (rootL (zs.take (hk zs.length)), rootL (zs.drop (hk zs.length))), by simp, fun e => ?_, ?_⟩
            · simp only [Prod.mk.injEq] at e
              rw [e3] at e
              exact hsame e
            · show pairN _ _ = pairN _ _
              rw [e3]; exact hall2
        · rw [bothR_hi false o1 m zs.length fl ps (by omega) (by omega) q hq hik] at hok hall ⊢
          rw [grwR_hi m zs.length fl o2 ps (by omega) (by omega) q hq hik, linksL_more zs (by omega), root_hi zs m (by omega) hm]
          rw [rootL_more zs (by omega)] at hall
          have hok2 : (bothR false (if false then o1 else 0) (m - hk zs.length) (zs.length - hk zs.length) false (ps.take q)).2.2 = true := hok
          have hall2 : pairN (ps.getD q 0) (bothR false (if false then o1 else 0) (m - hk zs.length) (zs.length - hk zs.length) false (ps.take q)).2.1 = pairN (rootL (zs.take (hk zs.length))) (rootL (zs.drop (hk zs.length))) := hall
          obtain ⟨_, _, e3⟩ := grw_both (zs.length - hk zs.length) (m - hk zs.length) (zs.length - hk zs.length) false (if false then o1 else 0) o2 (ps.take q) (Nat.le_refl _) (by simp) hok2
          by_cases hsame : ps.getD q 0 = rootL (zs.take (hk zs.length)) ∧ (bothR false (if false then o1 else 0) (m - hk zs.length) (zs.length - hk zs.length) false (ps.take q)).2.1 = rootL (zs.drop (hk zs.length))
          · have hi := ih (zs.drop (hk zs.length)) (m - hk zs.length) false (if false then o1 else 0) o2 (ps.take q) (by omega) (by omega) (by omega) (by simp) (by rw [ld]; exact hok2) (by rw [ld]; exact hsame.2)
            rw [ld] at hi
            rcases hi with hi | hi
            · left
              show pairN _ _ = pairN _ _
              rw [hi, hsame.1]
            · exact .inr (hi.mono (fun l hl => by simp [hl]) (fun l hl => by simp [hl]))
          · right
            refine ⟨(ps.getD q 0, (grwR (m - hk zs.length) (zs.length - hk zs.length) false o2 (ps.take q)).all), by simp, (rootL (zs.take (hk zs.length)), rootL (zs.drop (hk zs.length))), by simp, fun e => ?_, ?_⟩
            · simp only [Prod.mk.injEq] at e
              rw [e3] at e
              exact hsame e
            · show pairN _ _ = pairN _ _
              rw [e3]; exact hall2

end Go.Proofs.Ythncodopdcmfiaa

namespace Go.Proofs.Ythncodopdcmfiaa
open Go.RowKit Go.Sort

/-- append(out, ys...): out our own, ys whatever is read, nil too. -/
theorem wpList_append_rowU {P : Program} (w : World) {ops : Array Oper} {rest : List Oper} {o : Oper} {a : Act} {Q : Exit → Act → World → Prop}
    (hg : o.guard = none) (s x : Operand) (t : TypeId) (hop : o.op = Op.call { callee := Callee.builtin Builtin.append, args := #[s, x], argTypes := #[t, t] })
    (base : Nat) (i : TypeInfo) (h1 : P.underlying t = some (.slice 27)) (h2 : P.info? 27 = some i) (h3 : i.zero = some (.int .u64 0)) (h4 : i.size = 1) (h5 : i.bytes = 8)
    (v : Value) (n : Nat) (xs : List Value) (hs : a.eval s = v) (hown : w.ownsRow base 27 1 v n xs)
    (ao : Option Addr) (m c : Nat) (ys : List Int) (hx : a.eval x = .slice ao m c) (hrow : RowU w ao m ys) (hnil : ao = none → c = 0)
    (b1 : n + m ≤ 1000000) (b3 : base ≤ w.heap.size)
    (hK : ∀ v' w', w'.ownsRow base 27 1 v' (n + m) (xs ++ ys.map (Value.int .u64)) → w.grownBy w' v.ownBlock → wpList P ops Q rest (a.put o.dst v') w') :
    wpList P ops Q (o :: rest) a w := by
  cases ao with
  | some ad =>
    refine wpList_append_own w hg s x t hop base 27 i (.int .u64 0) 1 8 h1 h2 h3 h4 h5 rfl (by decide) v n xs hs hown ad m c (ys.map (Value.int .u64)) hx (by rw [List.length_map, hrow.len, Nat.mul_one]) (rowU_cells hrow) (ints_oneCell _ _) (by unfold maxLen; omega) (by omega) b3 ?_
    intro v' w' r1 r2 _
    exact hK v' w' r1 r2
  | none =>
    obtain ⟨rfl, rfl⟩ := rowU_none hrow
    obtain rfl := hnil rfl
    refine wpList_append_own_none hg s x t hop base 27 i 1 h1 h2 v n xs hs hown hx ?_
    exact hK v w (by simpa using hown) (World.grownBy.refl _ _)
theorem u64_cat {xs ys : List Int} (h : ∀ k, U64 (xs.getD k 0)) (h' : ∀ k, U64 (ys.getD k 0)) : ∀ k, U64 ((xs ++ ys).getD k 0) := by
  intro k
  rw [List.getD_eq_getElem?_getD, List.getElem?_append]
  split
  · simpa [List.getD_eq_getElem?_getD] using h k
  · simpa [List.getD_eq_getElem?_getD] using h' (k - xs.length)

set_option maxRecDepth 10000 in
set_option maxHeartbeats 400000 in
theorem in_t (x lo hi : Int) (w : World) (h : lo ≤ x ∧ x ≤ hi) : Calls Try.prog 15 #[.int .i64 x, .int .i64 lo, .int .i64 hi] w fun e w' => e = .returned (.bool true) ∧ w' = w := by
  obtain ⟨h1, h2⟩ := h
  go_enter Try.func15, Try.ntmps15
  go_wp2
  go_ret
  exact ⟨by simp [*], rfl⟩

set_option maxRecDepth 10000 in
set_option maxHeartbeats 400000 in
theorem in_f (x lo hi : Int) (w : World) (h : ¬ (lo ≤ x ∧ x ≤ hi)) : Calls Try.prog 15 #[.int .i64 x, .int .i64 lo, .int .i64 hi] w fun e w' => e = .returned (.bool false) ∧ w' = w := by
  by_cases h1 : lo ≤ x
  · have h2 : hi < x := by omega
    clear h
    go_enter Try.func15, Try.ntmps15
    go_wp2
    go_ret
    exact ⟨by simp [*], rfl⟩
  · have h2 : x < lo := by omega
    clear h h1
    go_enter Try.func15, Try.ntmps15
    go_wp2
    go_ret
    exact ⟨by simp [*], rfl⟩

theorem in_d (x lo hi : Int) (w : World) : Calls Try.prog 15 #[.int .i64 x, .int .i64 lo, .int .i64 hi] w fun e w' => e = .returned (.bool (decide (lo ≤ x ∧ x ≤ hi))) ∧ w' = w := by
  by_cases h : lo ≤ x ∧ x ≤ hi
  · rw [decide_eq_true h]; exact in_t x lo hi w h
  · rw [decide_eq_false h]; exact in_f x lo hi w h

theorem results_five {fn : Func} {t u v x y : Tmp} (h : fn.results = #[.tmp t, .tmp u, .tmp v, .tmp x, .tmp y]) (tmps : Array Value) (P : Program) (w : World) :
    (results fn tmps).run P w = .ok (.tuple #[tmps.getD t undef, tmps.getD u undef, tmps.getD v undef, tmps.getD x undef, tmps.getD y undef]) w := by
  simp [results, h]

set_option maxRecDepth 10000 in
set_option maxHeartbeats 400000 in
theorem big_anyQ (a : Option Addr) (n cap : Nat) (w : World) (hn : n ≤ 9223372036854775807) :
    Calls Try.prog 6 #[.slice a n cap] w fun r w' => r = .returned (.bool (decide (1048576 < n))) ∧ w' = w := by
  have e : decide (1048576 < n) = decide ((1048576 : Int) < (n : Int)) := by simp; omega
  rw [e]
  go_enter Try.func6, Try.ntmps6
  go_wp2
  go_ret
  exact ⟨rfl, rfl⟩

/-- A proof as it is bent. -/
def BendR (B0 : Nat) (w : World) (e : Ending) (w' : World) : Prop := ∃ (a' : Option Addr) (k' c' : Nat) (qs : List Int), e = .returned (.slice a' k' c') ∧ RowU w' a' k' qs ∧ k' ≤ c' ∧ c' ≤ 9223372036854775807 ∧ k' ≤ 1001 ∧ (a' = none → c' = 0) ∧ Below B0 w w'
theorem OwnU.nilc {B : Nat} {w : World} {a : Option Addr} {n cap : Nat} {zs : List Int} (h : OwnU B w a n cap zs) : a = none → cap = 0 := by
  intro e
  rcases h.row.2 with ⟨hv, _⟩ | ⟨g, cap', cur, hv, _⟩
  · simp only [Value.slice.injEq] at hv; exact hv.2.2
  · simp only [Value.slice.injEq] at hv; rw [hv.1] at e; cases e
theorem BendR.of {B0 B : Nat} {w w' : World} {a : Option Addr} {n c : Nat} {zs : List Int} (h : OwnU B w' a n c zs) (hn : n ≤ 1001) (hb : Below B0 w w') : BendR B0 w (.returned (.slice a n c)) w' :=
  ⟨a, n, c, zs, rfl, h.toRow, h.caps.1, h.caps.2, hn, h.nilc, hb⟩

set_option maxRecDepth 10000 in
set_option maxHeartbeats 2000000 in
theorem bendProof_any (g : Nat) (a : Option Addr) (n cap : Nat) (bs : List Int) (B0 B : Nat) (ap : Option Addr) (k cp : Nat) (ps : List Int) (w : World) (h : Rd w g a n cap bs) (hp : OwnU B w ap k cp ps) (hg : g < B) (hB0 : B0 ≤ g) (hk : k ≤ 1000) (hBs : B ≤ w.heap.size) :
    Calls Try.prog 41 #[.pointer (some ⟨g, 0, none⟩), .slice ap k cp] w (BendR B0 w) := by
  obtain ⟨i0, hi, hz0, hz1, hz2⟩ := info_parts Try.infoU
  have H : Hid (Rd w g a n cap bs) := h
  have HO : Hid (OwnU B w ap k cp ps) := hp
  have hcp := hp.caps
  clear h hp
  go_enter Try.func41, Try.ntmps41
  go_wp2_with fail
  refine (below_any g a n cap bs 4 _ H.out (by decide)).mono ?_
  rintro e w1 ⟨v, rfl, hv0, hv1, hp1⟩
  have HO1 : Hid (OwnU B w1 ap k cp ps) := HO.out.touched hp1.2 (by omega)
  have HB1 : Hid (Below B0 w w1) := hp1.2.below (by omega) (by omega)
  have hs1 := hp1.2.size
  have HR1 : Hid (Rd w1 g a n cap bs) := hp1.1
  clear H HO hp1
  have hcc : v = 0 ∨ v = 1 ∨ v = 2 ∨ v = 3 := by omega
  rcases hcc with rfl | rfl | rfl | rfl
  · have hal : Below w1.heap.size w1 (w1.alloc (.cells #[.int .u64 1] 27)) := (Below.refl _ _).alloc (Nat.le_refl _) _
    have hor := HO1.out.kept hal
    have hcl := cell_oneU w1 1
    go_wp2_with (first | (at_builtin; refine wpList_append_own _ rfl (.tmp 9) (.tmp 10) 24 rfl B 27 i0 _ 1 8 Try.underlying24 hi hz0 hz1 hz2 rfl (by decide) _ k _ rfl hor.row ⟨w1.heap.size, 0, none⟩ 1 1 ([1].map (Value.int .u64)) rfl rfl hcl (ints_oneCell .u64 [1]) (by unfold maxLen; omega) (by omega) (by simp; omega) ?_; intro v4 w4 hv4 hg4 _))
    rw [← List.map_append] at hv4
    obtain ⟨a4, c4, rfl, ho4⟩ := ownU_appended (u64_snoc hor.rng (u64_small (v := 1) (by decide) (by decide))) hv4
    have hb4 : Below B0 w w4 := (HB1.out.alloc (by omega) _).grown hg4 (by simp; omega) (fun k hk => by have := (hor.row.lt k hk).1; omega)
    go_ret
    exact BendR.of ho4 (by omega) hb4
  · by_cases hk0 : k = 0
    · subst hk0
      go_wp2
      go_ret
      exact BendR.of HO1.out (by omega) HB1.out
    · have hk1 : (0 : Int) < (k : Int) := by omega
      obtain ⟨gp, rfl, hgp, _⟩ := HO1.out.shape (by omega)
      by_cases hc1 : cp = 1
      · subst hc1
        obtain rfl : k = 1 := by omega
        have HRW : Hid (RowU w1 (some ⟨gp, 0, none⟩) 0 []) := ⟨rfl, fun j hj => absurd hj (Nat.not_lt_zero _), by simp [U64]⟩
        go_wp2
        go_ret
        exact ⟨_, _, _, [], rfl, HRW.out, by decide, by decide, by decide, (fun h => by cases h), HB1.out⟩
      · have c2 : (1 : Int) ≤ (k : Int) := by omega
        have c3 : ¬ (1 : Int) = (cp : Int) := by omega
        have c4 : ¬ 1 = cp := by omega
        have c5 : ¬ cp = 1 := hc1
        have HRW : Hid (RowU w1 (some ⟨gp, 0 + 1, none⟩) (k - 1) (ps.drop 1)) := HO1.out.toRow.drop 1 (by omega)
        go_wp2
        go_ret
        exact ⟨_, _, _, _, rfl, HRW.out, by omega, by omega, by omega, (fun h => by cases h), HB1.out⟩
  · by_cases hk0 : k = 0
    · subst hk0
      go_wp2
      go_ret
      exact BendR.of HO1.out (by omega) HB1.out
    · have hk1 : (0 : Int) < (k : Int) := by omega
      go_wp2_with fail
      refine (below_any g a n cap bs (k : Int) _ HR1.out (by omega)).mono ?_
      rintro e w2 ⟨j', rfl, hj0, hj1, hp2⟩
      obtain ⟨j, rfl⟩ := Int.eq_ofNat_of_zero_le hj0
      have hjk : j < k := by omega
      have hjki : (j : Int) < (k : Int) := by omega
      have ho2 := HO1.out.touched hp2.2 (by omega)
      have HB2 : Hid (Below B0 w w2) := HB1.out.trans (hp2.2.below (by omega) (by omega))
      obtain ⟨gp, rfl, hgp, _⟩ := ho2.shape (by omega)
      obtain ⟨b, off, e, hlb, hc⟩ := ho2.toRow.get j hjk
      simp only [Option.some.injEq, Addr.mk.injEq, and_true] at e
      obtain ⟨rfl, rfl⟩ := e
      rw [Nat.zero_add] at hc
      have hfr : w2.frozen? ⟨gp, j, none⟩ = false := ho2.row.frozenAt j
      obtain ⟨y, hy⟩ : ∃ y, y = ps.getD j 0 := ⟨_, rfl⟩
      rw [← hy] at hc
      have hs := (ho2.row.stored j (.int .u64 (bits .xor .u64 y 1))).1
      rw [← List.map_set] at hs
      have HN : Hid (OwnU B (w2.setCell ⟨gp, j, none⟩ (.int .u64 (bits .xor .u64 y 1))) (some ⟨gp, 0, none⟩) k cp (ps.set j (bits .xor .u64 y 1))) := ⟨hs, u64_set ho2.rng j (bits_u64_range .xor y 1)⟩
      have HBN : Hid (Below B0 w (w2.setCell ⟨gp, j, none⟩ (.int .u64 (bits .xor .u64 y 1)))) := HB2.out.setCell (by simp; omega) _
      clear hs ho2 hp2 hy HO1 HB2
      go_wp2
      go_ret
      exact BendR.of HN.out (by omega) HBN.out
  · go_wp2
    go_ret
    exact BendR.of HO1.out (by omega) HB1.out

end Go.Proofs.Ythncodopdcmfiaa

namespace Go.Proofs.Ythncodopdcmfiaa
open Go.RowKit Go.Sort

/-- What is drawn to be checked. -/
def DciR (w : World) (e : Ending) (w' : World) : Prop := ∃ (r n i x : Int) (a' : Option Addr) (k' c' : Nat) (qs : List Int), e = .returned (.tuple #[.int .u64 r, .int .i64 n, .int .i64 i, .int .u64 x, .slice a' k' c']) ∧ U64 x ∧ -1 ≤ i ∧ i ≤ 400 ∧ RowU w' a' k' qs ∧ k' ≤ c' ∧ c' ≤ 9223372036854775807 ∧ k' ≤ 1001 ∧ (a' = none → c' = 0) ∧ Below w.heap.size w w'

set_option maxRecDepth 10000 in
set_option maxHeartbeats 8000000 in
theorem drawCheckInclude_any (a : Option Addr) (n cap : Nat) (bs : List Int) (w : World) (h : Row w a n bs) (hn : n ≤ 1000000000) :
    Calls Try.prog 13 #[.slice a n cap] w (DciR w) := by
  have H : Hid (Row w a n bs) := h
  clear h
  go_enter Try.func13, Try.ntmps13
  go_wp2_with fail
  refine (drawInclude_any a n cap bs _ H.out hn).mono ?_
  rintro e w2 ⟨a', k, c', xs, i, rfl, hk, hi0, hi1, ho, hb2⟩
  have hcc := ho.caps
  have HX2 : Hid (RowU w2 a' k xs) := ho.toRow
  have hs2 := hb2.size
  clear ho
  go_wp2_with fail
  refine (open_any a n cap bs _ (H.out.kept hb2) hn).mono ?_
  rintro e w3 ⟨rfl, hr3, hb3⟩
  have HR3 : Hid (Rd w3 w2.heap.size a n cap bs) := hr3
  have hlt3 := hr3.lt
  clear hr3
  go_wp2_with fail
  refine (specLogRoot_any a' k c' xs _ (HX2.out.kept hb3) hcc.1 hcc.2).mono ?_
  rintro e w4 ⟨rfl, hb4⟩
  have B4 : Below w.heap.size w w4 := keepT (keepT hb2 hb3) hb4
  have hs4 := hb4.size
  have HX4 : Hid (RowU w4 a' k xs) := HX2.out.kept (keepT hb3 hb4)
  obtain ⟨t, ht⟩ : ∃ t, t = incR xs i := ⟨_, rfl⟩
  have HT : Hid (t = incR xs i) := ht
  obtain ⟨L, hL⟩ : ∃ L, L = t.1.length := ⟨_, rfl⟩
  have hLb : L ≤ 1000 := by
    rw [hL, ht]
    unfold incR
    split
    · rename_i hh
      have := incL_len _ xs i.toNat (Nat.le_refl _)
      show (incL xs i.toNat).length ≤ _
      omega
    · exact Nat.zero_le _
  have IM := fun W (hW : RowU W a' k xs) => specInclude_any a' k c' xs i W hW (by omega) hcc.1 hcc.2
  rw [← ht, ← hL] at IM
  have HIM : Hid (_) := IM
  clear IM ht hL
  obtain ⟨ls, ok⟩ := t
  obtain ⟨rt, hrt⟩ : ∃ rt, rt = lrR xs := ⟨_, rfl⟩
  rw [← hrt]
  clear hrt
  obtain ⟨rt0, rt1⟩ := rt
  go_wp2_with fail
  refine (HIM.out _ HX4.out).mono ?_
  rintro e w5 ⟨ap, cp, rfl, hop, hb5⟩
  have HO5 : Hid (OwnU w4.heap.size w5 ap L cp ls) := hop
  have HR5 : Hid (Rd w5 w2.heap.size a n cap bs) := HR3.out.kept (keepT hb4 hb5)
  have B5 : Below w.heap.size w w5 := keepT B4 hb5
  have HX5 : Hid (RowU w5 a' k xs) := HX4.out.kept hb5
  have hgB : w2.heap.size < w4.heap.size := by omega
  have hs5 := hb5.size
  clear hop HR3 hb4 hb5 B4 HX4 HX2 HIM hb2 hb3
  cases ok with
  | false =>
    have h3u : U64 3 := by unfold U64; omega
    go_wp2_with fail
    refine (once_any _ a n cap bs 2 _ HR5.out (by decide) (by decide)).mono ?_
    rintro e w6 ⟨b, rfl, hp6⟩
    have HO6 : Hid (OwnU w4.heap.size w6 ap L cp ls) := HO5.out.touched hp6.2 (by omega)
    have HR6 : Hid (Rd w6 w2.heap.size a n cap bs) := hp6.1
    have B6 : Below w.heap.size w w6 := B5.trans (hp6.2.below (by omega) (by omega))
    have hs6 := hp6.2.size
    clear HO5 HR5 hp6 B5
    cases b with
    | false =>
      have HO7 := HO6
      have B7 := B6
      go_wp2_with fail
      try simp only [Exit.inBlock, Exit.then]
      refine bodyPost_ret (results_five rfl _ _ _) rfl ?_
      exact ⟨_, _, _, _, _, _, _, _, rfl, h3u, by omega, by omega, HO7.out.toRow, HO7.out.caps.1, HO7.out.caps.2, by omega, HO7.out.nilc, B7⟩
    | true =>
      go_wp2_with fail
      refine (below_any _ a n cap bs 4 _ HR6.out (by decide)).mono ?_
      rintro e w7 ⟨v, rfl, hv0, hv1, hp7⟩
      have HO7 : Hid (OwnU w4.heap.size w7 ap L cp ls) := HO6.out.touched hp7.2 (by omega)
      have HR7 : Hid (Rd w7 w2.heap.size a n cap bs) := hp7.1
      have B7 : Below w.heap.size w w7 := B6.trans (hp7.2.below (by omega) (by omega))
      have hs7 := hp7.2.size
      clear HO6 HR6 hp7 B6
      have hcc : v = 0 ∨ v = 1 ∨ v = 2 ∨ v = 3 := by omega
      rcases hcc with rfl | rfl | rfl | rfl
      · go_wp2_with fail
        refine (bendProof_any _ a n cap bs w.heap.size w4.heap.size ap L cp ls _ HR7.out HO7.out hgB (by omega) (by omega) (by omega)).mono ?_
        rintro e w8 ⟨a8, k8, c8, qs, rfl, hrow, h1, h2, h3, h4, hb8⟩
        have HQ : Hid (_ ∧ _) := ⟨hrow, h4⟩
        have B8 := B7.trans hb8
        clear hrow h4
        go_wp2_with fail
        try simp only [Exit.inBlock, Exit.then]
        refine bodyPost_ret (results_five rfl _ _ _) rfl ?_
        exact ⟨_, _, _, _, _, _, _, qs, rfl, h3u, by omega, by omega, HQ.out.1, h1, h2, h3, HQ.out.2, B8⟩
      · go_wp2_with fail
        refine (below_any _ a n cap bs 3 _ HR7.out (by decide)).mono ?_
        rintro e w8 ⟨v, rfl, hv0, hv1, hp8⟩
        have HO8 : Hid (OwnU w4.heap.size w8 ap L cp ls) := HO7.out.touched hp8.2 (by omega)
        have B8 : Below w.heap.size w w8 := B7.trans (hp8.2.below (by omega) (by omega))
        clear HO7 B7
        have HO7 := HO8
        have B7 := B8
        go_wp2_with fail
        try simp only [Exit.inBlock, Exit.then]
        refine bodyPost_ret (results_five rfl _ _ _) rfl ?_
        exact ⟨_, _, _, _, _, _, _, _, rfl, h3u, by omega, by omega, HO7.out.toRow, HO7.out.caps.1, HO7.out.caps.2, by omega, HO7.out.nilc, B7⟩
      · go_wp2_with fail
        try simp only [Exit.inBlock, Exit.then]
        refine bodyPost_ret (results_five rfl _ _ _) rfl ?_
        exact ⟨_, _, _, _, _, _, _, _, rfl, h3u, by omega, by omega, HO7.out.toRow, HO7.out.caps.1, HO7.out.caps.2, by omega, HO7.out.nilc, B7⟩
      · go_wp2_with fail
        refine (below_any _ a n cap bs 9 _ HR7.out (by decide)).mono ?_
        rintro e w8 ⟨y, rfl, hy0, hy1, hp8⟩
        have HO8 : Hid (OwnU w4.heap.size w8 ap L cp ls) := HO7.out.touched hp8.2 (by omega)
        have B8 : Below w.heap.size w w8 := B7.trans (hp8.2.below (by omega) (by omega))
        clear HO7 B7
        have HO7 := HO8
        have B7 := B8
        have uy : IntKind.u64.wrap y = y := by rw [IntKind.wrap_u64]; omega
        have hyu : U64 y := by unfold U64; omega
        go_wp2_with fail
        try simp only [Exit.inBlock, Exit.then]
        refine bodyPost_ret (results_five rfl _ _ _) rfl ?_
        exact ⟨_, _, _, _, _, _, _, _, rfl, hyu, by omega, by omega, HO7.out.toRow, HO7.out.caps.1, HO7.out.caps.2, by omega, HO7.out.nilc, B7⟩
  | true =>
    have hik : 0 ≤ i ∧ i < k := by
      have e := HT.out
      unfold incR at e
      split at e
      · rename_i hh
        rw [HX5.out.len] at hh
        exact ⟨hh.2.1, hh.2.2⟩
      · simp at e
    obtain ⟨j, rfl⟩ := Int.eq_ofNat_of_zero_le hik.1
    have hjk : j < k := by omega
    have hjki : (j : Int) < (k : Int) := by omega
    obtain ⟨b, off, rfl, hlb, hc⟩ := HX5.out.get j hjk
    obtain ⟨x, hx⟩ : ∃ x, x = xs.getD j 0 := ⟨_, rfl⟩
    have hxu := HX5.out.rng j
    rw [← hx] at hc hxu
    clear hx hik
    go_wp2_with fail
    refine (once_any _ a n cap bs 2 _ HR5.out (by decide) (by decide)).mono ?_
    rintro e w6 ⟨b, rfl, hp6⟩
    have HO6 : Hid (OwnU w4.heap.size w6 ap L cp ls) := HO5.out.touched hp6.2 (by omega)
    have HR6 : Hid (Rd w6 w2.heap.size a n cap bs) := hp6.1
    have B6 : Below w.heap.size w w6 := B5.trans (hp6.2.below (by omega) (by omega))
    have hs6 := hp6.2.size
    clear HO5 HR5 hp6 B5
    cases b with
    | false =>
      have HO7 := HO6
      have B7 := B6
      go_wp2_with fail
      try simp only [Exit.inBlock, Exit.then]
      refine bodyPost_ret (results_five rfl _ _ _) rfl ?_
      exact ⟨_, _, _, _, _, _, _, _, rfl, hxu, by omega, by omega, HO7.out.toRow, HO7.out.caps.1, HO7.out.caps.2, by omega, HO7.out.nilc, B7⟩
    | true =>
      go_wp2_with fail
      refine (below_any _ a n cap bs 4 _ HR6.out (by decide)).mono ?_
      rintro e w7 ⟨v, rfl, hv0, hv1, hp7⟩
      have HO7 : Hid (OwnU w4.heap.size w7 ap L cp ls) := HO6.out.touched hp7.2 (by omega)
      have HR7 : Hid (Rd w7 w2.heap.size a n cap bs) := hp7.1
      have B7 : Below w.heap.size w w7 := B6.trans (hp7.2.below (by omega) (by omega))
      have hs7 := hp7.2.size
      clear HO6 HR6 hp7 B6
      have hcc : v = 0 ∨ v = 1 ∨ v = 2 ∨ v = 3 := by omega
      rcases hcc with rfl | rfl | rfl | rfl
      · go_wp2_with fail
        refine (bendProof_any _ a n cap bs w.heap.size w4.heap.size ap L cp ls _ HR7.out HO7.out hgB (by omega) (by omega) (by omega)).mono ?_
        rintro e w8 ⟨a8, k8, c8, qs, rfl, hrow, h1, h2, h3, h4, hb8⟩
        have HQ : Hid (_ ∧ _) := ⟨hrow, h4⟩
        have B8 := B7.trans hb8
        clear hrow h4
        go_wp2_with fail
        try simp only [Exit.inBlock, Exit.then]
        refine bodyPost_ret (results_five rfl _ _ _) rfl ?_
        exact ⟨_, _, _, _, _, _, _, qs, rfl, hxu, by omega, by omega, HQ.out.1, h1, h2, h3, HQ.out.2, B8⟩
      · go_wp2_with fail
        refine (below_any _ a n cap bs 3 _ HR7.out (by decide)).mono ?_
        rintro e w8 ⟨v, rfl, hv0, hv1, hp8⟩
        have HO8 : Hid (OwnU w4.heap.size w8 ap L cp ls) := HO7.out.touched hp8.2 (by omega)
        have B8 : Below w.heap.size w w8 := B7.trans (hp8.2.below (by omega) (by omega))
        clear HO7 B7
        have HO7 := HO8
        have B7 := B8
        go_wp2_with fail
        try simp only [Exit.inBlock, Exit.then]
        refine bodyPost_ret (results_five rfl _ _ _) rfl ?_
        exact ⟨_, _, _, _, _, _, _, _, rfl, hxu, by omega, by omega, HO7.out.toRow, HO7.out.caps.1, HO7.out.caps.2, by omega, HO7.out.nilc, B7⟩
      · go_wp2_with fail
        try simp only [Exit.inBlock, Exit.then]
        refine bodyPost_ret (results_five rfl _ _ _) rfl ?_
        exact ⟨_, _, _, _, _, _, _, _, rfl, hxu, by omega, by omega, HO7.out.toRow, HO7.out.caps.1, HO7.out.caps.2, by omega, HO7.out.nilc, B7⟩
      · go_wp2_with fail
        refine (below_any _ a n cap bs 9 _ HR7.out (by decide)).mono ?_
        rintro e w8 ⟨y, rfl, hy0, hy1, hp8⟩
        have HO8 : Hid (OwnU w4.heap.size w8 ap L cp ls) := HO7.out.touched hp8.2 (by omega)
        have B8 : Below w.heap.size w w8 := B7.trans (hp8.2.below (by omega) (by omega))
        clear HO7 B7
        have HO7 := HO8
        have B7 := B8
        have uy : IntKind.u64.wrap y = y := by rw [IntKind.wrap_u64]; omega
        have hyu : U64 y := by unfold U64; omega
        go_wp2_with fail
        try simp only [Exit.inBlock, Exit.then]
        refine bodyPost_ret (results_five rfl _ _ _) rfl ?_
        exact ⟨_, _, _, _, _, _, _, _, rfl, hyu, by omega, by omega, HO7.out.toRow, HO7.out.caps.1, HO7.out.caps.2, by omega, HO7.out.nilc, B7⟩

end Go.Proofs.Ythncodopdcmfiaa

namespace Go.Proofs.Ythncodopdcmfiaa
open Go.RowKit Go.Sort

/-- What grow hands back. -/
def grv (g : Grw) (al : Option Addr) (nl cl : Nat) (ar : Option Addr) (nr cr : Nat) : Value := .agg #[.int .u64 g.old, .int .u64 g.all, .slice al nl cl, .slice ar nr cr, .bool g.ok]
def GrwR (g : Grw) (w : World) (e : Ending) (w' : World) : Prop := ∃ al cl ar nr cr, e = .returned (grv g al g.list.length cl ar nr cr) ∧ OwnK w.heap.size w' al g.list.length cl g.list ∧ Below w.heap.size w w'
/-- What is drawn to be checked. -/
def DceR (w : World) (e : Ending) (w' : World) : Prop := ∃ (old m root n : Int) (a' : Option Addr) (k' c' : Nat) (qs : List Int), e = .returned (.tuple #[.int .u64 old, .int .i64 m, .int .u64 root, .int .i64 n, .slice a' k' c']) ∧ U64 old ∧ -1 ≤ m ∧ m ≤ 400 ∧ RowU w' a' k' qs ∧ k' ≤ c' ∧ c' ≤ 9223372036854775807 ∧ k' ≤ 1001 ∧ (a' = none → c' = 0) ∧ Below w.heap.size w w'

set_option maxRecDepth 10000 in
set_option maxHeartbeats 8000000 in
theorem drawCheckExtend_any (a : Option Addr) (n cap : Nat) (bs : List Int) (w : World) (h : Row w a n bs) (hn : n ≤ 1000000000) :
    Calls Try.prog 22 #[.slice a n cap] w (DceR w) := by
  have H : Hid (Row w a n bs) := h
  clear h
  go_enter Try.func22, Try.ntmps22
  go_wp2_with fail
  refine (drawInclude_any a n cap bs _ H.out hn).mono ?_
  rintro e w2 ⟨a', k, c', xs, i, rfl, hk, hi0, hi1, ho, hb2⟩
  have hcc := ho.caps
  have HX2 : Hid (RowU w2 a' k xs) := ho.toRow
  have hs2 := hb2.size
  obtain ⟨m, rfl⟩ : ∃ m, i = m - 1 := ⟨i + 1, by omega⟩
  have hm1 : m - 1 + 1 = m := by omega
  have um : IntKind.i64.wrap m = m := by rw [IntKind.wrap_i64]; omega
  clear ho
  go_wp2_with fail
  refine (open_any a n cap bs _ (H.out.kept hb2) hn).mono ?_
  rintro e w3 ⟨rfl, hr3, hb3⟩
  have HR3 : Hid (Rd w3 w2.heap.size a n cap bs) := hr3
  have hlt3 := hr3.lt
  clear hr3
  go_wp2_with fail
  refine (specLogRoot_any a' k c' xs _ (HX2.out.kept hb3) hcc.1 hcc.2).mono ?_
  rintro e w4 ⟨rfl, hb4⟩
  have B4 : Below w.heap.size w w4 := keepT (keepT hb2 hb3) hb4
  have hs4 := hb4.size
  have HX4 : Hid (RowU w4 a' k xs) := HX2.out.kept (keepT hb3 hb4)
  have HR4 : Hid (Rd w4 w2.heap.size a n cap bs) := HR3.out.kept hb4
  obtain ⟨rt, hrt⟩ : ∃ rt, rt = lrR xs := ⟨_, rfl⟩
  rw [← hrt]
  clear hrt HX2 HR3 hb4 hb3 hb2
  obtain ⟨rt0, rt1⟩ := rt
  have hgB : w2.heap.size < w4.heap.size := by omega
  by_cases hmk : 1 ≤ m ∧ m ≤ (k : Int)
  · go_wp2_with fail
    refine (l1In_t m 1 (k : Int) _ hmk).mono ?_
    rintro e w9 ⟨rfl, hw⟩
    have hw2 := hw.symm
    subst hw2
    obtain ⟨m', rfl⟩ := Int.eq_ofNat_of_zero_le (show 0 ≤ m by omega)
    have hmc : (m' : Int) ≤ (c' : Int) := by omega
    have hou := rootL_bd (xs.take m') (u64_take HX4.out.rng m')
    have hlr : lrR (xs.take m') = if (xs.take m').length ≤ 200 then (rootL (xs.take m'), true) else (0, false) := rfl
    have hlu : U64 (lrR (xs.take m')).1 := by rw [hlr]; split; exact hou; simp [U64]
    go_wp2_with fail
    refine (specLogRoot_any a' m' c' (xs.take m') _ (HX4.out.take m' (by omega)) (by omega) hcc.2).mono ?_
    rintro e w9 ⟨rfl, hb9⟩
    obtain ⟨r2, hr2⟩ : ∃ r2, r2 = lrR (xs.take m') := ⟨_, rfl⟩
    rw [← hr2] at hlu ⊢
    clear hr2 hlr hou
    obtain ⟨o0, o1⟩ := r2
    have hlu' : U64 o0 := hlu
    have HX9 : Hid (RowU w9 a' k xs) := HX4.out.kept hb9
    have HR9 : Hid (Rd w9 w2.heap.size a n cap bs) := HR4.out.kept hb9
    have B9 := keepT B4 hb9
    have hs9 := hb9.size
    have hgB2 : w2.heap.size < w9.heap.size := by omega
    clear HX4 HR4 B4 hb9 hgB hlu
    have HT : Hid (True) := trivial
    obtain ⟨t, ht⟩ : ∃ t, t = extR xs m' := ⟨_, rfl⟩
    obtain ⟨L, hL⟩ : ∃ L, L = t.1.length := ⟨_, rfl⟩
    have hLb : L ≤ 1000 := by
      rw [hL, ht]
      unfold extR
      split
      · rename_i hh
        have := extL_len _ xs (m' : Int).toNat true (Nat.le_refl _)
        show (extL xs (m' : Int).toNat true).length ≤ _
        omega
      · exact Nat.zero_le _
    have IM := fun W (hW : RowU W a' k xs) => specExtend_any a' k c' xs m' W hW (by omega) hcc.1 hcc.2
    rw [← ht, ← hL] at IM
    have HIM : Hid (_) := IM
    clear IM ht hL
    obtain ⟨ls, ok⟩ := t
    go_wp2_with fail
    refine (HIM.out _ HX9.out).mono ?_
    rintro e w5 ⟨ap, cp, rfl, hop, hb5⟩
    have HO5 : Hid (OwnU w9.heap.size w5 ap L cp ls) := hop
    have HR5 : Hid (Rd w5 w2.heap.size a n cap bs) := HR9.out.kept hb5
    have B5 : Below w.heap.size w w5 := keepT B9 hb5
    have hs5 := hb5.size
    clear hop HR9 hb5 B9 HX9 HIM
    go_wp2_with fail
    refine (once_any _ a n cap bs 2 _ HR5.out (by decide) (by decide)).mono ?_
    rintro e w6 ⟨b, rfl, hp6⟩
    have HO6 : Hid (OwnU w9.heap.size w6 ap L cp ls) := HO5.out.touched hp6.2 (by omega)
    have HR6 : Hid (Rd w6 w2.heap.size a n cap bs) := hp6.1
    have B6 : Below w.heap.size w w6 := B5.trans (hp6.2.below (by omega) (by omega))
    have hs6 := hp6.2.size
    clear HO5 HR5 hp6 B5
    cases b with
    | false =>
      have HO7 := HO6
      have B7 := B6
      go_wp2_with fail
      try simp only [Exit.inBlock, Exit.then]
      refine bodyPost_ret (results_five rfl _ _ _) rfl ?_
      exact ⟨_, _, _, _, _, _, _, _, rfl, hlu', by omega, by omega, HO7.out.toRow, HO7.out.caps.1, HO7.out.caps.2, by omega, HO7.out.nilc, B7⟩
    | true =>
      go_wp2_with fail
      refine (below_any _ a n cap bs 4 _ HR6.out (by decide)).mono ?_
      rintro e w7 ⟨v, rfl, hv0, hv1, hp7⟩
      have HO7 : Hid (OwnU w9.heap.size w7 ap L cp ls) := HO6.out.touched hp7.2 (by omega)
      have HR7 : Hid (Rd w7 w2.heap.size a n cap bs) := hp7.1
      have B7 : Below w.heap.size w w7 := B6.trans (hp7.2.below (by omega) (by omega))
      have hs7 := hp7.2.size
      clear HO6 HR6 hp7 B6
      have hcc : v = 0 ∨ v = 1 ∨ v = 2 ∨ v = 3 := by omega
      rcases hcc with rfl | rfl | rfl | rfl
      · go_wp2_with fail
        refine (bendProof_any _ a n cap bs w.heap.size w9.heap.size ap L cp ls _ HR7.out HO7.out hgB2 (by omega) (by omega) (by omega)).mono ?_
        rintro e w8 ⟨a8, k8, c8, qs, rfl, hrow, h1, h2, h3, h4, hb8⟩
        have HQ : Hid (_ ∧ _) := ⟨hrow, h4⟩
        have B8 := B7.trans hb8
        clear hrow h4
        go_wp2_with fail
        try simp only [Exit.inBlock, Exit.then]
        refine bodyPost_ret (results_five rfl _ _ _) rfl ?_
        exact ⟨_, _, _, _, _, _, _, qs, rfl, hlu', by omega, by omega, HQ.out.1, h1, h2, h3, HQ.out.2, B8⟩
      · go_wp2_with fail
        refine (below_any _ a n cap bs 3 _ HR7.out (by decide)).mono ?_
        rintro e w8 ⟨v, rfl, hv0, hv1, hp8⟩
        have HO8 : Hid (OwnU w9.heap.size w8 ap L cp ls) := HO7.out.touched hp8.2 (by omega)
        have B8 : Below w.heap.size w w8 := B7.trans (hp8.2.below (by omega) (by omega))
        clear HO7 B7
        have HO7 := HO8
        have B7 := B8
        go_wp2_with fail
        try simp only [Exit.inBlock, Exit.then]
        refine bodyPost_ret (results_five rfl _ _ _) rfl ?_
        exact ⟨_, _, _, _, _, _, _, _, rfl, hlu', by omega, by omega, HO7.out.toRow, HO7.out.caps.1, HO7.out.caps.2, by omega, HO7.out.nilc, B7⟩
      · go_wp2_with fail
        try simp only [Exit.inBlock, Exit.then]
        refine bodyPost_ret (results_five rfl _ _ _) rfl ?_
        exact ⟨_, _, _, _, _, _, _, _, rfl, hlu', by omega, by omega, HO7.out.toRow, HO7.out.caps.1, HO7.out.caps.2, by omega, HO7.out.nilc, B7⟩
      · go_wp2_with fail
        refine (below_any _ a n cap bs 2 _ HR7.out (by decide)).mono ?_
        rintro e w8 ⟨y, rfl, hy0, hy1, hp8⟩
        have HO8 : Hid (OwnU w9.heap.size w8 ap L cp ls) := HO7.out.touched hp8.2 (by omega)
        have B8 : Below w.heap.size w w8 := B7.trans (hp8.2.below (by omega) (by omega))
        clear HO7 B7
        have HO7 := HO8
        have B7 := B8
        have uy : IntKind.u64.wrap y = y := by rw [IntKind.wrap_u64]; omega
        go_wp2_with fail
        try simp only [Exit.inBlock, Exit.then]
        refine bodyPost_ret (results_five rfl _ _ _) rfl ?_
        exact ⟨_, _, _, _, _, _, _, _, rfl, bits_u64_range _ _ _, by omega, by omega, HO7.out.toRow, HO7.out.caps.1, HO7.out.caps.2, by omega, HO7.out.nilc, B7⟩
  · go_wp2_with fail
    refine (l1In_f m 1 (k : Int) _ hmk).mono ?_
    rintro e w9 ⟨rfl, hw⟩
    have hw2 := hw.symm
    subst hw2
    have h0u : U64 0 := by simp [U64]
    have HT : Hid (True) := trivial
    obtain ⟨t, ht⟩ : ∃ t, t = extR xs m := ⟨_, rfl⟩
    obtain ⟨L, hL⟩ : ∃ L, L = t.1.length := ⟨_, rfl⟩
    have hLb : L ≤ 1000 := by
      rw [hL, ht]
      unfold extR
      split
      · rename_i hh
        have := extL_len _ xs m.toNat true (Nat.le_refl _)
        show (extL xs m.toNat true).length ≤ _
        omega
      · exact Nat.zero_le _
    have IM := fun W (hW : RowU W a' k xs) => specExtend_any a' k c' xs m W hW (by omega) hcc.1 hcc.2
    rw [← ht, ← hL] at IM
    have HIM : Hid (_) := IM
    clear IM ht hL
    obtain ⟨ls, ok⟩ := t
    go_wp2_with fail
    refine (HIM.out _ HX4.out).mono ?_
    rintro e w5 ⟨ap, cp, rfl, hop, hb5⟩
    have HO5 : Hid (OwnU w4.heap.size w5 ap L cp ls) := hop
    have HR5 : Hid (Rd w5 w2.heap.size a n cap bs) := HR4.out.kept hb5
    have B5 : Below w.heap.size w w5 := keepT B4 hb5
    have hs5 := hb5.size
    clear hop HR4 hb5 B4 HX4 HIM
    go_wp2_with fail
    refine (once_any _ a n cap bs 2 _ HR5.out (by decide) (by decide)).mono ?_
    rintro e w6 ⟨b, rfl, hp6⟩
    have HO6 : Hid (OwnU w4.heap.size w6 ap L cp ls) := HO5.out.touched hp6.2 (by omega)
    have HR6 : Hid (Rd w6 w2.heap.size a n cap bs) := hp6.1
    have B6 : Below w.heap.size w w6 := B5.trans (hp6.2.below (by omega) (by omega))
    have hs6 := hp6.2.size
    clear HO5 HR5 hp6 B5
    cases b with
    | false =>
      have HO7 := HO6
      have B7 := B6
      go_wp2_with fail
      try simp only [Exit.inBlock, Exit.then]
      refine bodyPost_ret (results_five rfl _ _ _) rfl ?_
      exact ⟨_, _, _, _, _, _, _, _, rfl, h0u, by omega, by omega, HO7.out.toRow, HO7.out.caps.1, HO7.out.caps.2, by omega, HO7.out.nilc, B7⟩
    | true =>
      go_wp2_with fail
      refine (below_any _ a n cap bs 4 _ HR6.out (by decide)).mono ?_
      rintro e w7 ⟨v, rfl, hv0, hv1, hp7⟩
      have HO7 : Hid (OwnU w4.heap.size w7 ap L cp ls) := HO6.out.touched hp7.2 (by omega)
      have HR7 : Hid (Rd w7 w2.heap.size a n cap bs) := hp7.1
      have B7 : Below w.heap.size w w7 := B6.trans (hp7.2.below (by omega) (by omega))
      have hs7 := hp7.2.size
      clear HO6 HR6 hp7 B6
      have hcc : v = 0 ∨ v = 1 ∨ v = 2 ∨ v = 3 := by omega
      rcases hcc with rfl | rfl | rfl | rfl
      · go_wp2_with fail
        refine (bendProof_any _ a n cap bs w.heap.size w4.heap.size ap L cp ls _ HR7.out HO7.out hgB (by omega) (by omega) (by omega)).mono ?_
        rintro e w8 ⟨a8, k8, c8, qs, rfl, hrow, h1, h2, h3, h4, hb8⟩
        have HQ : Hid (_ ∧ _) := ⟨hrow, h4⟩
        have B8 := B7.trans hb8
        clear hrow h4
        go_wp2_with fail
        try simp only [Exit.inBlock, Exit.then]
        refine bodyPost_ret (results_five rfl _ _ _) rfl ?_
        exact ⟨_, _, _, _, _, _, _, qs, rfl, h0u, by omega, by omega, HQ.out.1, h1, h2, h3, HQ.out.2, B8⟩
      · go_wp2_with fail
        refine (below_any _ a n cap bs 3 _ HR7.out (by decide)).mono ?_
        rintro e w8 ⟨v, rfl, hv0, hv1, hp8⟩
        have HO8 : Hid (OwnU w4.heap.size w8 ap L cp ls) := HO7.out.touched hp8.2 (by omega)
        have B8 : Below w.heap.size w w8 := B7.trans (hp8.2.below (by omega) (by omega))
        clear HO7 B7
        have HO7 := HO8
        have B7 := B8
        go_wp2_with fail
        try simp only [Exit.inBlock, Exit.then]
        refine bodyPost_ret (results_five rfl _ _ _) rfl ?_
        exact ⟨_, _, _, _, _, _, _, _, rfl, h0u, by omega, by omega, HO7.out.toRow, HO7.out.caps.1, HO7.out.caps.2, by omega, HO7.out.nilc, B7⟩
      · go_wp2_with fail
        try simp only [Exit.inBlock, Exit.then]
        refine bodyPost_ret (results_five rfl _ _ _) rfl ?_
        exact ⟨_, _, _, _, _, _, _, _, rfl, h0u, by omega, by omega, HO7.out.toRow, HO7.out.caps.1, HO7.out.caps.2, by omega, HO7.out.nilc, B7⟩
      · go_wp2_with fail
        refine (below_any _ a n cap bs 2 _ HR7.out (by decide)).mono ?_
        rintro e w8 ⟨y, rfl, hy0, hy1, hp8⟩
        have HO8 : Hid (OwnU w4.heap.size w8 ap L cp ls) := HO7.out.touched hp8.2 (by omega)
        have B8 : Below w.heap.size w w8 := B7.trans (hp8.2.below (by omega) (by omega))
        clear HO7 B7
        have HO7 := HO8
        have B7 := B8
        have uy : IntKind.u64.wrap y = y := by rw [IntKind.wrap_u64]; omega
        go_wp2_with fail
        try simp only [Exit.inBlock, Exit.then]
        refine bodyPost_ret (results_five rfl _ _ _) rfl ?_
        exact ⟨_, _, _, _, _, _, _, _, rfl, bits_u64_range _ _ _, by omega, by omega, HO7.out.toRow, HO7.out.caps.1, HO7.out.caps.2, by omega, HO7.out.nilc, B7⟩

set_option maxRecDepth 10000 in
set_option maxHeartbeats 1000000 in
theorem drawExtend_any (a : Option Addr) (n cap : Nat) (bs : List Int) (w : World) (h : Row w a n bs) (hn : n ≤ 1000000000) :
    Calls Try.prog 19 #[.slice a n cap] w fun e w' => ∃ (a' : Option Addr) (k c' : Nat) (xs : List Int) (i : Int), e = .returned (.tuple #[.slice a' k c', .int .i64 i]) ∧ k ≤ 201 ∧ -1 ≤ i ∧ i ≤ 300 ∧ OwnU w.heap.size w' a' k c' xs ∧ Below w.heap.size w w' := by
  have H : Hid (Row w a n bs) := h
  clear h
  go_enter Try.func19, Try.ntmps19
  go_wp2_with fail
  refine (drawInclude_any a n cap bs _ H.out hn).mono ?_
  rintro e w3 ⟨a', k, c', xs, i, rfl, hk, hi0, hi1, ho, hb⟩
  have HO : Hid (_) := ho
  clear ho
  go_wp2
  go_ret2
  exact ⟨a', k, c', xs, i, rfl, hk, hi0, hi1, HO.out, hb⟩

set_option maxRecDepth 10000 in
set_option maxHeartbeats 400000 in
theorem byteAt_ex (a : Option Addr) (n cap : Nat) (bs : List Int) (i m : Nat) (w : World) (h : Row w a n bs) (hm0 : 0 < m) (hm : m ≤ 100000) :
    Calls Try.prog 23 #[.slice a n cap, .int .i64 i, .int .i64 m] w fun e w' => ∃ v : Nat, e = .returned (.int .i64 v) ∧ v < m ∧ w' = w := by
  by_cases hin : i < n
  · obtain ⟨b, off, rfl, hlb, hc⟩ := h.get i hin
    obtain ⟨x, hx⟩ : ∃ x, x = bs.getD i 0 := ⟨_, rfl⟩
    have hxb := h.byte i
    rw [← hx] at hc hxb
    clear hx h
    obtain ⟨y, rfl⟩ := Int.eq_ofNat_of_zero_le hxb.1
    have h1 : ¬ (n : Int) ≤ (i : Int) := by omega
    have h2 : (i : Int) < (n : Int) := by omega
    have hm1 : ¬ (m : Int) = 0 := by omega
    obtain ⟨R, hR⟩ : ∃ R, R = y % m := ⟨_, rfl⟩
    have hv : (y : Int) % (m : Int) = (R : Int) := by rw [hR]; exact (Int.natCast_emod _ _).symm
    have hRm : R < m := by rw [hR]; exact Nat.mod_lt _ hm0
    clear hR
    go_enter Try.func23, Try.ntmps23
    go_wp2
    go_ret
    exact ⟨R, rfl, hRm, rfl⟩
  · have h1 : (n : Int) ≤ (i : Int) := by omega
    clear h
    go_enter Try.func23, Try.ntmps23
    go_wp2
    go_ret
    exact ⟨0, rfl, hm0, rfl⟩

end Go.Proofs.Ythncodopdcmfiaa

