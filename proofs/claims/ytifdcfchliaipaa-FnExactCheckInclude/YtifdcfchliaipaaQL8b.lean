import Derived.Test.YtifdcfchliaipaaQL8
namespace Go.Proofs.Ytifdcfchliaipaa
open Go.RowKit Go.Sort

def ciP (root n i x : Int) (ps : List Int) : Bool :=
  if 1 ≤ n ∧ n ≤ 200 ∧ 0 ≤ i ∧ i ≤ n - 1 then (fromR n.toNat i.toNat x ps).2 && decide ((fromR n.toNat i.toNat x ps).1 = root) else false

set_option maxHeartbeats 1000000 in
theorem specCheckInclude_any (root n i x : Int) (a : Option Addr) (l c : Nat) (ps : List Int) (w : World) (hx : U64 x) (h : RowU w a l ps) (hc : l ≤ c) (hcm : c ≤ 9223372036854775807) :
    Calls Try.prog 23 #[.int .u64 root, .int .i64 n, .int .i64 i, .int .u64 x, .slice a l c] w fun e w' => e = .returned (.bool (ciP root n i x ps)) ∧ Below w.heap.size w w' := by
  have H0 : Hid (RowU w a l ps) := h
  clear h
  by_cases h1 : 1 ≤ n ∧ n ≤ 200
  · by_cases h2 : 0 ≤ i ∧ i ≤ n - 1
    · obtain ⟨n', rfl⟩ := Int.eq_ofNat_of_zero_le (show 0 ≤ n by omega)
      obtain ⟨i', rfl⟩ := Int.eq_ofNat_of_zero_le (show 0 ≤ i by omega)
      have HV : Hid (ciP root n' i' x ps = ((fromR n' i' x ps).2 && decide ((fromR n' i' x ps).1 = root))) := by show _ = _; unfold ciP; rw [if_pos ⟨h1.1, h1.2, h2.1, h2.2⟩]; rfl
      obtain ⟨v, hv⟩ : ∃ v, v = (fromR n' i' x ps).1 := ⟨_, rfl⟩
      obtain ⟨ok, hok⟩ : ∃ ok, ok = (fromR n' i' x ps).2 := ⟨_, rfl⟩
      have hr := fun W (hW : Below w.heap.size w W) => l15From_any n' n' i' x a l c ps W (Nat.le_refl _) (by omega) (by omega) (by omega) hx (H0.out.kept hW) hc hcm
      rw [← hv, ← hok] at hr HV
      have HR : Hid (_) := hr
      clear hv hok hr
      have u1 : IntKind.i64.wrap ((n' : Int) - 1) = (n' : Int) - 1 := by rw [IntKind.wrap_i64]; omega
      go_enter Try.func23, Try.ntmps23
      go_wp2_with fail
      refine (l1In_t (n' : Int) 1 200 _ h1).mono ?_
      rintro e w1 ⟨rfl, hw⟩
      have hw2 := hw.symm
      subst hw2
      go_wp2_with fail
      refine (l1In_t (i' : Int) 0 ((n' : Int) - 1) _ h2).mono ?_
      rintro e w1 ⟨rfl, hw⟩
      have hw2 := hw.symm
      subst hw2
      go_wp2_with fail
      refine (HR.out _ (Below.refl _ _)).mono ?_
      rintro e w1 ⟨rfl, hb1⟩
      cases ok with
      | false =>
        go_wp2
        go_ret
        exact ⟨by rw [HV.out]; rfl, hb1⟩
      | true =>
        by_cases hvr : v = root
        · subst hvr
          go_wp2
          go_ret
          exact ⟨by rw [HV.out]; simp, hb1⟩
        · have z1 : (v == root) = false := by simpa using hvr
          go_wp2
          go_ret
          exact ⟨by rw [HV.out]; simp [hvr], hb1⟩
    · have HV : Hid (ciP root n i x ps = false) := by show _ = _; unfold ciP; rw [if_neg (fun hh => h2 ⟨hh.2.2.1, hh.2.2.2⟩)]
      have u1 : IntKind.i64.wrap (n - 1) = n - 1 := by rw [IntKind.wrap_i64]; omega
      go_enter Try.func23, Try.ntmps23
      go_wp2_with fail
      refine (l1In_t n 1 200 _ h1).mono ?_
      rintro e w1 ⟨rfl, hw⟩
      have hw2 := hw.symm
      subst hw2
      go_wp2_with fail
      refine (l1In_f i 0 (n - 1) _ h2).mono ?_
      rintro e w1 ⟨rfl, hw⟩
      have hw2 := hw.symm
      subst hw2
      go_wp2
      go_ret
      exact ⟨by rw [HV.out]; rfl, Below.refl _ _⟩
  · have HV : Hid (ciP root n i x ps = false) := by show _ = _; unfold ciP; rw [if_neg (fun hh => h1 ⟨hh.1, hh.2.1⟩)]
    go_enter Try.func23, Try.ntmps23
    go_wp2_with fail
    refine (l1In_f n 1 200 _ h1).mono ?_
    rintro e w1 ⟨rfl, hw⟩
    have hw2 := hw.symm
    subst hw2
    go_wp2
    go_ret
    exact ⟨by rw [HV.out]; rfl, Below.refl _ _⟩

set_option maxHeartbeats 1000000 in
theorem implCheckInclude_any (root n i x : Int) (a : Option Addr) (l c : Nat) (ps : List Int) (w : World) (hx : U64 x) (h : RowU w a l ps) (hc : l ≤ c) (hcm : c ≤ 9223372036854775807) :
    Calls Try.prog 24 #[.int .u64 root, .int .i64 n, .int .i64 i, .int .u64 x, .slice a l c] w fun e w' => e = .returned (.bool (ciP root n i x ps)) ∧ Below w.heap.size w w' := by
  have H0 : Hid (RowU w a l ps) := h
  clear h
  by_cases h1 : 1 ≤ n ∧ n ≤ 200
  · by_cases h2 : 0 ≤ i ∧ i ≤ n - 1
    · obtain ⟨n', rfl⟩ := Int.eq_ofNat_of_zero_le (show 0 ≤ n by omega)
      obtain ⟨i', rfl⟩ := Int.eq_ofNat_of_zero_le (show 0 ≤ i by omega)
      have HV : Hid (ciP root n' i' x ps = ((fromR n' i' x ps).2 && decide ((fromR n' i' x ps).1 = root))) := by show _ = _; unfold ciP; rw [if_pos ⟨h1.1, h1.2, h2.1, h2.2⟩]; rfl
      obtain ⟨v, hv⟩ : ∃ v, v = (fromR n' i' x ps).1 := ⟨_, rfl⟩
      obtain ⟨ok, hok⟩ : ∃ ok, ok = (fromR n' i' x ps).2 := ⟨_, rfl⟩
      have hr := fun W (hW : Below w.heap.size w W) => includedRoot_any n' n' i' x a l c ps W (Nat.le_refl _) (by omega) (by omega) (by omega) hx (H0.out.kept hW) hc hcm
      rw [← hv, ← hok] at hr HV
      have HR : Hid (_) := hr
      clear hv hok hr
      have u1 : IntKind.i64.wrap ((n' : Int) - 1) = (n' : Int) - 1 := by rw [IntKind.wrap_i64]; omega
      go_enter Try.func24, Try.ntmps24
      go_wp2_with fail
      refine (inBounds_t (n' : Int) 1 200 _ h1).mono ?_
      rintro e w1 ⟨rfl, hw⟩
      have hw2 := hw.symm
      subst hw2
      go_wp2_with fail
      refine (inBounds_t (i' : Int) 0 ((n' : Int) - 1) _ h2).mono ?_
      rintro e w1 ⟨rfl, hw⟩
      have hw2 := hw.symm
      subst hw2
      go_wp2_with fail
      refine (HR.out _ (Below.refl _ _)).mono ?_
      rintro e w1 ⟨rfl, hb1⟩
      cases ok with
      | false =>
        go_wp2
        go_ret
        exact ⟨by rw [HV.out]; rfl, hb1⟩
      | true =>
        by_cases hvr : v = root
        · subst hvr
          go_wp2
          go_ret
          exact ⟨by rw [HV.out]; simp, hb1⟩
        · have z1 : (v == root) = false := by simpa using hvr
          go_wp2
          go_ret
          exact ⟨by rw [HV.out]; simp [hvr], hb1⟩
    · have HV : Hid (ciP root n i x ps = false) := by show _ = _; unfold ciP; rw [if_neg (fun hh => h2 ⟨hh.2.2.1, hh.2.2.2⟩)]
      have u1 : IntKind.i64.wrap (n - 1) = n - 1 := by rw [IntKind.wrap_i64]; omega
      go_enter Try.func24, Try.ntmps24
      go_wp2_with fail
      refine (inBounds_t n 1 200 _ h1).mono ?_
      rintro e w1 ⟨rfl, hw⟩
      have hw2 := hw.symm
      subst hw2
      go_wp2_with fail
      refine (inBounds_f i 0 (n - 1) _ h2).mono ?_
      rintro e w1 ⟨rfl, hw⟩
      have hw2 := hw.symm
      subst hw2
      go_wp2
      go_ret
      exact ⟨by rw [HV.out]; rfl, Below.refl _ _⟩
  · have HV : Hid (ciP root n i x ps = false) := by show _ = _; unfold ciP; rw [if_neg (fun hh => h1 ⟨hh.1, hh.2.1⟩)]
    go_enter Try.func24, Try.ntmps24
    go_wp2_with fail
    refine (inBounds_f n 1 200 _ h1).mono ?_
    rintro e w1 ⟨rfl, hw⟩
    have hw2 := hw.symm
    subst hw2
    go_wp2
    go_ret
    exact ⟨by rw [HV.out]; rfl, Below.refl _ _⟩

set_option maxHeartbeats 1000000 in
theorem lawCheckInclude_walk (root : Int) (m : Int) (i : Int) (x : Int) (a : Option Addr) (n c : Nat) (zs : List Int) (w : World) (hx : (Lit.int .u64 x).wf = true) (h : RowU w a n zs ∧ n ≤ 9223372036854775807) :
    Calls Try.prog 6 #[.int .u64 root, .int .i64 m, .int .i64 i, .int .u64 x, .slice a n c] w fun e w' => e = .returned (.bool true) ∧ Below w.heap.size w w' := by
  have H0 : Hid (RowU w a n zs) := h.1
  have HX : Hid (U64 x) := bounds_u64 hx
  have hmx := h.2
  clear h
  by_cases hbig : 1048576 < n
  · go_enter Try.func6, Try.ntmps6
    go_wp2
    go_ret
    exact ⟨rfl, Below.refl _ _⟩
  · have hn : n ≤ 1048576 := by omega
    go_enter Try.func6, Try.ntmps6
    go_wp2_with fail
    refine (toUint64S_any a n c zs _ H0.out hn).mono ?_
    rintro e w1 ⟨a1, rfl, ho1, hb1⟩
    go_wp2_with fail
    refine (specCheckInclude_any root m i x a1 n n zs _ HX.out ho1.toRow (Nat.le_refl _) (by omega)).mono ?_
    rintro e w2 ⟨rfl, hb2⟩
    have B2 := keepT hb1 hb2
    clear hb1 hb2 ho1
    obtain ⟨t, ht⟩ : ∃ t, t = ciP root m i x zs := ⟨_, rfl⟩
    have HT : Hid (t = ciP root m i x zs) := ht
    rw [← ht]
    clear ht
    skip
    go_wp2_with fail
    refine (toUint64S_any a n c zs _ (H0.out.kept B2) hn).mono ?_
    rintro e w3 ⟨a3, rfl, ho3, hb3⟩
    have B3 := keepT B2 hb3
    have HO3 : Hid (RowU w3 a3 n zs) := ho3.toRow
    clear hb3 ho3
    go_wp2_with fail
    refine (implCheckInclude_any root m i x a3 n n zs _ HX.out HO3.out (Nat.le_refl _) (by omega)).mono ?_
    rintro e w4 ⟨rfl, hb4⟩
    rw [← HT.out]
    have B4 := keepT B3 hb4
    have HO4 : Hid (RowU w4 a3 n zs) := HO3.out.kept hb4
    clear hb4 HO3
    have z1 : (t != t) = false := by simp
    go_wp2_with fail
    refine (toUint64S_any a n c zs _ (H0.out.kept B4) hn).mono ?_
    rintro e w5 ⟨a5, rfl, ho5, hb5⟩
    have B5 := keepT B4 hb5
    go_wp2_with fail
    refine (eqUint64S_same a3 a5 n n n zs _ (HO4.out.kept hb5) ho5.toRow (by omega)).mono ?_
    rintro e w6 ⟨rfl, hb6⟩
    go_wp2_with fail
    go_ret
    exact ⟨rfl, keepT B5 hb6⟩

end Go.Proofs.Ytifdcfchliaipaa
