import Derived.Test.YtifdcfchliaipaaQL9i
import Derived.Test.YtifdcfchliaipaaQL9s
namespace Go.Proofs.Ytifdcfchliaipaa
open Go.RowKit Go.Sort

/-- Whether a proof of a beginning is taken. -/
def cxP (old m root n : Int) (ps : List Int) : Bool :=
  if 1 ≤ n ∧ n ≤ 200 ∧ 1 ≤ m ∧ m ≤ n then
    (bothR true old m.toNat n.toNat true ps).2.2 && (decide ((bothR true old m.toNat n.toNat true ps).1 = old) && decide ((bothR true old m.toNat n.toNat true ps).2.1 = root))
  else false
theorem cxP_impl (old root : Int) (m n : Nat) (ps : List Int) (h : 1 ≤ (n : Int) ∧ (n : Int) ≤ 200 ∧ 1 ≤ (m : Int) ∧ (m : Int) ≤ n) : cxP old m root n ps = ((bothR false old m n true ps).2.2 && (decide ((bothR false old m n true ps).1 = old) && decide ((bothR false old m n true ps).2.1 = root))) := by
  unfold cxP
  rw [if_pos h, Int.toNat_natCast, Int.toNat_natCast]
  obtain ⟨e1, e2⟩ := both_same n old old m n true ps (Nat.le_refl _) (fun _ => rfl)
  cases hb : (bothR true old m n true ps).2.2 with
  | false => rw [← e1, hb, Bool.false_and, Bool.false_and]
  | true => rw [← e2 hb, hb]

set_option maxHeartbeats 1000000 in
theorem specCheckExtend_any (old m root n : Int) (a : Option Addr) (l c : Nat) (ps : List Int) (w : World) (ho : U64 old) (h : RowU w a l ps) (hc : l ≤ c) (hcm : c ≤ 9223372036854775807) :
    Calls Try.prog 27 #[.int .u64 old, .int .i64 m, .int .u64 root, .int .i64 n, .slice a l c] w fun e w' => e = .returned (.bool (cxP old m root n ps)) ∧ Below w.heap.size w w' := by
  have H0 : Hid (RowU w a l ps) := h
  clear h
  by_cases h1 : 1 ≤ n ∧ n ≤ 200
  · by_cases h2 : 1 ≤ m ∧ m ≤ n
    · obtain ⟨n', rfl⟩ := Int.eq_ofNat_of_zero_le (show 0 ≤ n by omega)
      obtain ⟨m', rfl⟩ := Int.eq_ofNat_of_zero_le (show 0 ≤ m by omega)
      have hh : 1 ≤ (n' : Int) ∧ (n' : Int) ≤ 200 ∧ 1 ≤ (m' : Int) ∧ (m' : Int) ≤ n' := ⟨h1.1, h1.2, h2.1, h2.2⟩
      have HV : Hid (cxP old m' root n' ps = ((bothR true old m' n' true ps).2.2 && (decide ((bothR true old m' n' true ps).1 = old) && decide ((bothR true old m' n' true ps).2.1 = root)))) := by show _ = _; unfold cxP; rw [if_pos hh, Int.toNat_natCast, Int.toNat_natCast]
      obtain ⟨v, hv⟩ : ∃ v, v = bothR true old m' n' true ps := ⟨_, rfl⟩
      have hr := fun W (hW : Below w.heap.size w W) => l15Both_any n' old m' n' true a l c ps W (Nat.le_refl _) (by omega) (by omega) (by omega) ho (H0.out.kept hW) hc hcm
      rw [← hv] at hr HV
      have HR : Hid (_) := hr
      clear hv hr hh
      obtain ⟨v0, v1, ok⟩ := v
      go_enter Try.func27, Try.ntmps27
      go_wp2_with fail
      refine (l1In_t (n' : Int) 1 200 _ h1).mono ?_
      rintro e w1 ⟨rfl, hw⟩
      have hw2 := hw.symm
      subst hw2
      go_wp2_with fail
      refine (l1In_t (m' : Int) 1 (n' : Int) _ h2).mono ?_
      rintro e w1 ⟨rfl, hw⟩
      have hw2 := hw.symm
      subst hw2
      go_wp2_with fail
      refine (HR.out _ (Below.refl _ _)).mono ?_
      rintro e w1 ⟨rfl, hb1⟩
      cases ok with
      | false =>
        go_wp2
        go_ret
        exact ⟨by rw [HV.out]; rfl, hb1⟩
      | true =>
        by_cases hvo : v0 = old
        · subst hvo
          by_cases hvr : v1 = root
          · subst hvr
            go_wp2
            go_ret
            exact ⟨by rw [HV.out]; simp, hb1⟩
          · have z1 : (v1 == root) = false := by simpa using hvr
            go_wp2
            go_ret
            exact ⟨by rw [HV.out]; simp [hvr], hb1⟩
        · have z1 : (v0 == old) = false := by simpa using hvo
          go_wp2
          go_ret
          exact ⟨by rw [HV.out]; simp [hvo], hb1⟩
    · have HV : Hid (cxP old m root n ps = false) := by show _ = _; unfold cxP; rw [if_neg (fun hh => h2 ⟨hh.2.2.1, hh.2.2.2⟩)]
      go_enter Try.func27, Try.ntmps27
      go_wp2_with fail
      refine (l1In_t n 1 200 _ h1).mono ?_
      rintro e w1 ⟨rfl, hw⟩
      have hw2 := hw.symm
      subst hw2
      go_wp2_with fail
      refine (l1In_f m 1 n _ h2).mono ?_
      rintro e w1 ⟨rfl, hw⟩
      have hw2 := hw.symm
      subst hw2
      go_wp2
      go_ret
      exact ⟨by rw [HV.out]; rfl, Below.refl _ _⟩
  · have HV : Hid (cxP old m root n ps = false) := by show _ = _; unfold cxP; rw [if_neg (fun hh => h1 ⟨hh.1, hh.2.1⟩)]
    go_enter Try.func27, Try.ntmps27
    go_wp2_with fail
    refine (l1In_f n 1 200 _ h1).mono ?_
    rintro e w1 ⟨rfl, hw⟩
    have hw2 := hw.symm
    subst hw2
    go_wp2
    go_ret
    exact ⟨by rw [HV.out]; rfl, Below.refl _ _⟩

set_option maxHeartbeats 1000000 in
theorem implCheckExtend_any (old m root n : Int) (a : Option Addr) (l c : Nat) (ps : List Int) (w : World) (ho : U64 old) (h : RowU w a l ps) (hc : l ≤ c) (hcm : c ≤ 9223372036854775807) :
    Calls Try.prog 28 #[.int .u64 old, .int .i64 m, .int .u64 root, .int .i64 n, .slice a l c] w fun e w' => e = .returned (.bool (cxP old m root n ps)) ∧ Below w.heap.size w w' := by
  have H0 : Hid (RowU w a l ps) := h
  clear h
  by_cases h1 : 1 ≤ n ∧ n ≤ 200
  · by_cases h2 : 1 ≤ m ∧ m ≤ n
    · obtain ⟨n', rfl⟩ := Int.eq_ofNat_of_zero_le (show 0 ≤ n by omega)
      obtain ⟨m', rfl⟩ := Int.eq_ofNat_of_zero_le (show 0 ≤ m by omega)
      have hh : 1 ≤ (n' : Int) ∧ (n' : Int) ≤ 200 ∧ 1 ≤ (m' : Int) ∧ (m' : Int) ≤ n' := ⟨h1.1, h1.2, h2.1, h2.2⟩
      have HV : Hid (cxP old m' root n' ps = ((bothR false old m' n' true ps).2.2 && (decide ((bothR false old m' n' true ps).1 = old) && decide ((bothR false old m' n' true ps).2.1 = root)))) := cxP_impl old root m' n' ps hh
      obtain ⟨v, hv⟩ : ∃ v, v = bothR false old m' n' true ps := ⟨_, rfl⟩
      have hr := fun W (hW : Below w.heap.size w W) => extendedRoots_any n' old m' n' true a l c ps W (Nat.le_refl _) (by omega) (by omega) (by omega) ho (H0.out.kept hW) hc hcm
      rw [← hv] at hr HV
      have HR : Hid (_) := hr
      clear hv hr hh
      obtain ⟨v0, v1, ok⟩ := v
      go_enter Try.func28, Try.ntmps28
      go_wp2_with fail
      refine (inBounds_t (n' : Int) 1 200 _ h1).mono ?_
      rintro e w1 ⟨rfl, hw⟩
      have hw2 := hw.symm
      subst hw2
      go_wp2_with fail
      refine (inBounds_t (m' : Int) 1 (n' : Int) _ h2).mono ?_
      rintro e w1 ⟨rfl, hw⟩
      have hw2 := hw.symm
      subst hw2
      go_wp2_with fail
      refine (HR.out _ (Below.refl _ _)).mono ?_
      rintro e w1 ⟨rfl, hb1⟩
      obtain ⟨w2, hw2⟩ : ∃ w2, w2 = w1.alloc (.cells #[.int .u64 v0, .int .u64 v1] 64) := ⟨_, rfl⟩
      have hb2 : Below w1.heap.size w1 w2 := by rw [hw2]; exact (Below.refl _ _).alloc (Nat.le_refl _) _
      have hbk : w2.heap[w1.heap.size]? = some (.cells #[.int .u64 v0, .int .u64 v1] 64) := by rw [hw2]; exact heap_alloc_new _ _
      have x0 : w2.cell? ⟨w1.heap.size, 0, none⟩ = some (.int .u64 v0) := (cell_of_row _ _ 0 _ 64 (0, 0) hbk).trans rfl
      have x1 : w2.cell? ⟨w1.heap.size, 1, none⟩ = some (.int .u64 v1) := (cell_of_row _ _ 1 _ 64 (0, 0) hbk).trans rfl
      have HW2 : Hid (_ = _) := hw2
      have HB2 : Hid (Below w.heap.size w w2) := keepT hb1 hb2
      clear hw2 hbk hb2
      go_upto_region 4 with fail
      rw [← HW2.out]
      clear HW2
      cases ok with
      | false =>
        go_wp2
        go_ret
        exact ⟨by rw [HV.out]; rfl, HB2.out⟩
      | true =>
        by_cases hvo : v0 = old
        · subst hvo
          by_cases hvr : v1 = root
          · subst hvr
            go_wp2
            go_ret
            exact ⟨by rw [HV.out]; simp, HB2.out⟩
          · have z1 : (v1 == root) = false := by simpa using hvr
            go_wp2
            go_ret
            exact ⟨by rw [HV.out]; simp [hvr], HB2.out⟩
        · have z1 : (v0 == old) = false := by simpa using hvo
          go_wp2
          go_ret
          exact ⟨by rw [HV.out]; simp [hvo], HB2.out⟩
    · have HV : Hid (cxP old m root n ps = false) := by show _ = _; unfold cxP; rw [if_neg (fun hh => h2 ⟨hh.2.2.1, hh.2.2.2⟩)]
      go_enter Try.func28, Try.ntmps28
      go_wp2_with fail
      refine (inBounds_t n 1 200 _ h1).mono ?_
      rintro e w1 ⟨rfl, hw⟩
      have hw2 := hw.symm
      subst hw2
      go_wp2_with fail
      refine (inBounds_f m 1 n _ h2).mono ?_
      rintro e w1 ⟨rfl, hw⟩
      have hw2 := hw.symm
      subst hw2
      go_wp2
      go_ret
      exact ⟨by rw [HV.out]; rfl, Below.refl _ _⟩
  · have HV : Hid (cxP old m root n ps = false) := by show _ = _; unfold cxP; rw [if_neg (fun hh => h1 ⟨hh.1, hh.2.1⟩)]
    go_enter Try.func28, Try.ntmps28
    go_wp2_with fail
    refine (inBounds_f n 1 200 _ h1).mono ?_
    rintro e w1 ⟨rfl, hw⟩
    have hw2 := hw.symm
    subst hw2
    go_wp2
    go_ret
    exact ⟨by rw [HV.out]; rfl, Below.refl _ _⟩

set_option maxHeartbeats 1000000 in
theorem lawCheckExtend_walk (old : Int) (m : Int) (root : Int) (k : Int) (a : Option Addr) (n c : Nat) (zs : List Int) (w : World) (hx : (Lit.int .u64 old).wf = true) (h : RowU w a n zs ∧ n ≤ 9223372036854775807) :
    Calls Try.prog 8 #[.int .u64 old, .int .i64 m, .int .u64 root, .int .i64 k, .slice a n c] w fun e w' => e = .returned (.bool true) ∧ Below w.heap.size w w' := by
  have H0 : Hid (RowU w a n zs) := h.1
  have HX : Hid (U64 old) := bounds_u64 hx
  have hmx := h.2
  clear h
  by_cases hbig : 1048576 < n
  · go_enter Try.func8, Try.ntmps8
    go_wp2
    go_ret
    exact ⟨rfl, Below.refl _ _⟩
  · have hn : n ≤ 1048576 := by omega
    go_enter Try.func8, Try.ntmps8
    go_wp2_with fail
    refine (toUint64S_any a n c zs _ H0.out hn).mono ?_
    rintro e w1 ⟨a1, rfl, ho1, hb1⟩
    go_wp2_with fail
    refine (specCheckExtend_any old m root k a1 n n zs _ HX.out ho1.toRow (Nat.le_refl _) (by omega)).mono ?_
    rintro e w2 ⟨rfl, hb2⟩
    have B2 := keepT hb1 hb2
    clear hb1 hb2 ho1
    obtain ⟨t, ht⟩ : ∃ t, t = cxP old m root k zs := ⟨_, rfl⟩
    have HT : Hid (t = cxP old m root k zs) := ht
    rw [← ht]
    clear ht
    skip
    go_wp2_with fail
    refine (toUint64S_any a n c zs _ (H0.out.kept B2) hn).mono ?_
    rintro e w3 ⟨a3, rfl, ho3, hb3⟩
    have B3 := keepT B2 hb3
    have HO3 : Hid (RowU w3 a3 n zs) := ho3.toRow
    clear hb3 ho3
    go_wp2_with fail
    refine (implCheckExtend_any old m root k a3 n n zs _ HX.out HO3.out (Nat.le_refl _) (by omega)).mono ?_
    rintro e w4 ⟨rfl, hb4⟩
    rw [← HT.out]
    have B4 := keepT B3 hb4
    have HO4 : Hid (RowU w4 a3 n zs) := HO3.out.kept hb4
    clear hb4 HO3
    have z1 : (t != t) = false := by simp
    go_wp2_with fail
    refine (toUint64S_any a n c zs _ (H0.out.kept B4) hn).mono ?_
    rintro e w5 ⟨a5, rfl, ho5, hb5⟩
    have B5 := keepT B4 hb5
    go_wp2_with fail
    refine (eqUint64S_same a3 a5 n n n zs _ (HO4.out.kept hb5) ho5.toRow (by omega)).mono ?_
    rintro e w6 ⟨rfl, hb6⟩
    go_wp2_with fail
    go_ret
    exact ⟨rfl, keepT B5 hb6⟩

end Go.Proofs.Ytifdcfchliaipaa
