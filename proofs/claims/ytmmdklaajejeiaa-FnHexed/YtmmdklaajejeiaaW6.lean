import Derived.Test.YtmmdklaajejeiaaW2
namespace Go.Proofs.Ytmmdklaajejeiaa
open Go.RowKit

def digOk (x : Int) : Bool := decide (48 ≤ x ∧ x ≤ 57 ∨ 97 ≤ x ∧ x ≤ 102)
def digV (x : Int) : Int := if 48 ≤ x ∧ x ≤ 57 then x - 48 else if 97 ≤ x ∧ x ≤ 102 then x - 87 else 0
theorem digV_bd (x : Int) : 0 ≤ digV x ∧ digV x ≤ 15 := by
  unfold digV
  split
  · omega
  · split <;> omega

def DigPost (x : Int) (w : World) (e : Ending) (w' : World) : Prop :=
  ∃ (v : Int) (ok : Bool), e = .returned (.tuple #[.int .u8 v, .bool ok]) ∧ Hid (v = digV x) ∧ Hid (ok = digOk x) ∧ 0 ≤ v ∧ v ≤ 15 ∧ w = w'

theorem digPost_mk (x v : Int) (ok : Bool) (w : World) (hv : v = digV x) (ho : ok = digOk x) : DigPost x w (.returned (.tuple #[.int .u8 v, .bool ok])) w :=
  ⟨v, ok, rfl, hv, ho, by rw [hv]; exact (digV_bd x).1, by rw [hv]; exact (digV_bd x).2, rfl⟩

theorem dig_cases (x : Int) : (48 ≤ x ∧ x ≤ 57 ∧ digV x = x - 48 ∧ digOk x = true) ∨ (97 ≤ x ∧ x ≤ 102 ∧ digV x = x - 97 + 10 ∧ digOk x = true) ∨ (digV x = 0 ∧ digOk x = false ∧ (x < 48 ∨ (57 < x ∧ x < 97) ∨ 102 < x)) := by
  unfold digV digOk
  by_cases h1 : 48 ≤ x ∧ x ≤ 57
  · left; simp [h1]
  · by_cases h2 : 97 ≤ x ∧ x ≤ 102
    · right; left; rw [if_neg h1, if_pos h2]; simp [h2]; omega
    · right; right; rw [if_neg h1, if_neg h2]; simp; omega

set_option maxHeartbeats 400000 in
theorem specDigit_any (x : Int) (w : World) (h0 : 0 ≤ x) (h1 : x ≤ 255) : Calls Try.prog 31 #[.int .u8 x] w (DigPost x w) := by
  rcases dig_cases x with ⟨l, u, hv, ho⟩ | ⟨l, u, hv, ho⟩ | ⟨hv, ho, hc⟩
  · have HV := hv; have HO := ho
    replace hv : Hid (digV x = x - 48) := hv
    replace ho : Hid (digOk x = true) := ho
    clear HV HO
    go_enter Try.func31, Try.ntmps31
    go_wp2
    go_ret2
    exact digPost_mk x _ _ w hv.out.symm ho.out.symm
  · replace hv : Hid (digV x = x - 97 + 10) := hv
    replace ho : Hid (digOk x = true) := ho
    go_enter Try.func31, Try.ntmps31
    go_wp2
    go_ret2
    exact digPost_mk x _ _ w hv.out.symm ho.out.symm
  · replace hv : Hid (digV x = 0) := hv
    replace ho : Hid (digOk x = false) := ho
    rcases hc with hc | hc | hc
    all_goals
      go_enter Try.func31, Try.ntmps31
      go_wp2
      go_ret2
      exact digPost_mk x _ _ w hv.out.symm ho.out.symm

set_option maxHeartbeats 400000 in
theorem implDigit_any (x : Int) (w : World) (h0 : 0 ≤ x) (h1 : x ≤ 255) : Calls Try.prog 26 #[.int .u8 x] w (DigPost x w) := by
  rcases dig_cases x with ⟨l, u, hv, ho⟩ | ⟨l, u, hv, ho⟩ | ⟨hv, ho, hc⟩
  · replace hv : Hid (digV x = x - 48) := hv
    replace ho : Hid (digOk x = true) := ho
    go_enter Try.func26, Try.ntmps26
    go_wp2
    go_ret2
    exact digPost_mk x _ _ w hv.out.symm ho.out.symm
  · replace hv : Hid (digV x = x - 97 + 10) := hv
    replace ho : Hid (digOk x = true) := ho
    go_enter Try.func26, Try.ntmps26
    go_wp2
    go_ret2
    exact digPost_mk x _ _ w hv.out.symm ho.out.symm
  · replace hv : Hid (digV x = 0) := hv
    replace ho : Hid (digOk x = false) := ho
    rcases hc with hc | hc | hc
    all_goals
      go_enter Try.func26, Try.ntmps26
      go_wp2
      go_ret2
      exact digPost_mk x _ _ w hv.out.symm ho.out.symm

/-- The byte at a place of a text. -/
def cAt (s : ByteArray) (j : Nat) : Int := ((s.data.toList.getD j 0).toNat : Int)
theorem cAt_get (s : ByteArray) (j : Nat) (h : j < s.size) : cAt s j = (s[j].toNat : Int) := by
  have h' : j < s.data.toList.length := by simpa using h
  unfold cAt
  rw [List.getD_eq_getElem?_getD, List.getElem?_eq_getElem h']
  rfl

def pairV (s : ByteArray) (j : Nat) : Int := digV (cAt s (2 * j)) * 16 + digV (cAt s (2 * j + 1))
def hexL (s : ByteArray) (k : Nat) : List Int := (List.range k).map (pairV s)
def hexGood (s : ByteArray) (k : Nat) : Prop := ∀ j, j < 2 * k → digOk (cAt s j) = true
def hexRes (s : ByteArray) (bs : List Int) (ok : Bool) : Prop := (ok = true ∧ s.size % 2 = 0 ∧ hexGood s (s.size / 2) ∧ bs = hexL s (s.size / 2)) ∨ (ok = false ∧ bs = [] ∧ ¬ (s.size % 2 = 0 ∧ hexGood s (s.size / 2)))

theorem hexRes_one {s : ByteArray} {a b : List Int} {x y : Bool} (h : hexRes s a x) (k : hexRes s b y) : a = b ∧ x = y := by
  rcases h with ⟨rfl, h1, h2, rfl⟩ | ⟨rfl, rfl, hn⟩
  · rcases k with ⟨rfl, _, _, rfl⟩ | ⟨rfl, rfl, kn⟩
    · exact ⟨rfl, rfl⟩
    · exact absurd ⟨h1, h2⟩ kn
  · rcases k with ⟨rfl, k1, k2, rfl⟩ | ⟨rfl, rfl, kn⟩
    · exact absurd ⟨k1, k2⟩ hn
    · exact ⟨rfl, rfl⟩

theorem hexL_len (s : ByteArray) (k : Nat) : (hexL s k).length = k := by simp [hexL]
theorem hexL_succ (s : ByteArray) (k : Nat) : hexL s (k + 1) = hexL s k ++ [pairV s k] := by simp [hexL, List.range_succ]
theorem pairV_byte (s : ByteArray) (k : Nat) : 0 ≤ pairV s k ∧ pairV s k ≤ 255 := by
  have h1 := digV_bd (cAt s (2 * k))
  have h2 := digV_bd (cAt s (2 * k + 1))
  unfold pairV; omega
theorem hexL_byte (s : ByteArray) (k : Nat) : ∀ j, 0 ≤ (hexL s k).getD j 0 ∧ (hexL s k).getD j 0 ≤ 255 := by
  intro j
  by_cases h : j < k
  · simp [hexL, h, pairV_byte]
  · rw [List.getD_eq_getElem?_getD, List.getElem?_eq_none (by rw [hexL_len]; omega)]; simp
theorem hexGood_zero (s : ByteArray) : hexGood s 0 := fun j h => by omega
theorem hexGood_succ {s : ByteArray} {k : Nat} (h : hexGood s k) (h1 : digOk (cAt s (2 * k)) = true) (h2 : digOk (cAt s (2 * k + 1)) = true) : hexGood s (k + 1) := by
  intro j hj
  by_cases e1 : j = 2 * k
  · rw [e1]; exact h1
  · by_cases e2 : j = 2 * k + 1
    · rw [e2]; exact h2
    · exact h j (by omega)
theorem or4 (x y : Int) (hx : 0 ≤ x) (hx' : x ≤ 15) (hy : 0 ≤ y) (hy' : y ≤ 15) : bits .or .u8 (x * 16) y = x * 16 + y :=
  bits_join .u8 8 (by decide) wraps_u8 4 (x * 16) y (by omega) (by omega) (by omega) hy (by omega) (by omega)
theorem hexBad {s : ByteArray} {k : Nat} (hk : k < s.size / 2) {j : Nat} (hj : j = 2 * k ∨ j = 2 * k + 1) (h : digOk (cAt s j) = false) : hexRes s [] false := by
  refine .inr ⟨rfl, rfl, fun hh => ?_⟩
  have := hh.2 j (by omega)
  rw [h] at this
  exact absurd this (by decide)

/-- What HexRead answers. -/
def HexPost (s : ByteArray) (w : World) (e : Ending) (w' : World) : Prop :=
  ∃ (a : Option Addr) (n cap : Nat) (bs : List Int) (ok : Bool), e = .returned (.tuple #[.slice a n cap, .bool ok]) ∧ hexRes s bs ok ∧ Own w.heap.size w' a n cap bs ∧ Below w.heap.size w w'

theorem own_new_empty {B : Nat} (w : World) (h : B ≤ w.heap.size) : Own B (w.alloc (.cells #[] 5)) (some ⟨w.heap.size, 0, none⟩) 0 0 [] :=
  ⟨World.ownsRow_lit w #[] 0 h (Nat.zero_le _) rfl, by simp⟩
theorem own_nil (B : Nat) (w : World) : Own B w none 0 0 [] := ⟨World.ownsRow_nil _ _ _ _, by simp⟩

set_option maxHeartbeats 1000000 in
theorem specHexRead_any (s : ByteArray) (w : World) (hs : s.size ≤ 1048576) : Calls Try.prog 17 #[.string s] w (HexPost s w) := by
  obtain ⟨i0, hi, hz0, hz1, hz2⟩ := info_parts Try.info5
  by_cases hodd : s.size % 2 = 0
  · have ho : ((s.size : Int) % 2 != 0) = false := by simp; omega
    have HO : Hid (s.size % 2 = 0) := hodd
    clear hodd
    have hoe := own_new_empty w (Nat.le_refl _)
    have hbe : Below w.heap.size w (w.alloc (.cells #[] 5)) := (Below.refl _ _).alloc (Nat.le_refl _) _
    go_enter Try.func17, Try.ntmps17
    go_wp2
    go_loopw [4, 5] (fun o i wr => ∃ (k cap : Nat) (a : Option Addr), k ≤ s.size / 2 ∧ i = .int .i64 ((2 * k : Nat) : Int) ∧ o = .slice a k cap ∧ Own w.heap.size wr a k cap (hexL s k) ∧ hexGood s k ∧ Below w.heap.size w wr) (fun _ i _ => s.size + 2 - (intOf i).toNat)
    case atStart => exact ⟨0, 0, _, by omega, rfl, rfl, hoe, hexGood_zero s, hbe⟩
    case round =>
      obtain ⟨k, cap, a, hk, rfl, rfl, hor, hgd, hbr⟩ := hrel
      have HGd : Hid (hexGood s k) := hgd
      clear hgd
      have hws : w.heap.size ≤ wr.heap.size := hbr.size
      by_cases hlt : k < s.size / 2
      · have hl0 : 2 * k < s.size := by omega
        have hl1 : 2 * k + 1 < s.size := by omega
        have b0 := s[2 * k].toNat_lt
        have b1 := s[2 * k + 1].toNat_lt
        go_wp2_with fail
        refine (specDigit_any _ _ (by omega) (by omega)).mono ?_
        rintro e w' ⟨v0, ok0, rfl, HV0, HO0, l0, u0, hw'⟩
        subst hw'
        go_wp2_with fail
        refine (specDigit_any _ _ (by omega) (by omega)).mono ?_
        rintro e w' ⟨v1, ok1, rfl, HV1, HO1, l1, u1, hw'⟩
        subst hw'
        replace HV0 : Hid (v0 = digV (cAt s (2 * k))) := by rw [cAt_get s _ hl0]; exact HV0
        replace HV1 : Hid (v1 = digV (cAt s (2 * k + 1))) := by rw [cAt_get s _ hl1]; exact HV1
        replace HO0 : Hid (ok0 = digOk (cAt s (2 * k))) := by rw [cAt_get s _ hl0]; exact HO0
        replace HO1 : Hid (ok1 = digOk (cAt s (2 * k + 1))) := by rw [cAt_get s _ hl1]; exact HO1
        cases ok0 with
        | false =>
          have hbad : Hid (hexRes s [] false) := hexBad hlt (.inl rfl) HO0.out.symm
          go_wp2
          go_ret2
          exact ⟨_, _, _, [], false, rfl, hbad.out, own_new_empty wr hws, hbr.alloc hws _⟩
        | true =>
          cases ok1 with
          | false =>
            have hbad : Hid (hexRes s [] false) := hexBad hlt (.inr rfl) HO1.out.symm
            go_wp2
            go_ret2
            exact ⟨_, _, _, [], false, rfl, hbad.out, own_new_empty wr hws, hbr.alloc hws _⟩
          | true =>
            have hv : bits .or .u8 (v0 * 16) v1 = v0 * 16 + v1 := or4 v0 v1 l0 u0 l1 u1
            go_wp2_with (at_builtin; refine wpList_append_own _ rfl _ _ 22 rfl w.heap.size 5 i0 (.int .u8 0) 1 1 Try.underlying22 hi hz0 hz1 hz2 rfl (by decide) _ _ _ rfl (hor.row.alloc _) ⟨wr.heap.size, 0, none⟩ 1 1 [_] rfl rfl (cell_one_new _ _ _) (by intro u hu; simp at hu; subst hu; rfl) (by unfold maxLen; omega) (by omega) (by simp; omega) ?_; intro v' w1 hown' hgrow' _)
            have hb1 : Below w.heap.size w w1 := below_appended (hbr.alloc hws _) (by simp; omega) (hor.row.alloc _) hgrow'
            have hpv : v0 * 16 + v1 = pairV s k := by rw [HV0.out, HV1.out]; rfl
            rw [hpv] at hown'
            obtain ⟨a', cap', rfl, ho'⟩ := own_appended (ys := [pairV s k]) hown' hor.byte (by simpa using snoc_byte (xs := []) (by simp) _ (pairV_byte s k))
            rw [← hexL_succ] at ho'
            go_roundw
            case rel => exact ⟨k + 1, cap', a', by omega, by go_num, rfl, ho', hexGood_succ HGd.out HO0.out.symm HO1.out.symm, hb1⟩
            case measure => simp [intOf]; omega
      · have hkk : k = s.size / 2 := by omega
        have hres : Hid (hexRes s (hexL s k) true) := .inl ⟨rfl, HO.out, by rw [← hkk]; exact HGd.out, by rw [← hkk]⟩
        clear hkk
        have hge : s.size ≤ 2 * k := by have := HO.out; omega
        go_wp2
        go_ret2
        exact ⟨_, _, _, _, true, rfl, hres.out, hor, hbr⟩
  · have ho : ((s.size : Int) % 2 != 0) = true := by simp; omega
    have hr : hexRes s [] false := .inr ⟨rfl, rfl, fun h => hodd h.1⟩
    have HR : Hid (hexRes s [] false) := hr
    clear hr hodd
    go_enter Try.func17, Try.ntmps17
    go_wp2
    go_ret2
    exact ⟨_, _, _, [], false, rfl, HR.out, own_new_empty w (Nat.le_refl _), (Below.refl _ _).alloc (Nat.le_refl _) _⟩

/-- The first k pairs, and then zeros up to m. -/
def hexHalf (s : ByteArray) (m k : Nat) : List Int := hexL s k ++ List.replicate (m - k) 0
theorem hexHalf_zero (s : ByteArray) (m : Nat) : hexHalf s m 0 = List.replicate m 0 := by simp [hexHalf, hexL]
theorem hexHalf_all (s : ByteArray) (m : Nat) : hexHalf s m m = hexL s m := by simp [hexHalf]
theorem hexHalf_len (s : ByteArray) (m k : Nat) (h : k ≤ m) : (hexHalf s m k).length = m := by simp [hexHalf, hexL_len]; omega
theorem hexHalf_set (s : ByteArray) (m k : Nat) (h : k < m) : (hexHalf s m k).set k (pairV s k) = hexHalf s m (k + 1) := by
  unfold hexHalf
  rw [show m - k = (m - (k + 1)) + 1 by omega, List.replicate_succ, set_append_mid _ _ _ _ _ (hexL_len s k), hexL_succ, List.append_assoc]
  rfl

set_option maxHeartbeats 1000000 in
theorem implHexRead_any (s : ByteArray) (w : World) (hs : s.size ≤ 1048576) : Calls Try.prog 14 #[.string s] w (HexPost s w) := by
  obtain ⟨i0, hi, hz0, hz1, hz2⟩ := info_parts Try.info5
  by_cases hodd : s.size % 2 = 0
  · have ho : ((s.size : Int) % 2 != 0) = false := by simp; omega
    have HO : Hid (s.size % 2 = 0) := hodd
    clear hodd
    obtain ⟨m, hm⟩ : ∃ m, m = s.size / 2 := ⟨_, rfl⟩
    have HM : Hid (m = s.size / 2) := hm
    have hm2 : (s.size : Int) / 2 = (m : Int) := by omega
    have hm1 : m ≤ 1048576 := by omega
    have hm3 : 2 * m ≤ s.size := by omega
    clear hm
    go_enter Try.func14, Try.ntmps14
    go_wp2_with (at_make; refine wpList_make_full _ rfl _ _ 22 rfl w.heap.size 5 i0 (.int .u8 0) 1 Try.underlying22 hi hz0 hz1 _ _ _ _ m rfl rfl rfl rfl (by rw [hz2]; omega) (by unfold maxLen; omega) (by exact Nat.le_refl _) ?_; intro w1 hown hgrow)
    have ho1 := own_made hown
    have hbl : Below w.heap.size w w1 := (Below.refl _ _).grown hgrow (Nat.le_refl _) (by simp)
    clear hown hgrow hi hz0 hz1 hz2
    go_loopw [20] (fun i wr => ∃ k : Nat, k ≤ m ∧ i = .int .i64 k ∧ Own w.heap.size wr (some ⟨w.heap.size, 0, none⟩) m m (hexHalf s m k) ∧ hexGood s k ∧ Below w.heap.size w wr) (fun i _ => m - (intOf i).toNat)
    case atStart => exact ⟨0, by omega, rfl, by rw [hexHalf_zero]; exact ho1, hexGood_zero s, hbl⟩
    case round =>
      obtain ⟨k, hk, rfl, hor, hgd, hbr⟩ := hrel
      have HGd : Hid (hexGood s k) := hgd
      clear hgd
      by_cases hlt : k < m
      · have hl0 : 2 * k < s.size := by omega
        have hl1 : 2 * k + 1 < s.size := by omega
        have b0 := s[2 * k].toNat_lt
        have b1 := s[2 * k + 1].toNat_lt
        have hfr : wr.frozen? ⟨w.heap.size, k, none⟩ = false := hor.row.frozenAt k
        obtain ⟨z, hz⟩ : ∃ z, wr.cell? ⟨w.heap.size, k, none⟩ = some z := ⟨_, (hor.row.cellAt k (by omega)).trans (List.getElem?_eq_getElem (by simp [hexHalf_len s m k hk]; exact hlt))⟩
        have hs1 := hor.store k (pairV s k) (pairV_byte s k)
        rw [hexHalf_set s m k hlt] at hs1
        have HS : Hid (Own w.heap.size (wr.setCell ⟨w.heap.size, k, none⟩ (.int .u8 (pairV s k))) (some ⟨w.heap.size, 0, none⟩) m m (hexHalf s m (k + 1))) := hs1
        clear hs1
        go_wp2_with fail
        refine (implDigit_any _ _ (by omega) (by omega)).mono ?_
        rintro e w' ⟨v0, ok0, rfl, HV0, HO0, l0, u0, hw'⟩
        subst hw'
        go_wp2_with fail
        refine (implDigit_any _ _ (by omega) (by omega)).mono ?_
        rintro e w' ⟨v1, ok1, rfl, HV1, HO1, l1, u1, hw'⟩
        subst hw'
        replace HV0 : Hid (v0 = digV (cAt s (2 * k))) := by rw [cAt_get s _ hl0]; exact HV0
        replace HV1 : Hid (v1 = digV (cAt s (2 * k + 1))) := by rw [cAt_get s _ hl1]; exact HV1
        replace HO0 : Hid (ok0 = digOk (cAt s (2 * k))) := by rw [cAt_get s _ hl0]; exact HO0
        replace HO1 : Hid (ok1 = digOk (cAt s (2 * k + 1))) := by rw [cAt_get s _ hl1]; exact HO1
        cases ok0 with
        | false =>
          have hbad : Hid (hexRes s [] false) := hexBad (by rw [← HM.out]; exact hlt) (.inl rfl) HO0.out.symm
          go_wp2
          go_ret2
          exact ⟨_, _, _, [], false, rfl, hbad.out, own_nil _ _, hbr⟩
        | true =>
          cases ok1 with
          | false =>
            have hbad : Hid (hexRes s [] false) := hexBad (by rw [← HM.out]; exact hlt) (.inr rfl) HO1.out.symm
            go_wp2
            go_ret2
            exact ⟨_, _, _, [], false, rfl, hbad.out, own_nil _ _, hbr⟩
          | true =>
            have hv : bits .or .u8 (v0 * 16) v1 = v0 * 16 + v1 := or4 v0 v1 l0 u0 l1 u1
            have hpv : Hid (v0 * 16 + v1 = pairV s k) := by show _ = _; rw [HV0.out, HV1.out]; rfl
            go_wp2
            go_roundw
            case rel => exact ⟨k + 1, by omega, by go_num, by rw [hpv.out]; exact HS.out, hexGood_succ HGd.out HO0.out.symm HO1.out.symm, hbr.setCell (Nat.le_refl _) _⟩
            case measure => simp [intOf]; omega
      · have hkk : k = m := by omega
        subst hkk
        have hres : Hid (hexRes s (hexL s k) true) := .inl ⟨rfl, HO.out, by rw [← HM.out]; exact HGd.out, by rw [← HM.out]⟩
        rw [hexHalf_all] at hor
        go_wp2
        go_ret2
        exact ⟨_, _, _, _, true, rfl, hres.out, hor, hbr⟩
  · have ho : ((s.size : Int) % 2 != 0) = true := by simp; omega
    have hr : hexRes s [] false := .inr ⟨rfl, rfl, fun h => hodd h.1⟩
    have HR : Hid (hexRes s [] false) := hr
    clear hr hodd
    go_enter Try.func14, Try.ntmps14
    go_wp2
    go_ret2
    exact ⟨_, _, _, [], false, rfl, HR.out, own_nil _ _, Below.refl _ _⟩

end Go.Proofs.Ytmmdklaajejeiaa
