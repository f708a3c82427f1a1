import Derived.Test.YtjdfbebdcpjpiaaDoorCNt
namespace Go.Proofs.YtjdfbebdcpjpiaaDoor
open Go.RowKit

/-! What is told of a time is read as it; what is read as a time is what is told of it. -/

theorem cAt_list (s : ByteArray) (j : Nat) : cAt s j = ((s.data.toList.getD j 0).toNat : Int) := rfl
theorem pd4 (n : Nat) : pd 4 n = [dgt (n / 10 / 10 / 10), dgt (n / 10 / 10), dgt (n / 10), dgt n] := rfl
theorem pd2 (n : Nat) : pd 2 n = [dgt (n / 10), dgt n] := rfl
theorem tmL_is (y m z h i s : Nat) : tmL y m z h i s = [dgt (y / 10 / 10 / 10), dgt (y / 10 / 10), dgt (y / 10), dgt y, 45, dgt (m / 10), dgt m, 45, dgt (z / 10), dgt z, 32, dgt (h / 10), dgt h, 58, dgt (i / 10), dgt i, 58, dgt (s / 10), dgt s] := rfl
theorem nineteen {j : Nat} (h : j < 19) : j = 0 ∨ j = 1 ∨ j = 2 ∨ j = 3 ∨ j = 4 ∨ j = 5 ∨ j = 6 ∨ j = 7 ∨ j = 8 ∨ j = 9 ∨ j = 10 ∨ j = 11 ∨ j = 12 ∨ j = 13 ∨ j = 14 ∨ j = 15 ∨ j = 16 ∨ j = 17 ∨ j = 18 := by omega
theorem dgt_bd (n : Nat) : 48 ≤ ((dgt n).toNat : Int) ∧ ((dgt n).toNat : Int) ≤ 57 := by
  rw [dgt_nat]
  omega
theorem gv_two (s : ByteArray) (a b : Nat) : gv s a (a + b) = dgs (s.extract a (a + b)) b := by
  unfold gv
  rw [Nat.add_sub_cancel_left]
theorem gv2 (s : ByteArray) (a : Nat) (hb : a + 2 ≤ s.size) : gv s a (a + 2) = 10 * (cAt s a - 48) + (cAt s (a + 1) - 48) := by
  rw [gv_two s a 2]
  simp only [dgs]
  rw [ext_cAt s a (a + 2) 0 (by omega) hb, ext_cAt s a (a + 2) 1 (by omega) hb, Nat.add_zero]
  omega
theorem gv4 (s : ByteArray) (a : Nat) (hb : a + 4 ≤ s.size) : gv s a (a + 4) = 1000 * (cAt s a - 48) + 100 * (cAt s (a + 1) - 48) + 10 * (cAt s (a + 2) - 48) + (cAt s (a + 3) - 48) := by
  rw [gv_two s a 4]
  simp only [dgs]
  rw [ext_cAt s a (a + 4) 0 (by omega) hb, ext_cAt s a (a + 4) 1 (by omega) hb, ext_cAt s a (a + 4) 2 (by omega) hb, ext_cAt s a (a + 4) 3 (by omega) hb, Nat.add_zero]
  omega
/-- The six groups of a text that says what is told of a time. -/
theorem tm_read {x : ByteArray} {y m z h i s : Nat} (e : x.data.toList = tmL y m z h i s) (hy : y < 10000) (hm : m < 100) (hz : z < 100) (hh : h < 100) (hi : i < 100) (hs : s < 100) :
    timeF x ∧ gv x 0 4 = y ∧ gv x 5 7 = m ∧ gv x 8 10 = z ∧ gv x 11 13 = h ∧ gv x 14 16 = i ∧ gv x 17 19 = s := by
  have hsz : x.size = 19 := by rw [size_list, e, tmL_len]
  have hc : ∀ j, cAt x j = ((([dgt (y / 10 / 10 / 10), dgt (y / 10 / 10), dgt (y / 10), dgt y, 45, dgt (m / 10), dgt m, 45, dgt (z / 10), dgt z, 32, dgt (h / 10), dgt h, 58, dgt (i / 10), dgt i, 58, dgt (s / 10), dgt s] : List UInt8).getD j 0).toNat : Int) := fun j => by rw [cAt_list, e, tmL_is]
  refine ⟨⟨hsz, fun j hj => ?_⟩, ?_, ?_, ?_, ?_, ?_, ?_⟩
  · rw [hc j]
    rcases nineteen hj with rfl | rfl | rfl | rfl | rfl | rfl | rfl | rfl | rfl | rfl | rfl | rfl | rfl | rfl | rfl | rfl | rfl | rfl | rfl
    all_goals first | exact dgt_bd _ | exact (rfl : (45 : Int) = 45) | exact (rfl : (32 : Int) = 32) | exact (rfl : (58 : Int) = 58)
  · rw [show (4 : Nat) = 0 + 4 from rfl, gv4 x 0 (by omega), hc, hc, hc, hc]
    show 1000 * (((dgt (y / 10 / 10 / 10)).toNat : Int) - 48) + 100 * (((dgt (y / 10 / 10)).toNat : Int) - 48) + 10 * (((dgt (y / 10)).toNat : Int) - 48) + (((dgt y).toNat : Int) - 48) = y
    rw [dgt_nat, dgt_nat, dgt_nat, dgt_nat]
    omega
  · rw [show (7 : Nat) = 5 + 2 from rfl, gv2 x 5 (by omega), hc, hc]
    show 10 * (((dgt (m / 10)).toNat : Int) - 48) + (((dgt m).toNat : Int) - 48) = m
    rw [dgt_nat, dgt_nat]
    omega
  · rw [show (10 : Nat) = 8 + 2 from rfl, gv2 x 8 (by omega), hc, hc]
    show 10 * (((dgt (z / 10)).toNat : Int) - 48) + (((dgt z).toNat : Int) - 48) = z
    rw [dgt_nat, dgt_nat]
    omega
  · rw [show (13 : Nat) = 11 + 2 from rfl, gv2 x 11 (by omega), hc, hc]
    show 10 * (((dgt (h / 10)).toNat : Int) - 48) + (((dgt h).toNat : Int) - 48) = h
    rw [dgt_nat, dgt_nat]
    omega
  · rw [show (16 : Nat) = 14 + 2 from rfl, gv2 x 14 (by omega), hc, hc]
    show 10 * (((dgt (i / 10)).toNat : Int) - 48) + (((dgt i).toNat : Int) - 48) = i
    rw [dgt_nat, dgt_nat]
    omega
  · rw [show (19 : Nat) = 17 + 2 from rfl, gv2 x 17 (by omega), hc, hc]
    show 10 * (((dgt (s / 10)).toNat : Int) - 48) + (((dgt s).toNat : Int) - 48) = s
    rw [dgt_nat, dgt_nat]
    omega
theorem mdays_of {d y m z : Int} (h : dateR d y m z) : z ≤ mdays y m := by
  obtain ⟨a1, a2, a3, k, rfl, a5, a6, a7, rfl⟩ := h
  have e := msum_next y k
  omega
/-- What is told of a time is read as it. -/
theorem time_there {t : Int} {x : ByteArray} (h : timeX t x true) : timeR x t true := by
  obtain ⟨h1, y, m, z, h2, h3, e⟩ := timeX_open h
  obtain ⟨q0, q1, q2, q3, q4, q5, q6⟩ := tm_read e (by omega) (by omega) (by omega) (by omega) (by omega) (by omega)
  refine .inl ⟨rfl, q0, ⟨by omega, by omega, ⟨by omega, ?_⟩, by omega, by omega, by omega⟩, ?_⟩
  · rw [q1, q2, q3]
    exact mdays_of h2
  · unfold valT
    rw [q1, q2, q3, q4, q5, q6]
    obtain ⟨a1, a2, a3, k, a4, a5, a6, a7, a8⟩ := h2
    rw [show ((m : Int)).toNat - 1 = k by omega]
    omega
theorem group_is (x : ByteArray) (hF : timeF x) (a b : Nat) (hb : b ≤ 19) (hd : ∀ j, j < b → a ≤ j → tsign.getD j 0 = 0) : ∀ j, a ≤ j → j < b → 48 ≤ cAt x j ∧ cAt x j ≤ 57 := by
  intro j h1 h2
  have h := hF.2 j (by omega)
  unfold fits at h
  rwa [if_pos (hd j h2 h1)] at h
theorem sign_is (x : ByteArray) (hF : timeF x) (j : Nat) (hj : j < 19) (c : Int) (hc : tsign.getD j 0 = c) (h0 : c ≠ 0) : cAt x j = c := by
  have h := hF.2 j hj
  unfold fits at h
  rw [if_neg (by rw [hc]; exact h0), hc] at h
  exact h
theorem byte_of {b : UInt8} {n : Nat} (h : (b.toNat : Int) = 48 + n % 10) : b = dgt n := by
  apply UInt8.toNat_inj.1
  rw [dgt_nat]
  omega
/-- A text that has the form of a time is what is told of its six numbers. -/
theorem tm_form {x : ByteArray} (hF : timeF x) : ∃ y m z h i s : Nat, gv x 0 4 = y ∧ gv x 5 7 = m ∧ gv x 8 10 = z ∧ gv x 11 13 = h ∧ gv x 14 16 = i ∧ gv x 17 19 = s ∧ y < 10000 ∧ x.data.toList = tmL y m z h i s := by
  have hsz := hF.1
  have D : ∀ j, tsign.getD j 0 = 0 → j < 19 → 48 ≤ cAt x j ∧ cAt x j ≤ 57 := fun j h0 hj => by
    have h := hF.2 j hj
    unfold fits at h
    rwa [if_pos h0] at h
  have d0 := D 0 rfl (by decide); have d1 := D 1 rfl (by decide); have d2 := D 2 rfl (by decide); have d3 := D 3 rfl (by decide)
  have d5 := D 5 rfl (by decide); have d6 := D 6 rfl (by decide); have d8 := D 8 rfl (by decide); have d9 := D 9 rfl (by decide)
  have d11 := D 11 rfl (by decide); have d12 := D 12 rfl (by decide); have d14 := D 14 rfl (by decide); have d15 := D 15 rfl (by decide)
  have d17 := D 17 rfl (by decide); have d18 := D 18 rfl (by decide)
  have g0 := gv4 x 0 (by omega); have g5 := gv2 x 5 (by omega); have g8 := gv2 x 8 (by omega); have g11 := gv2 x 11 (by omega); have g14 := gv2 x 14 (by omega); have g17 := gv2 x 17 (by omega)
  simp only [Nat.zero_add, Nat.reduceAdd] at g0 g5 g8 g11 g14 g17
  have s4 := sign_is x hF 4 (by decide) 45 rfl (by decide); have s7 := sign_is x hF 7 (by decide) 45 rfl (by decide); have s10 := sign_is x hF 10 (by decide) 32 rfl (by decide)
  have s13 := sign_is x hF 13 (by decide) 58 rfl (by decide); have s16 := sign_is x hF 16 (by decide) 58 rfl (by decide)
  refine ⟨(gv x 0 4).toNat, (gv x 5 7).toNat, (gv x 8 10).toNat, (gv x 11 13).toNat, (gv x 14 16).toNat, (gv x 17 19).toNat, by omega, by omega, by omega, by omega, by omega, by omega, by omega, ?_⟩
  rw [tmL_is]
  refine List.ext_getElem (by rw [← size_list, hsz]; rfl) fun j h1 h2 => ?_
  have hj : j < 19 := by rw [← size_list, hsz] at h1; exact h1
  have key : ∀ (c : UInt8), cAt x j = (c.toNat : Int) → x.data.toList[j] = c := fun c hc => by
    apply UInt8.toNat_inj.1
    rw [cAt_list, List.getD_eq_getElem?_getD, List.getElem?_eq_getElem h1, Option.getD_some] at hc
    omega
  refine key _ ?_
  rcases nineteen hj with rfl | rfl | rfl | rfl | rfl | rfl | rfl | rfl | rfl | rfl | rfl | rfl | rfl | rfl | rfl | rfl | rfl | rfl | rfl
  · show _ = ((dgt _).toNat : Int); rw [dgt_nat]; omega
  · show _ = ((dgt _).toNat : Int); rw [dgt_nat]; omega
  · show _ = ((dgt _).toNat : Int); rw [dgt_nat]; omega
  · show _ = ((dgt _).toNat : Int); rw [dgt_nat]; omega
  · exact s4
  · show _ = ((dgt _).toNat : Int); rw [dgt_nat]; omega
  · show _ = ((dgt _).toNat : Int); rw [dgt_nat]; omega
  · exact s7
  · show _ = ((dgt _).toNat : Int); rw [dgt_nat]; omega
  · show _ = ((dgt _).toNat : Int); rw [dgt_nat]; omega
  · exact s10
  · show _ = ((dgt _).toNat : Int); rw [dgt_nat]; omega
  · show _ = ((dgt _).toNat : Int); rw [dgt_nat]; omega
  · exact s13
  · show _ = ((dgt _).toNat : Int); rw [dgt_nat]; omega
  · show _ = ((dgt _).toNat : Int); rw [dgt_nat]; omega
  · exact s16
  · show _ = ((dgt _).toNat : Int); rw [dgt_nat]; omega
  · show _ = ((dgt _).toNat : Int); rw [dgt_nat]; omega
/-- What is read as a time is what is told of it. -/
theorem time_back {t : Int} {x : ByteArray} (h : timeR x t true) : timeX t x true := by
  rcases h with ⟨_, hF, hR, rfl⟩ | ⟨h, _⟩
  · obtain ⟨y, m, z, h, i, s, q1, q2, q3, q4, q5, q6, hy, e⟩ := tm_form hF
    obtain ⟨r1, ⟨r2, r3⟩, ⟨r4, r5⟩, r6, r7, r8⟩ := hR
    rw [q1] at r1 r5
    rw [q2] at r2 r3 r5
    rw [q3] at r4 r5
    rw [q4] at r6
    rw [q5] at r7
    rw [q6] at r8
    obtain ⟨v, hv⟩ : ∃ v, v = valT x := ⟨_, rfl⟩
    have hv2 := hv
    unfold valT at hv2
    rw [q1, q2, q3, q4, q5, q6] at hv2
    have b1 := dAhead_bd y r1 (by omega)
    have b2 := msum_bd y (m - 1) (by omega)
    have b3 := mdays_bd y m (by omega) (by omega)
    have e3 : ((m : Int)).toNat - 1 = m - 1 := by omega
    rw [e3] at hv2
    have hnx := msum_next y (m - 1)
    have hmm : ((m - 1 : Nat) : Int) + 1 = m := by omega
    rw [hmm] at hnx
    have hyr : msum y (m - 1 + 1) ≤ msum y 12 := by
      have := msum_mono y (m - 1 + 1) (12 - (m - 1 + 1)) (by omega)
      rwa [show m - 1 + 1 + (12 - (m - 1 + 1)) = 12 by omega] at this
    rw [msum_year] at hyr
    have hny := dAhead_next y
    have htop : dAhead (y + 1) ≤ 2932897 := by
      have h1 := dAhead_mono (y + 1) (9999 - y)
      rw [show (y : Int) + 1 + ((9999 - y : Nat) : Int) = 10000 by omega] at h1
      have h3 : dAhead 10000 = 2932897 := by decide
      omega
    have hd : v / 86400 = dAhead y + z - 1 + msum y (m - 1) := by omega
    have hs : v % 86400 = 3600 * h + 60 * i + s := by omega
    have hr : dateR (v / 86400) y m z := by
      refine ⟨r1, by omega, by omega, m - 1, by omega, by omega, by omega, by omega, by omega⟩
    rw [← hv]
    refine .inl ⟨rfl, ⟨by omega, by omega⟩, y, m, z, hr, ba_ext ?_⟩
    rw [timeTx_list y m z _ (by omega) (by omega) (by omega) (by omega), e]
    have e1 : (v % 86400 / 3600).toNat = h := by omega
    have e2 : (v % 86400 / 60 % 60).toNat = i := by omega
    have e4 : (v % 86400 % 60).toNat = s := by omega
    rw [e1, e2, e4, Int.toNat_natCast, Int.toNat_natCast, Int.toNat_natCast]
  · cases h

end Go.Proofs.YtjdfbebdcpjpiaaDoor
