import Derived.Test.YtkpabanjlhlmfaaGreatDoorGN6GN7
namespace Go.Proofs.YtkpabanjlhlmfaaGreatDoor
open Go.RowKit

set_option maxRecDepth 10000 in
set_option maxHeartbeats 1000000 in
theorem highestBits_any (x b : Int) (w : World) (h2 : 0 ≤ b) (h3 : b ≤ 32) : Calls Tryz.prog 152 #[.int .i64 x, .int .i64 b] w fun e w' => e = .returned (.int .i64 (x / (2 : Int) ^ (32 - b).toNat)) ∧ w' = w := by
  go_enter Tryz.func152, Tryz.ntmps152
  go_wp2
  go_ret
  exact ⟨rfl, rfl⟩

set_option maxRecDepth 10000 in
set_option maxHeartbeats 200000 in
theorem inB_t (x lo hi : Int) (w : World) (h : lo ≤ x ∧ x ≤ hi) : Calls Tryz.prog 38 #[.int .i64 x, .int .i64 lo, .int .i64 hi] w fun e w' => e = .returned (.bool true) ∧ w' = w :=
  (inBounds_says x lo hi w).mono fun e w' ⟨b, h1, h2, h3⟩ => by
    obtain rfl : b = true := h2.out.2 h
    exact ⟨h1, h3.symm⟩
theorem inB_f (x lo hi : Int) (w : World) (h : ¬ (lo ≤ x ∧ x ≤ hi)) : Calls Tryz.prog 38 #[.int .i64 x, .int .i64 lo, .int .i64 hi] w fun e w' => e = .returned (.bool false) ∧ w' = w :=
  (inBounds_says x lo hi w).mono fun e w' ⟨b, h1, h2, h3⟩ => by
    cases b with
    | false => exact ⟨h1, h3.symm⟩
    | true => exact absurd (h2.out.1 rfl) h

theorem back_iff (x : Int) (k : Nat) (h0 : 0 ≤ x) (h1 : x ≤ 4294967295) : (wrap64 (x / (2 : Int) ^ k * (2 : Int) ^ k) == x) = true ↔ x % (2 : Int) ^ k = 0 := by
  obtain ⟨m, hm⟩ : ∃ m : Int, m = (2 : Int) ^ k := ⟨_, rfl⟩
  have hp : 0 < m := by rw [hm]; exact Int.pow_pos (by decide)
  rw [← hm]
  have e := Int.mul_ediv_add_emod x m
  have e1 := Int.emod_nonneg x (Int.ne_of_gt hp)
  have e2 : 0 ≤ m * (x / m) := Int.mul_nonneg (Int.le_of_lt hp) (Int.ediv_nonneg h0 (Int.le_of_lt hp))
  rw [Int.mul_comm m] at e e2
  obtain ⟨y, hy⟩ : ∃ y, y = x / m * m := ⟨_, rfl⟩
  rw [← hy] at e e2 ⊢
  have hw : wrap64 y = y := by unfold wrap64; omega
  rw [hw, beq_iff_eq]
  omega

set_option maxRecDepth 10000 in
set_option maxHeartbeats 2000000 in
theorem addrBase_any (g : GT) (a : Option Addr) (n c : Nat) (w : World) : Calls Tryz.prog 131 #[gnv g a n c] w (SaysB ((0 ≤ g.addr ∧ g.addr ≤ 4294967295) ∧ (0 ≤ g.bits ∧ g.bits ≤ 32) ∧ g.addr % (2 : Int) ^ (32 - g.bits).toNat = 0) w) := by
  have hbl := below_box 96 w g a n c
  unfold gnv
  obtain ⟨P, hP⟩ : ∃ P, P = ((0 ≤ g.addr ∧ g.addr ≤ 4294967295) ∧ (0 ≤ g.bits ∧ g.bits ≤ 32) ∧ g.addr % (2 : Int) ^ (32 - g.bits).toNat = 0) := ⟨_, rfl⟩
  rw [← hP]
  have HP : Hid (P ↔ ((0 ≤ g.addr ∧ g.addr ≤ 4294967295) ∧ (0 ≤ g.bits ∧ g.bits ≤ 32) ∧ g.addr % (2 : Int) ^ (32 - g.bits).toNat = 0)) := by show P ↔ _; rw [hP]
  clear hP
  by_cases h1 : 0 ≤ g.addr ∧ g.addr ≤ 4294967295
  · have C1 := fun w => inB_t g.addr 0 4294967295 w h1
    by_cases h2 : 0 ≤ g.bits ∧ g.bits ≤ 32
    · have C2 := fun w => inB_t g.bits 0 32 w h2
      have C3 := fun w => highestBits_any g.addr g.bits w h2.1 h2.2
      have HI : Hid ((wrap64 (g.addr / (2 : Int) ^ (32 - g.bits).toNat * (2 : Int) ^ (32 - g.bits).toNat) == g.addr) = true ↔ P) := by
        show _ ↔ P
        rw [back_iff g.addr _ h1.1 h1.2, HP.out]
        exact ⟨fun q => ⟨h1, h2, q⟩, fun q => q.2.2⟩
      obtain ⟨h10, h11⟩ := h1
      obtain ⟨h20, h21⟩ := h2
      clear HP
      go_enter Tryz.func131, Tryz.ntmps131
      go_wp2_with fail
      go_quiet (first
        | (go_at_call_of 38 g.addr; refine Calls.quiet_of_same (C1 _))
        | (go_at_call_of 38 g.bits; refine Calls.quiet_of_same (C2 _))
        | (go_at_call 152; refine Calls.quiet_of_same (C3 _)))
      clear C1 C2 C3
      go_wp2
      go_ret
      exact ⟨_, rfl, HI, below_drewM hbl _⟩
    · have C2 := fun w => inB_f g.bits 0 32 w h2
      have HN : Hid (¬ P) := by show ¬ P; rw [HP.out]; exact fun q => h2 q.2.1
      clear HP h2 h1
      go_enter Tryz.func131, Tryz.ntmps131
      go_wp2_with fail
      go_quiet (first
        | (go_at_call_of 38 g.addr; refine Calls.quiet_of_same (C1 _))
        | (go_at_call_of 38 g.bits; refine Calls.quiet_of_same (C2 _)))
      clear C1 C2
      go_wp2
      go_ret
      exact saysB_f HN.out (below_drewM hbl _)
  · have C1 := fun w => inB_f g.addr 0 4294967295 w h1
    have HN : Hid (¬ P) := by show ¬ P; rw [HP.out]; exact fun q => h1 q.1
    clear HP h1
    go_enter Tryz.func131, Tryz.ntmps131
    go_wp2_with fail
    go_quiet ((go_at_call_of 38 g.addr; refine Calls.quiet_of_same (C1 _)))
    clear C1
    go_wp2
    go_ret
    exact saysB_f HN.out (below_drewM hbl _)

theorem host_nodot {s : ByteArray} {wild : Bool} (h : hostP s wild) : cAt s 0 ≠ 46 := by
  intro h0
  have hp := hostP_pos h
  obtain ⟨j, r, e, hj, hno, hr⟩ := cut_head s 46
  have hj0 : j = 0 := by
    rcases Nat.eq_zero_or_pos j with hz | hz
    · exact hz
    · exact absurd h0 (hno 0 hz)
  subst hj0
  have hsz : (s.extract 0 0).size = 0 := ext_sz s 0 0 (Nat.zero_le _)
  have h2 := h.2.2 0 (cutAt_len s 46).1
  rw [e] at h2
  have hg : (s.extract 0 0 :: r).getD 0 ByteArray.empty = s.extract 0 0 := rfl
  rcases h2 with ⟨_, _, h3, _⟩ | ⟨⟨h3, _⟩, _⟩
  · rw [hg] at h3
    have h4 : (s.extract 0 0).size = 1 := by rw [h3]; rfl
    omega
  · rw [hg] at h3
    omega
theorem pre_dot (s : ByteArray) : Lib.hasPrefix s.data.toList [46] = true ↔ 0 < s.size ∧ cAt s 0 = 46 := by
  unfold Lib.hasPrefix cAt
  rw [Lib.size_eq]
  rcases h : s.data.toList with _ | ⟨a, l⟩
  · simp
  · simp only [List.isPrefixOf, Bool.and_true, beq_iff_eq, List.length_cons, List.getD_cons_zero]
    constructor
    · intro h1
      subst h1
      exact ⟨by omega, rfl⟩
    · rintro ⟨_, h1⟩
      exact UInt8.toNat_inj.1 (by have : (46 : UInt8).toNat = 46 := rfl; omega)
theorem trim_dot (s : ByteArray) : (⟨(Lib.trimPrefix s.data.toList [46]).toArray⟩ : ByteArray) = if 0 < s.size ∧ cAt s 0 = 46 then s.extract 1 s.size else s := by
  unfold Lib.trimPrefix
  by_cases h : Lib.hasPrefix s.data.toList [46] = true
  · rw [if_pos h, if_pos ((pre_dot s).1 h), Lib.extract_eq, Lib.size_eq]
    congr 2
    rw [List.take_of_length_le (by rw [List.length_drop]; omega)]
    rfl
  · rw [if_neg h, if_neg (fun q => h ((pre_dot s).2 q)), Lib.mk_data]
theorem mbase_iff (s : ByteArray) : mbaseP s ↔ mailP s ∨ hostP ⟨(Lib.trimPrefix s.data.toList [46]).toArray⟩ false := by
  unfold mbaseP
  rw [trim_dot]
  by_cases h : 0 < s.size ∧ cAt s 0 = 46
  · rw [if_pos h]
    constructor
    · rintro (q | q | q)
      · exact .inl q
      · exact absurd h.2 (host_nodot q)
      · exact .inr q.2.2
    · rintro (q | q)
      · exact .inl q
      · exact .inr (.inr ⟨h.1, h.2, q⟩)
  · rw [if_neg h]
    constructor
    · rintro (q | q | q)
      · exact .inl q
      · exact .inr q
      · exact absurd ⟨q.1, q.2.1⟩ h
    · rintro (q | q)
      · exact .inl q
      · exact .inr (.inl q)

set_option maxRecDepth 10000 in
set_option maxHeartbeats 1000000 in
theorem mailBase_any (g : GT) (a : Option Addr) (n c : Nat) (w : World) (hm : MaxW w) (hs : g.text.size ≤ 1048576) : Calls Tryz.prog 127 #[gnv g a n c] w (SaysB (mbaseP g.text) w) := by
  have hbl := below_box 96 w g a n c
  have hbx := boxG_new 96 w g a n c
  have HM : Hid (MaxW w) := hm
  clear hm
  obtain ⟨P, hP⟩ : ∃ P, P = mbaseP g.text := ⟨_, rfl⟩
  rw [← hP]
  have HI : Hid (P ↔ mailP g.text ∨ hostP ⟨(Lib.trimPrefix g.text.data.toList [46]).toArray⟩ false) := by show P ↔ _; rw [hP]; exact mbase_iff _
  clear hP
  have MN := mailName_any g a n c _ (HM.out.kept hbl) hs
  unfold gnv at MN ⊢
  go_enter Tryz.func127, Tryz.ntmps127
  go_wp2_with fail
  refine MN.mono ?_
  rintro e w1 ⟨b, rfl, HV, hb1⟩
  have B1 := hbl.trans (hb1.mono hbl.size)
  clear MN
  cases b with
  | true =>
    have HN : Hid P := HI.out.2 (.inl (HV.out.1 rfl))
    clear HV HI
    go_wp2
    go_ret
    exact saysB_t HN.out B1
  | false =>
    obtain ⟨p0, p1, p2, p3, p4⟩ := (hbx.kept hb1).cells
    obtain ⟨y, hy⟩ : ∃ y : ByteArray, y = ⟨(Lib.trimPrefix g.text.data.toList [46]).toArray⟩ := ⟨_, rfl⟩
    rw [← hy] at HI
    have HI2 : Hid (P ↔ hostP y false) := ⟨fun q => (HI.out.1 q).resolve_left (fun h => Bool.false_ne_true (HV.out.2 h)), fun q => HI.out.2 (.inr q)⟩
    clear HI HV
    go_wp2_with fail
    refine (Tryz.strings_TrimPrefix g.text ⟨#[46]⟩ _).mono ?_
    rintro e w2 ⟨rfl, hw2⟩
    replace hw2 := hw2.symm
    subst hw2
    have hy2 : (⟨(Lib.trimPrefix g.text.data.toList (⟨#[46]⟩ : ByteArray).data.toList).toArray⟩ : ByteArray) = y := hy.symm
    rw [hy2]
    clear hy hy2
    go_wp2_with fail
    refine (implHostOk_any y false _ (HM.out.kept B1)).mono ?_
    rintro e w3 ⟨b2, rfl, HV2, hb3⟩
    have B3 := B1.trans (hb3.mono B1.size)
    go_wp2
    go_ret
    exact ⟨b2, rfl, HV2.out.trans HI2.out.symm, B3⟩

end Go.Proofs.YtkpabanjlhlmfaaGreatDoor
