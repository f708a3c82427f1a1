import Derived.Test.YtmmbfoncpjjonabDoorGW2
namespace Go.Proofs.YtmmbfoncpjjonabDoor
open Go.RowKit

set_option maxHeartbeats 1000000 in
theorem cutWild_any (s : ByteArray) (w : World) : Calls Tryd.prog 67 #[.string s] w fun e w' => e = .returned (.tuple #[.string ⟨(Lib.trimPrefix s.data.toList [42, 46]).toArray⟩, .bool (Lib.hasPrefix s.data.toList [42, 46])]) ∧ w = w' := by
  go_enter Tryd.func67, Tryd.ntmps67
  go_wp2_with fail
  refine (Tryd.strings_CutPrefix s ⟨#[42, 46]⟩ _).mono ?_
  rintro e w1 ⟨rfl, hw⟩
  replace hw := hw.symm
  subst hw
  go_wp2
  go_ret2
  exact ⟨rfl, rfl⟩

set_option maxRecDepth 10000 in
set_option maxHeartbeats 2000000 in
theorem hostWithin_any (g : GT) (a : Option Addr) (n c : Nat) (b : GT) (a2 : Option Addr) (n2 c2 : Nat) (w : World) (hs : g.text.size ≤ 1048576) (hs2 : b.text.size ≤ 1048576) (hh : hostP g.text true) :
    Calls Tryd.prog 46 #[gnv g a n c, gnv b a2 n2 c2] w (SaysB (relH g.text b.text) w) := by
  obtain ⟨P, hP⟩ : ∃ P, P = relH g.text b.text := ⟨_, rfl⟩
  rw [← hP]
  obtain ⟨W, hW, x1, x2, bW, sW⟩ := two_boxes 33 w g a n c b a2 n2 c2
  obtain ⟨p0, p1, p2, p3, p4⟩ := x1.cells
  obtain ⟨q0, q1, q2, q3, q4⟩ := x2.cells
  have hso : ¬ (9223372036854775807 < 1 + b.text.size) := by omega
  have hul := unstar_le g.text
  obtain ⟨u, hu⟩ : ∃ u, u = unstar g.text := ⟨_, rfl⟩
  obtain ⟨d, hd⟩ : ∃ d : ByteArray, d = (⟨#[46]⟩ ++ b.text : ByteArray) := ⟨_, rfl⟩
  have HI2 : Hid (P ↔ u = b.text ∨ endsP u d) := by show P ↔ _; rw [hP, hu, hd]; exact Iff.rfl
  have HT : Hid ((⟨(Lib.trimPrefix g.text.data.toList [42, 46]).toArray⟩ : ByteArray) = u) := by show _ = u; rw [hu]; exact unstar_trim hh
  rw [← hu] at hul
  have HD : Hid (d = (⟨#[46]⟩ ++ b.text : ByteArray)) := hd
  have hu9 : u.size ≤ 9223372036854775807 := by omega
  clear hP hu hd hh
  unfold gnv
  go_enter Tryd.func46, Tryd.ntmps46
  go_wp2_with fail
  rw [← hW]
  clear hW
  refine (cutWild_any g.text _).mono ?_
  rintro e w1 ⟨rfl, hw1⟩
  subst hw1
  rw [HT.out]
  obtain ⟨wl, hwl⟩ : ∃ wl, wl = Lib.hasPrefix g.text.data.toList [42, 46] := ⟨_, rfl⟩
  rw [← hwl]
  clear hwl HT
  by_cases heq : u = b.text
  · have HN : Hid P := HI2.out.2 (.inl heq)
    have z5 : (u.toList == b.text.toList) = true := (toList_same _ _).2 heq
    clear HI2 heq
    go_wp2
    go_ret
    exact saysB_t HN.out bW
  · have z5 : (u.toList == b.text.toList) = false := by rw [Bool.eq_false_iff]; exact fun q => heq ((toList_same _ _).1 q)
    have HI3 : Hid (P ↔ endsP u d) := ⟨fun q => (HI2.out.1 q).resolve_left heq, fun q => HI2.out.2 (.inr q)⟩
    clear HI2 heq
    go_wp2_with fail
    rw [← HD.out]
    refine (Tryd.strings_HasSuffix u d _ hu9).mono ?_
    rintro e w3 ⟨rfl, hw3⟩
    replace hw3 := hw3.symm
    subst hw3
    have HI4 : Hid (Lib.hasSuffix u.data.toList d.data.toList = true ↔ P) := (suffix_iff u d).trans HI3.out.symm
    obtain ⟨r, hr⟩ : ∃ r, r = Lib.hasSuffix u.data.toList d.data.toList := ⟨_, rfl⟩
    rw [← hr] at HI4 ⊢
    clear hr HI3
    go_wp2
    go_ret
    exact ⟨r, rfl, HI4, bW⟩

set_option maxRecDepth 10000 in
set_option maxHeartbeats 2000000 in
theorem addrWithin_any (g : GT) (a : Option Addr) (n c : Nat) (b : GT) (a2 : Option Addr) (n2 c2 : Nat) (w : World) (hb : 0 ≤ b.bits ∧ b.bits ≤ 32) :
    Calls Tryd.prog 53 #[gnv g a n c, gnv b a2 n2 c2] w (SaysB (relA g.addr b.addr b.bits) w) := by
  obtain ⟨P, hP⟩ : ∃ P, P = relA g.addr b.addr b.bits := ⟨_, rfl⟩
  rw [← hP]
  have bW : Below w.heap.size w ((w.alloc (.cells #[.int .i64 g.kind, .string g.text, .int .i64 g.addr, .int .i64 g.bits, .slice a n c] 33)).alloc (.cells #[.int .i64 b.kind, .string b.text, .int .i64 b.addr, .int .i64 b.bits, .slice a2 n2 c2] 33)) := ((Below.refl _ _).alloc (Nat.le_refl _) _).alloc (by simp) _
  have HI : Hid ((g.addr / (2 : Int) ^ (32 - b.bits).toNat == b.addr / (2 : Int) ^ (32 - b.bits).toNat) = true ↔ P) := by show _ ↔ P; rw [hP, beq_iff_eq]; exact Iff.rfl
  have C1 := fun w => highestBits_any g.addr b.bits w hb.1 hb.2
  have C2 := fun w => highestBits_any b.addr b.bits w hb.1 hb.2
  clear hP hb
  unfold gnv
  go_enter Tryd.func53, Tryd.ntmps53
  go_wp2_with fail
  go_quiet (first
    | (go_at_call_of 75 g.addr; refine Calls.quiet_of_same (C1 _))
    | (go_at_call_of 75 b.addr; refine Calls.quiet_of_same (C2 _)))
  clear C1 C2
  go_wp2
  go_ret
  exact ⟨_, rfl, HI, below_drewM bW _⟩

set_option maxRecDepth 10000 in
set_option maxHeartbeats 2000000 in
theorem partsWithin_any (g : GT) (a : Option Addr) (n c : Nat) (xs : List PT) (b : GT) (a2 : Option Addr) (n2 c2 : Nat) (ys : List PT) (w : World) (h : Pts w a n xs) (hz : ∀ k, k < n → (xs.getD k default).val.size ≤ 1048576) (h2 : Pts w a2 n2 ys) (hz2 : ∀ k, k < n2 → (ys.getD k default).val.size ≤ 1048576) :
    Calls Tryd.prog 57 #[gnv g a n c, gnv b a2 n2 c2] w (SaysB (underP xs ys) w) := by
  obtain ⟨W, hW, x1, x2, bW, sW⟩ := two_boxes 33 w g a n c b a2 n2 c2
  have IU := implUnder_any a n c xs a2 n2 c2 ys W (h.kept bW) (h2.kept bW) hz hz2
  clear h hz h2 hz2 x1 x2
  unfold gnv
  unfold nmv at IU
  go_enter Tryd.func57, Tryd.ntmps57
  go_wp2_with fail
  rw [← hW]
  clear hW
  refine IU.mono ?_
  rintro e w3 ⟨r3, rfl, HV3, hb3⟩
  have B3 : Below w.heap.size w w3 := bW.trans (hb3.mono bW.size)
  clear IU
  go_wp2
  go_ret
  exact ⟨r3, rfl, HV3, B3⟩

theorem contains_iff (s : ByteArray) (cb : UInt8) : Lib.contains s.data.toList [cb] = true ↔ ∃ j, j < s.size ∧ cAt s j = (cb.toNat : Int) := by
  unfold Lib.contains
  rw [decide_eq_true_eq]
  rcases index_one s cb s.size 0 (by omega) (fun j h => absurd h (Nat.not_lt_zero _)) with ⟨h1, _, h3⟩ | ⟨t, h1, h2, h3, _, _⟩
  · rw [h1]
    constructor
    · intro h; omega
    · rintro ⟨j, q1, q2⟩; exact absurd q2 (h3 j q1)
  · rw [h1]
    exact ⟨fun _ => ⟨t, h2, h3⟩, fun _ => by omega⟩

set_option maxRecDepth 10000 in
set_option maxHeartbeats 2000000 in
theorem mailWithin_any (g : GT) (a : Option Addr) (n c : Nat) (b : GT) (a2 : Option Addr) (n2 c2 : Nat) (w : World) (hm : MaxW w) (hs : g.text.size ≤ 1048576) (hs2 : b.text.size ≤ 1048576) (hg : mailP g.text) (hb : mbaseP b.text) :
    Calls Tryd.prog 49 #[gnv g a n c, gnv b a2 n2 c2] w (SaysB (relM g.text b.text) w) := by
  obtain ⟨P, hP⟩ : ∃ P, P = relM g.text b.text := ⟨_, rfl⟩
  rw [← hP]
  have HP : Hid (P = relM g.text b.text) := hP
  have HM : Hid (MaxW w) := hm
  have HG : Hid (mailP g.text) := hg
  have HB : Hid (mbaseP b.text) := hb
  obtain ⟨W, hW, x1, x2, bW, sW⟩ := two_boxes 33 w g a n c b a2 n2 c2
  obtain ⟨m, hmm⟩ := HM.out.kept bW
  obtain ⟨p0, p1, p2, p3, p4⟩ := x1.cells
  obtain ⟨q0, q1, q2, q3, q4⟩ := x2.cells
  have HMM : Hid (_) := hmm
  clear hP hm hg hb hmm
  unfold gnv
  go_enter Tryd.func49, Tryd.ntmps49
  go_wp2_with fail
  rw [← hW]
  clear hW
  refine (Tryd.strings_Contains b.text ⟨#[64]⟩ m _ (by omega) HMM.out).mono ?_
  rintro e w1 ⟨rfl, hw1⟩
  replace hw1 := hw1.symm
  subst hw1
  have HC : Hid (Lib.contains b.text.data.toList (⟨#[64]⟩ : ByteArray).data.toList = true ↔ ∃ j, j < b.text.size ∧ cAt b.text j = 64) := contains_iff b.text 64
  obtain ⟨r, hr⟩ : ∃ r, r = Lib.contains b.text.data.toList (⟨#[64]⟩ : ByteArray).data.toList := ⟨_, rfl⟩
  rw [← hr] at HC ⊢
  clear hr HMM
  cases r with
  | true =>
    have HI : Hid (P ↔ g.text = b.text) := by
      show P ↔ _
      obtain ⟨j, h1, h2⟩ := HC.out.1 rfl
      rw [HP.out]
      exact relM_at HG.out HB.out h1 h2
    clear HC HP HG HB HM
    by_cases heq : g.text = b.text
    · have HN : Hid P := HI.out.2 heq
      have z5 : (g.text.toList == b.text.toList) = true := (toList_same _ _).2 heq
      clear HI heq
      go_wp2
      go_ret
      exact saysB_t HN.out bW
    · have HN : Hid (¬ P) := fun q => heq (HI.out.1 q)
      have z5 : (g.text.toList == b.text.toList) = false := by rw [Bool.eq_false_iff]; exact fun q => heq ((toList_same _ _).1 q)
      clear HI heq
      go_wp2
      go_ret
      exact saysB_f HN.out bW
  | false =>
    have HNO : Hid (∀ j, j < b.text.size → cAt b.text j ≠ 64) := fun j h1 h2 => Bool.false_ne_true (HC.out.2 ⟨j, h1, h2⟩)
    have HI : Hid (P ↔ (cAt b.text 0 = 46 ∧ endsP (bh g.text 64) b.text) ∨ (cAt b.text 0 ≠ 46 ∧ bh g.text 64 = b.text)) := by
      show P ↔ _
      rw [HP.out]
      exact relM_no HG.out HNO.out
    have hbp := mbase_pos HB.out
    clear HC HP HB HNO
    go_wp2_with fail
    refine (cut_says g.text 64 _ hs (HM.out.kept bW)).mono ?_
    rintro e w3 ⟨x, y, ok, rfl, HR, hb3⟩
    have B3 : Below w.heap.size w w3 := bW.trans (hb3.mono bW.size)
    have hys : y.size ≤ g.text.size := by
      rcases HR.out with ⟨_, t, _, _, _, _, rfl⟩ | ⟨_, _, _, rfl⟩
      · exact ext_le _ _ _
      · exact Nat.zero_le _
    have HY : Hid (y = bh g.text 64) := by
      show y = _
      rcases index_one g.text 64 g.text.size 0 (by omega) (fun j h => absurd h (Nat.not_lt_zero _)) with ⟨_, _, h3⟩ | ⟨t, _, h2, h3, h4, h5⟩
      · obtain ⟨j, q1, q2⟩ := mail_has HG.out
        exact absurd q2 (h3 j q1)
      · rcases HR.out with ⟨_, t', g2, g3, g4, _, rfl⟩ | ⟨_, g2, _⟩
        · have ett : t' = t := by
            rcases Nat.lt_trichotomy t' t with q | q | q
            · exact absurd g3 (h4 t' q)
            · exact q
            · exact absurd h3 (g4 t q)
          subst ett
          exact h5.symm
        · exact absurd h3 (g2 t h2)
    rw [← HY.out] at HI
    clear HR HY HG HM p0 p1 p2 p3 p4 q0 q1 q2 q3 q4
    obtain ⟨p0, p1, p2, p3, p4⟩ := (x1.kept hb3).cells
    obtain ⟨q0, q1, q2, q3, q4⟩ := (x2.kept hb3).cells
    clear x1 x2
    go_wp2_with fail
    refine (Tryd.strings_HasPrefix b.text ⟨#[46]⟩ _).mono ?_
    rintro e w4 ⟨rfl, hw4⟩
    replace hw4 := hw4.symm
    subst hw4
    have HD : Hid (Lib.hasPrefix b.text.data.toList (⟨#[46]⟩ : ByteArray).data.toList = true ↔ 0 < b.text.size ∧ cAt b.text 0 = 46) := pre_dot b.text
    obtain ⟨r, hr⟩ : ∃ r, r = Lib.hasPrefix b.text.data.toList (⟨#[46]⟩ : ByteArray).data.toList := ⟨_, rfl⟩
    rw [← hr] at HD ⊢
    clear hr
    cases r with
    | true =>
      have HI3 : Hid (P ↔ endsP y b.text) := by
        show P ↔ _
        have h0 := (HD.out.1 rfl).2
        rw [HI.out]
        constructor
        · rintro (q | q)
          · exact q.2
          · exact absurd h0 q.1
        · exact fun q => .inl ⟨h0, q⟩
      clear HI HD
      go_wp2_with fail
      refine (Tryd.strings_HasSuffix y b.text _ (by omega)).mono ?_
      rintro e w5 ⟨rfl, hw5⟩
      replace hw5 := hw5.symm
      subst hw5
      have HI4 : Hid (Lib.hasSuffix y.data.toList b.text.data.toList = true ↔ P) := (suffix_iff y b.text).trans HI3.out.symm
      obtain ⟨r, hr⟩ : ∃ r, r = Lib.hasSuffix y.data.toList b.text.data.toList := ⟨_, rfl⟩
      rw [← hr] at HI4 ⊢
      clear hr HI3
      go_wp2
      go_ret
      exact ⟨r, rfl, HI4, B3⟩
    | false =>
      have HI3 : Hid (P ↔ y = b.text) := by
        show P ↔ _
        have h0 : cAt b.text 0 ≠ 46 := fun q => Bool.false_ne_true (HD.out.2 ⟨hbp, q⟩)
        rw [HI.out]
        constructor
        · rintro (q | q)
          · exact absurd q.1 h0
          · exact q.2
        · exact fun q => .inr ⟨h0, q⟩
      clear HI HD
      by_cases hyb : y = b.text
      · have HN : Hid P := HI3.out.2 hyb
        have z6 : (y.toList == b.text.toList) = true := (toList_same _ _).2 hyb
        clear HI3 hyb
        go_wp2
        go_ret
        exact saysB_t HN.out B3
      · have HN : Hid (¬ P) := fun q => hyb (HI3.out.1 q)
        have z6 : (y.toList == b.text.toList) = false := by rw [Bool.eq_false_iff]; exact fun q => hyb ((toList_same _ _).1 q)
        clear HI3 hyb
        go_wp2
        go_ret
        exact saysB_f HN.out B3

end Go.Proofs.YtmmbfoncpjjonabDoor
