import Derived.Test.YtkpabanjlhlmfaaGreatDoorGN10
import Derived.Test.YtkpabanjlhlmfaaGreatDoorN9
import Derived.Test.YtkpabanjlhlmfaaGreatDoorGN8
import Derived.Test.YtkpabanjlhlmfaaGreatDoorGN11
import Derived.Test.YtkpabanjlhlmfaaGreatDoorMCb
namespace Go.Proofs.YtkpabanjlhlmfaaGreatDoor
open Go.RowKit

def endsP (s e : ByteArray) : Prop := e.size ≤ s.size ∧ s.extract (s.size - e.size) s.size = e
theorem suffix_iff (s e : ByteArray) : Lib.hasSuffix s.data.toList e.data.toList = true ↔ endsP s e := by
  rw [← Lib.hasSuffix_raw]
  unfold endsP
  rw [Bool.and_eq_true, decide_eq_true_eq, toList_same]
def unstar (s : ByteArray) : ByteArray := if cAt s 0 = 42 then s.extract 2 s.size else s
def relH (t b : ByteArray) : Prop := unstar t = b ∨ endsP (unstar t) (⟨#[46]⟩ ++ b)
def relM (t b : ByteArray) : Prop := (cAt b 0 = 46 ∧ endsP (bh t 64) b) ∨ (cAt b 0 ≠ 46 ∧ (t = b ∨ bh t 64 = b))
def relA (x y k : Int) : Prop := x / (2 : Int) ^ (32 - k).toNat = y / (2 : Int) ^ (32 - k).toNat
def withinP (g : GT) (xs : List PT) (b : GT) (ys : List PT) : Prop := genP g xs ∧ baseP b ys ∧ g.kind = b.kind ∧
  ((g.kind = 1 ∧ relH g.text b.text) ∨ (g.kind = 2 ∧ relM g.text b.text) ∨ (g.kind = 3 ∧ relA g.addr b.addr b.bits) ∨ (g.kind = 4 ∧ underP xs ys))

theorem mail_bh {s x y : ByteArray} (h : cutAt s 64 = [x, y]) : y = bh s 64 ∧ ∃ t, t < s.size ∧ cAt s t = 64 ∧ x = s.extract 0 t := by
  rcases index_one s 64 s.size 0 (by omega) (fun j h => absurd h (Nat.not_lt_zero _)) with ⟨_, _, h3⟩ | ⟨t, _, h2, h3, h4, h5⟩
  · have h3' : ∀ j, j < s.size → cAt s j ≠ 64 := h3
    rw [cut_none h3'] at h
    cases h
  · have h3' : cAt s t = 64 := h3
    rw [cut_hit h2 h3' h4] at h
    have e1 := (List.cons.inj h).1
    have e2 := (List.cons.inj h).2
    obtain ⟨j, r, e3, _, _, _, h7⟩ := pcs_head s 64 (s.size - (t + 1)) (t + 1) (t + 1) (by omega) (Nat.le_refl _)
    rw [e3] at e2
    have e4 := (List.cons.inj e2).1
    have e5 := (List.cons.inj e2).2
    rcases h7 with ⟨_, h8⟩ | ⟨h8, _⟩
    · refine ⟨?_, t, h2, h3', e1.symm⟩
      rw [h8] at e4
      exact e4.symm.trans (h5.symm)
    · exact absurd e5 h8
theorem mail_host {s : ByteArray} (h : mailP s) : hostP (bh s 64) false := by
  obtain ⟨a, b, e, _, h2⟩ := h
  rw [← (mail_bh e).1]
  exact h2
theorem mail_has {s : ByteArray} (h : mailP s) : ∃ t, t < s.size ∧ cAt s t = 64 := by
  obtain ⟨a, b, e, _, _⟩ := h
  obtain ⟨_, t, h1, h2, _⟩ := mail_bh e
  exact ⟨t, h1, h2⟩
theorem mail_first {s : ByteArray} (h : mailP s) : 0 < s.size ∧ cAt s 0 ≠ 46 := by
  obtain ⟨a, b, e, h1, _⟩ := h
  obtain ⟨_, t, h2, h3, h4⟩ := mail_bh e
  have hs := h1.1.1
  rw [h4, ext_sz s 0 t (by omega)] at hs
  refine ⟨by omega, ?_⟩
  have h5 := h1.2 0 (Nat.lt_of_lt_of_le (Nat.zero_lt_one) h1.1.1)
  rw [h4, ext_cAt s 0 t 0 (by omega)] at h5
  intro q
  rw [show (0 : Nat) + 0 = 0 from rfl, q] at h5
  rcases h5 with h5 | h5 <;> omega
theorem mbase_pos {s : ByteArray} (h : mbaseP s) : 0 < s.size := by
  rcases h with h | h | h
  · exact (mail_first h).1
  · exact hostP_pos h
  · exact h.1
theorem mbase_at {s : ByteArray} (h : mbaseP s) {j : Nat} (hj : j < s.size) (hc : cAt s j = 64) : mailP s := by
  rcases h with h | h | ⟨h0, h1, h2⟩
  · exact h
  · exact absurd hc (host_no64 h j hj)
  · rcases Nat.eq_zero_or_pos j with e | e
    · subst e; rw [h1] at hc; omega
    · have h3 := host_no64 h2 (j - 1) (by rw [ext_sz s 1 s.size (Nat.le_refl _)]; omega)
      rw [ext_cAt s 1 s.size (j - 1) (by omega), show 1 + (j - 1) = j by omega] at h3
      exact absurd hc h3
/-- What the program asks of a mail address and a base. -/
theorem relM_at {t b : ByteArray} (ht : mailP t) (hb : mbaseP b) {j : Nat} (hj : j < b.size) (hc : cAt b j = 64) : relM t b ↔ t = b := by
  have hm := mbase_at hb hj hc
  have h0 := (mail_first hm).2
  unfold relM
  constructor
  · rintro (⟨h, _⟩ | ⟨_, h | h⟩)
    · exact absurd h h0
    · exact h
    · have h3 := host_no64 (mail_host ht) j (by rw [h]; exact hj)
      rw [h] at h3
      exact absurd hc h3
  · exact fun h => .inr ⟨h0, .inl h⟩
theorem relM_no {t b : ByteArray} (ht : mailP t) (hb : ∀ j, j < b.size → cAt b j ≠ 64) : relM t b ↔ (cAt b 0 = 46 ∧ endsP (bh t 64) b) ∨ (cAt b 0 ≠ 46 ∧ bh t 64 = b) := by
  unfold relM
  constructor
  · rintro (h | ⟨h0, h | h⟩)
    · exact .inl h
    · obtain ⟨j, h1, h2⟩ := mail_has ht
      rw [h] at h1 h2
      exact absurd h2 (hb j h1)
    · exact .inr ⟨h0, h⟩
  · rintro (h | ⟨h0, h⟩)
    · exact .inl h
    · exact .inr ⟨h0, .inr h⟩
theorem unstar_trim {s : ByteArray} (h : hostP s true) : (⟨(Lib.trimPrefix s.data.toList [42, 46]).toArray⟩ : ByteArray) = unstar s := by
  unfold unstar
  by_cases h0 : cAt s 0 = 42
  · obtain ⟨h1, h2⟩ := hostP_star h h0
    rw [if_pos h0]
    exact trim_star ((pre_star s).2 ⟨h1, h0, h2⟩)
  · rw [if_neg h0]
    unfold Lib.trimPrefix
    rw [if_neg (fun q => h0 ((pre_star s).1 q).2.1), Lib.mk_data]
theorem unstar_le (s : ByteArray) : (unstar s).size ≤ s.size := by
  unfold unstar
  split
  · exact ext_le _ _ _
  · exact Nat.le_refl _

set_option maxRecDepth 10000 in
set_option maxHeartbeats 1000000 in
theorem l6Ends_any (s e : ByteArray) (w : World) (hs : s.size ≤ 1048578) (he : e.size ≤ 1048578) : Calls Tryz.prog 120 #[.string s, .string e] w (SaysW (endsP s e) w) := by
  obtain ⟨P, hP⟩ : ∃ P, P = endsP s e := ⟨_, rfl⟩
  rw [← hP]
  have HP : Hid (P ↔ e.size ≤ s.size ∧ s.extract (s.size - e.size) s.size = e) := by show P ↔ _; rw [hP]; exact Iff.rfl
  clear hP
  by_cases h1 : e.size ≤ s.size
  · have z1 : decide ((e.size : Int) ≤ (s.size : Int)) = true := decide_eq_true (by omega)
    obtain ⟨d, hd⟩ : ∃ d : Nat, d = s.size - e.size := ⟨_, rfl⟩
    rw [← hd] at HP
    have hdd : (s.size : Int) - (e.size : Int) = (d : Int) := by omega
    have hdl : d ≤ s.size := by omega
    by_cases h2 : s.extract d s.size = e
    · have HN : Hid P := HP.out.2 ⟨h1, h2⟩
      have z2 : ((s.extract d s.size).toList == e.toList) = true := (toList_same _ _).2 h2
      clear HP h2 hd
      go_enter Tryz.func120, Tryz.ntmps120
      go_wp2
      go_ret
      exact saysW_t HN.out
    · have HN : Hid (¬ P) := fun q => h2 (HP.out.1 q).2
      have z2 : ((s.extract d s.size).toList == e.toList) = false := by rw [Bool.eq_false_iff]; exact fun q => h2 ((toList_same _ _).1 q)
      clear HP h2 hd
      go_enter Tryz.func120, Tryz.ntmps120
      go_wp2
      go_ret
      exact saysW_f HN.out
  · have z1 : decide ((e.size : Int) ≤ (s.size : Int)) = false := decide_eq_false (by omega)
    have HN : Hid (¬ P) := fun q => h1 (HP.out.1 q).1
    clear HP
    go_enter Tryz.func120, Tryz.ntmps120
    go_wp2
    go_ret
    exact saysW_f HN.out

end Go.Proofs.YtkpabanjlhlmfaaGreatDoor

namespace Go.Proofs.YtkpabanjlhlmfaaGreatDoor
open Go.RowKit

/-- Two general names, boxed one behind the other. -/
theorem two_boxes (t : Nat) (w : World) (g : GT) (a : Option Addr) (n c : Nat) (g2 : GT) (a2 : Option Addr) (n2 c2 : Nat) : ∃ W, W = ((w.alloc (.cells #[.int .i64 g.kind, .string g.text, .int .i64 g.addr, .int .i64 g.bits, .slice a n c] t)).alloc (.cells #[.int .i64 g2.kind, .string g2.text, .int .i64 g2.addr, .int .i64 g2.bits, .slice a2 n2 c2] t)) ∧ BoxG t w.heap.size W g a n c ∧ BoxG t (w.heap.size + 1) W g2 a2 n2 c2 ∧ Below w.heap.size w W ∧ W.heap.size = w.heap.size + 2 := by
  refine ⟨_, rfl, ?_, ?_, ((Below.refl _ _).alloc (Nat.le_refl _) _).alloc (by simp) _, by simp⟩
  · exact (boxG_new t w g a n c).kept ((Below.refl _ _).alloc (Nat.le_refl _) _)
  · have := boxG_new t (w.alloc (.cells #[.int .i64 g.kind, .string g.text, .int .i64 g.addr, .int .i64 g.bits, .slice a n c] t)) g2 a2 n2 c2
    simpa using this

theorem withinP_1 {g b : GT} {xs ys : List PT} (h1 : genP g xs) (h2 : baseP b ys) (h3 : g.kind = b.kind) (hk : g.kind = 1) : withinP g xs b ys ↔ relH g.text b.text := by
  unfold withinP
  constructor
  · rintro ⟨_, _, _, (⟨_, h⟩ | ⟨h, _⟩ | ⟨h, _⟩ | ⟨h, _⟩)⟩
    · exact h
    all_goals omega
  · exact fun h => ⟨h1, h2, h3, .inl ⟨hk, h⟩⟩
theorem withinP_2 {g b : GT} {xs ys : List PT} (h1 : genP g xs) (h2 : baseP b ys) (h3 : g.kind = b.kind) (hk : g.kind = 2) : withinP g xs b ys ↔ relM g.text b.text := by
  unfold withinP
  constructor
  · rintro ⟨_, _, _, (⟨h, _⟩ | ⟨_, h⟩ | ⟨h, _⟩ | ⟨h, _⟩)⟩
    · omega
    · exact h
    all_goals omega
  · exact fun h => ⟨h1, h2, h3, .inr (.inl ⟨hk, h⟩)⟩
theorem withinP_3 {g b : GT} {xs ys : List PT} (h1 : genP g xs) (h2 : baseP b ys) (h3 : g.kind = b.kind) (hk : g.kind = 3) : withinP g xs b ys ↔ relA g.addr b.addr b.bits := by
  unfold withinP
  constructor
  · rintro ⟨_, _, _, (⟨h, _⟩ | ⟨h, _⟩ | ⟨_, h⟩ | ⟨h, _⟩)⟩
    · omega
    · omega
    · exact h
    · omega
  · exact fun h => ⟨h1, h2, h3, .inr (.inr (.inl ⟨hk, h⟩))⟩
theorem withinP_4 {g b : GT} {xs ys : List PT} (h1 : genP g xs) (h2 : baseP b ys) (h3 : g.kind = b.kind) (hk : g.kind = 4) : withinP g xs b ys ↔ underP xs ys := by
  unfold withinP
  constructor
  · rintro ⟨_, _, _, (⟨h, _⟩ | ⟨h, _⟩ | ⟨h, _⟩ | ⟨_, h⟩)⟩
    · omega
    · omega
    · omega
    · exact h
  · exact fun h => ⟨h1, h2, h3, .inr (.inr (.inr ⟨hk, h⟩))⟩
theorem gen_host {g : GT} {xs : List PT} (h : genP g xs) (hk : g.kind = 1) : hostP g.text true := by
  rcases h with ⟨_, _, h⟩ | ⟨h, _⟩ | ⟨h, _⟩ | ⟨h, _⟩
  · exact h
  all_goals omega
theorem gen_mail {g : GT} {xs : List PT} (h : genP g xs) (hk : g.kind = 2) : mailP g.text := by
  rcases h with ⟨h, _⟩ | ⟨_, _, h⟩ | ⟨h, _⟩ | ⟨h, _⟩
  · omega
  · exact h
  all_goals omega
theorem base_mail {g : GT} {xs : List PT} (h : baseP g xs) (hk : g.kind = 2) : mbaseP g.text := by
  rcases h with ⟨h, _⟩ | ⟨_, _, h⟩ | ⟨h, _⟩ | ⟨h, _⟩
  · omega
  · exact h
  all_goals omega
theorem base_bits {g : GT} {xs : List PT} (h : baseP g xs) (hk : g.kind = 3) : 0 ≤ g.bits ∧ g.bits ≤ 32 := by
  rcases h with ⟨h, _⟩ | ⟨h, _⟩ | ⟨_, _, _, h, _⟩ | ⟨h, _⟩
  · omega
  · omega
  · exact h
  · omega

set_option maxRecDepth 10000 in
set_option maxHeartbeats 8000000 in
theorem specWithin_any (g : GT) (a : Option Addr) (n c : Nat) (xs : List PT) (b : GT) (a2 : Option Addr) (n2 c2 : Nat) (ys : List PT) (w : World) (h : Pts w a n xs) (hz : ∀ k, k < n → (xs.getD k default).val.size ≤ 1048576) (hs : g.text.size ≤ 1048576) (h2 : Pts w a2 n2 ys) (hz2 : ∀ k, k < n2 → (ys.getD k default).val.size ≤ 1048576) (hs2 : b.text.size ≤ 1048576) :
    Calls Tryz.prog 99 #[gnv g a n c, gnv b a2 n2 c2] w (SaysB (withinP g xs b ys) w) := by
  obtain ⟨P, hP⟩ : ∃ P, P = withinP g xs b ys := ⟨_, rfl⟩
  rw [← hP]
  have HP : Hid (P = withinP g xs b ys) := hP
  have HK : Hid (Pts w a n xs) := h
  have HZ : Hid (_) := hz
  have HK2 : Hid (Pts w a2 n2 ys) := h2
  have HZ2 : Hid (_) := hz2
  clear hP h hz h2 hz2
  obtain ⟨W, hW, x1, x2, bW, sW⟩ := two_boxes 96 w g a n c b a2 n2 c2
  have SG := specGenOk_any g a n c xs W (HK.out.kept bW) HZ.out hs
  have SB := fun (w1 : World) (hb : Below w.heap.size w w1) => specBaseOk_any b a2 n2 c2 ys w1 (HK2.out.kept hb) HZ2.out hs2
  unfold gnv at SG SB ⊢
  go_enter Tryz.func99, Tryz.ntmps99
  go_wp2_with fail
  rw [← hW]
  clear hW
  refine SG.mono ?_
  rintro e w1 ⟨r1, rfl, HV1, hb1⟩
  have B1 : Below w.heap.size w w1 := bW.trans (hb1.mono bW.size)
  have X1 : Hid (_) := x1.kept hb1
  have X2 : Hid (_) := x2.kept hb1
  clear SG x1 x2 bW
  cases r1 with
  | false =>
    have HN : Hid (¬ P) := by show ¬ P; rw [HP.out]; exact fun q => Bool.false_ne_true (HV1.out.2 q.1)
    clear HP HV1 SB HK HZ HK2 HZ2 X1 X2
    go_wp2
    go_ret
    exact saysB_f HN.out B1
  | true =>
    have HG : Hid (genP g xs) := HV1.out.1 rfl
    clear HV1
    obtain ⟨q0, q1, q2, q3, q4⟩ := X2.out.cells
    go_wp2_with fail
    refine (SB _ B1).mono ?_
    rintro e w2 ⟨r2, rfl, HV2, hb2⟩
    have B2 : Below w.heap.size w w2 := B1.trans (hb2.mono B1.size)
    have Y1 : Hid (_) := X1.out.kept hb2
    have Y2 : Hid (_) := X2.out.kept hb2
    clear SB X1 X2 B1 q0 q1 q2 q3 q4
    cases r2 with
    | false =>
      have HN : Hid (¬ P) := by show ¬ P; rw [HP.out]; exact fun q => Bool.false_ne_true (HV2.out.2 q.2.1)
      clear HP HV2 HK HZ HK2 HZ2 Y1 Y2
      go_wp2
      go_ret
      exact saysB_f HN.out B2
    | true =>
      have HB : Hid (baseP b ys) := HV2.out.1 rfl
      clear HV2
      obtain ⟨p0, p1, p2, p3, p4⟩ := Y1.out.cells
      obtain ⟨q0, q1, q2, q3, q4⟩ := Y2.out.cells
      have hlt : w.heap.size + 1 < w2.heap.size := Nat.lt_of_lt_of_le (by omega) (Nat.le_trans hb1.size hb2.size)
      by_cases hkk : g.kind = b.kind
      · have zk : (g.kind != b.kind) = false := by simp [hkk]
        by_cases k1 : g.kind = 1
        · have HI : Hid (P ↔ relH g.text b.text) := by show P ↔ _; rw [HP.out]; exact withinP_1 HG.out HB.out hkk k1
          have hh := gen_host HG.out k1
          have hp := hostP_pos hh
          have HST : Hid (cAt g.text 0 = 42 → 2 ≤ g.text.size ∧ cAt g.text 1 = 46) := hostP_star hh
          have hx := cAt_get g.text 0 hp
          have e1 : (g.kind == 1) = true := beq_iff_eq.2 k1
          have hso : ¬ (9223372036854775807 < 1 + b.text.size) := by omega
          have hul := unstar_le g.text
          obtain ⟨u, hu⟩ : ∃ u, u = unstar g.text := ⟨_, rfl⟩
          obtain ⟨d, hd⟩ : ∃ d : ByteArray, d = (⟨#[46]⟩ ++ b.text : ByteArray) := ⟨_, rfl⟩
          have HI2 : Hid (P ↔ u = b.text ∨ endsP u d) := by show P ↔ _; rw [HI.out, hu, hd]; exact Iff.rfl
          rw [← hu] at hul
          have hsz : d.size = 1 + b.text.size := by rw [hd, ByteArray.size_append]; rfl
          have hd1 : d.size ≤ 1048578 := by omega
          have hu1 : u.size ≤ 1048578 := by omega
          have FIN : ∀ (w2' : World), Calls Tryz.prog 120 #[.string u, .string d] w2' (SaysW (endsP u d) w2') := fun w2' => l6Ends_any u d w2' hu1 hd1
          have HD : Hid (d = (⟨#[46]⟩ ++ b.text : ByteArray)) := hd
          clear hd hd1 hu1
          clear HP HK HZ HK2 HZ2 Y1 Y2 HG HB hkk k1 hh HI hsz
          by_cases hc : (g.text[0].toNat : Int) = 42
          · have zc : ((g.text[0].toNat : Int) == 42) = true := beq_iff_eq.2 hc
            have h22 := (HST.out (hx.trans hc)).1
            have hu2 : g.text.extract 2 g.text.size = u := by rw [hu]; unfold unstar; rw [if_pos (hx.trans hc)]
            clear hu hc hx HST
            by_cases heq : u = b.text
            · have HN : Hid P := HI2.out.2 (.inl heq)
              have z5 : (u.toList == b.text.toList) = true := (toList_same _ _).2 heq
              clear HI2 heq FIN
              go_wp2
              go_ret
              exact saysB_t HN.out B2
            · have z5 : (u.toList == b.text.toList) = false := by rw [Bool.eq_false_iff]; exact fun q => heq ((toList_same _ _).1 q)
              have HI3 : Hid (P ↔ endsP u d) := ⟨fun q => (HI2.out.1 q).resolve_left heq, fun q => HI2.out.2 (.inr q)⟩
              clear HI2 heq
              go_wp2_with fail
              rw [← HD.out]
              refine (FIN _).mono ?_
              rintro e w3 ⟨r3, rfl, HV3, hw3⟩
              subst hw3
              clear FIN
              cases r3 with
              | true =>
                have HN : Hid P := HI3.out.2 (HV3.out.1 rfl)
                clear HV3 HI3
                go_wp2
                go_ret
                exact saysB_t HN.out B2
              | false =>
                have HN : Hid (¬ P) := fun q => Bool.false_ne_true (HV3.out.2 (HI3.out.1 q))
                clear HV3 HI3
                go_wp2
                go_ret
                exact saysB_f HN.out B2
          · have zc : ((g.text[0].toNat : Int) == 42) = false := beq_false_of_ne hc
            have hu2 : g.text = u := by rw [hu]; unfold unstar; rw [if_neg (fun q => hc (hx.symm.trans q))]
            clear hu hc hx HST
            by_cases heq : u = b.text
            · have HN : Hid P := HI2.out.2 (.inl heq)
              have z5 : (g.text.toList == b.text.toList) = true := by rw [hu2]; exact (toList_same _ _).2 heq
              clear HI2 heq FIN hu2
              go_wp2
              go_ret
              exact saysB_t HN.out B2
            · have z5 : (g.text.toList == b.text.toList) = false := by rw [hu2, Bool.eq_false_iff]; exact fun q => heq ((toList_same _ _).1 q)
              have HI3 : Hid (P ↔ endsP u d) := ⟨fun q => (HI2.out.1 q).resolve_left heq, fun q => HI2.out.2 (.inr q)⟩
              rw [← hu2] at FIN HI3
              clear HI2 heq hu2
              go_wp2_with fail
              rw [← HD.out]
              refine (FIN _).mono ?_
              rintro e w3 ⟨r3, rfl, HV3, hw3⟩
              subst hw3
              clear FIN
              cases r3 with
              | true =>
                have HN : Hid P := HI3.out.2 (HV3.out.1 rfl)
                clear HV3 HI3
                go_wp2
                go_ret
                exact saysB_t HN.out B2
              | false =>
                have HN : Hid (¬ P) := fun q => Bool.false_ne_true (HV3.out.2 (HI3.out.1 q))
                clear HV3 HI3
                go_wp2
                go_ret
                exact saysB_f HN.out B2
        have e1 : (g.kind == 1) = false := beq_false_of_ne k1
        by_cases k2 : g.kind = 2
        · have HI : Hid (P ↔ relM g.text b.text) := by show P ↔ _; rw [HP.out]; exact withinP_2 HG.out HB.out hkk k2
          have hm := gen_mail HG.out k2
          have hbm := base_mail HB.out (hkk.symm.trans k2)
          have hbp := mbase_pos hbm
          have hx := cAt_get b.text 0 hbp
          have e2 : (g.kind == 2) = true := beq_iff_eq.2 k2
          have HM : Hid (mailP g.text) := hm
          clear HP HK HZ HK2 HZ2 HG HB hkk k1 k2 hm hbm
          go_wp2_with fail
          refine (l6Mail_any g.text _ hs).mono ?_
          rintro e w3 ⟨x, y, ok, rfl, HR, hxs, hys, hb3⟩
          have B3 : Below w.heap.size w w3 := B2.trans (hb3.mono B2.size)
          obtain rfl : ok = true := by
            cases ok with
            | true => rfl
            | false => exact absurd HM.out (mailR_f HR.out)
          have HY : Hid (y = bh g.text 64) := by
            show y = _
            rcases HR.out with ⟨_, q⟩ | ⟨q, _⟩
            · exact (mail_bh q).1
            · cases q
          have HI2 : Hid (P ↔ (cAt b.text 0 = 46 ∧ endsP y b.text) ∨ (cAt b.text 0 ≠ 46 ∧ (g.text = b.text ∨ y = b.text))) := by show P ↔ _; rw [HI.out, HY.out]; exact Iff.rfl
          clear HR HI HM p0 p1 p2 p3 p4 q0 q1 q2 q3 q4 HY
          obtain ⟨p0, p1, p2, p3, p4⟩ := (Y1.out.kept hb3).cells
          obtain ⟨q0, q1, q2, q3, q4⟩ := (Y2.out.kept hb3).cells
          clear Y1 Y2
          by_cases hd : (b.text[0].toNat : Int) = 46
          · have zd : ((b.text[0].toNat : Int) == 46) = true := beq_iff_eq.2 hd
            have HI3 : Hid (P ↔ endsP y b.text) := by
              show P ↔ _
              rw [HI2.out]
              constructor
              · rintro (q | q)
                · exact q.2
                · exact absurd (hx.trans hd) q.1
              · exact fun q => .inl ⟨hx.trans hd, q⟩
            clear HI2 hx hd
            go_wp2_with fail
            refine (l6Ends_any y b.text _ (by omega) (by omega)).mono ?_
            rintro e w4 ⟨r4, rfl, HV4, hw4⟩
            subst hw4
            go_wp2
            go_ret
            exact ⟨r4, rfl, HV4.out.trans HI3.out.symm, B3⟩
          · have zd : ((b.text[0].toNat : Int) == 46) = false := beq_false_of_ne hd
            have HI3 : Hid (P ↔ (g.text = b.text ∨ y = b.text)) := by
              show P ↔ _
              rw [HI2.out]
              constructor
              · rintro (q | q)
                · exact absurd (hx.symm.trans q.1) hd
                · exact q.2
              · exact fun q => .inr ⟨fun r => hd (hx.symm.trans r), q⟩
            clear HI2 hx hd
            by_cases heq : g.text = b.text
            · have HN : Hid P := HI3.out.2 (.inl heq)
              have z5 : (g.text.toList == b.text.toList) = true := (toList_same _ _).2 heq
              clear HI3 heq
              go_wp2
              go_ret
              exact saysB_t HN.out B3
            · have z5 : (g.text.toList == b.text.toList) = false := by rw [Bool.eq_false_iff]; exact fun q => heq ((toList_same _ _).1 q)
              by_cases hyb : y = b.text
              · have HN : Hid P := HI3.out.2 (.inr hyb)
                have z6 : (y.toList == b.text.toList) = true := (toList_same _ _).2 hyb
                clear HI3 heq hyb
                go_wp2
                go_ret
                exact saysB_t HN.out B3
              · have HN : Hid (¬ P) := fun q => by rcases HI3.out.1 q with q | q; exact heq q; exact hyb q
                have z6 : (y.toList == b.text.toList) = false := by rw [Bool.eq_false_iff]; exact fun q => hyb ((toList_same _ _).1 q)
                clear HI3 heq hyb
                go_wp2
                go_ret
                exact saysB_f HN.out B3
        have e2 : (g.kind == 2) = false := beq_false_of_ne k2
        by_cases k3 : g.kind = 3
        · have HI : Hid (P ↔ relA g.addr b.addr b.bits) := by show P ↔ _; rw [HP.out]; exact withinP_3 HG.out HB.out hkk k3
          obtain ⟨hb0, hb1'⟩ := base_bits HB.out (hkk.symm.trans k3)
          have e3 : (g.kind == 3) = true := beq_iff_eq.2 k3
          clear HP HK HZ HK2 HZ2 HG HB hkk k1 k2 k3 Y1 Y2
          by_cases hr : g.addr / (2 : Int) ^ (32 - b.bits).toNat = b.addr / (2 : Int) ^ (32 - b.bits).toNat
          · have HN : Hid P := HI.out.2 hr
            have z6 : (g.addr / (2 : Int) ^ (32 - b.bits).toNat == b.addr / (2 : Int) ^ (32 - b.bits).toNat) = true := beq_iff_eq.2 hr
            clear HI hr
            go_wp2
            go_ret
            exact saysB_t HN.out B2
          · have HN : Hid (¬ P) := fun q => hr (HI.out.1 q)
            have z6 : (g.addr / (2 : Int) ^ (32 - b.bits).toNat == b.addr / (2 : Int) ^ (32 - b.bits).toNat) = false := beq_false_of_ne hr
            clear HI hr
            go_wp2
            go_ret
            exact saysB_f HN.out B2
        have e3 : (g.kind == 3) = false := beq_false_of_ne k3
        have k4 : g.kind = 4 := by rcases genP_kind HG.out with q | q | q | q <;> omega
        have HI : Hid (P ↔ underP xs ys) := by show P ↔ _; rw [HP.out]; exact withinP_4 HG.out HB.out hkk k4
        have SU := specUnder_any a n c xs a2 n2 c2 ys w2 (HK.out.kept B2) (HK2.out.kept B2) HZ.out HZ2.out
        unfold nmv at SU
        clear HP HK HZ HK2 HZ2 HG HB hkk k1 k2 k3 k4 Y1 Y2
        go_wp2_with fail
        refine SU.mono ?_
        rintro e w3 ⟨r3, rfl, HV3, hb3⟩
        have B3 : Below w.heap.size w w3 := B2.trans (hb3.mono B2.size)
        clear SU
        go_wp2
        go_ret
        exact ⟨r3, rfl, HV3.out.trans HI.out.symm, B3⟩
      · have zk : (g.kind != b.kind) = true := bne_iff_ne.2 hkk
        have HN : Hid (¬ P) := by show ¬ P; rw [HP.out]; exact fun q => hkk q.2.2.1
        clear HP HK HZ HK2 HZ2 Y1 Y2 HG HB hkk
        go_wp2
        go_ret
        exact saysB_f HN.out B2

end Go.Proofs.YtkpabanjlhlmfaaGreatDoor

namespace Go.Proofs.YtkpabanjlhlmfaaGreatDoor
open Go.RowKit

set_option maxRecDepth 10000 in
set_option maxHeartbeats 1000000 in
theorem cutWild_any (s : ByteArray) (w : World) : Calls Tryz.prog 144 #[.string s] w fun e w' => e = .returned (.tuple #[.string ⟨(Lib.trimPrefix s.data.toList [42, 46]).toArray⟩, .bool (Lib.hasPrefix s.data.toList [42, 46])]) ∧ w = w' := by
  go_enter Tryz.func144, Tryz.ntmps144
  go_wp2_with fail
  refine (Tryz.strings_CutPrefix s ⟨#[42, 46]⟩ _).mono ?_
  rintro e w1 ⟨rfl, hw⟩
  replace hw := hw.symm
  subst hw
  go_wp2
  go_ret2
  exact ⟨rfl, rfl⟩

set_option maxRecDepth 10000 in
set_option maxHeartbeats 2000000 in
theorem hostWithin_any (g : GT) (a : Option Addr) (n c : Nat) (b : GT) (a2 : Option Addr) (n2 c2 : Nat) (w : World) (hs : g.text.size ≤ 1048576) (hs2 : b.text.size ≤ 1048576) (hh : hostP g.text true) :
    Calls Tryz.prog 125 #[gnv g a n c, gnv b a2 n2 c2] w (SaysB (relH g.text b.text) w) := by
  obtain ⟨P, hP⟩ : ∃ P, P = relH g.text b.text := ⟨_, rfl⟩
  rw [← hP]
  obtain ⟨W, hW, x1, x2, bW, sW⟩ := two_boxes 96 w g a n c b a2 n2 c2
  obtain ⟨p0, p1, p2, p3, p4⟩ := x1.cells
  obtain ⟨q0, q1, q2, q3, q4⟩ := x2.cells
  have hso : ¬ (9223372036854775807 < 1 + b.text.size) := by omega
  have hul := unstar_le g.text
  obtain ⟨u, hu⟩ : ∃ u, u = unstar g.text := ⟨_, rfl⟩
  obtain ⟨d, hd⟩ : ∃ d : ByteArray, d = (⟨#[46]⟩ ++ b.text : ByteArray) := ⟨_, rfl⟩
  have HI2 : Hid (P ↔ u = b.text ∨ endsP u d) := by show P ↔ _; rw [hP, hu, hd]; exact Iff.rfl
  have HT : Hid ((⟨(Lib.trimPrefix g.text.data.toList [42, 46]).toArray⟩ : ByteArray) = u) := by show _ = u; rw [hu]; exact unstar_trim hh
  rw [← hu] at hul
  have HD : Hid (d = (⟨#[46]⟩ ++ b.text : ByteArray)) := hd
  have hu9 : u.size ≤ 9223372036854775807 := by omega
  clear hP hu hd hh
  unfold gnv
  go_enter Tryz.func125, Tryz.ntmps125
  go_wp2_with fail
  rw [← hW]
  clear hW
  refine (cutWild_any g.text _).mono ?_
  rintro e w1 ⟨rfl, hw1⟩
  subst hw1
  rw [HT.out]
  obtain ⟨wl, hwl⟩ : ∃ wl, wl = Lib.hasPrefix g.text.data.toList [42, 46] := ⟨_, rfl⟩
  rw [← hwl]
  clear hwl HT
  by_cases heq : u = b.text
  · have HN : Hid P := HI2.out.2 (.inl heq)
    have z5 : (u.toList == b.text.toList) = true := (toList_same _ _).2 heq
    clear HI2 heq
    go_wp2
    go_ret
    exact saysB_t HN.out bW
  · have z5 : (u.toList == b.text.toList) = false := by rw [Bool.eq_false_iff]; exact fun q => heq ((toList_same _ _).1 q)
    have HI3 : Hid (P ↔ endsP u d) := ⟨fun q => (HI2.out.1 q).resolve_left heq, fun q => HI2.out.2 (.inr q)⟩
    clear HI2 heq
    go_wp2_with fail
    rw [← HD.out]
    refine (Tryz.strings_HasSuffix u d _ hu9).mono ?_
    rintro e w3 ⟨rfl, hw3⟩
    replace hw3 := hw3.symm
    subst hw3
    have HI4 : Hid (Lib.hasSuffix u.data.toList d.data.toList = true ↔ P) := (suffix_iff u d).trans HI3.out.symm
    obtain ⟨r, hr⟩ : ∃ r, r = Lib.hasSuffix u.data.toList d.data.toList := ⟨_, rfl⟩
    rw [← hr] at HI4 ⊢
    clear hr HI3
    go_wp2
    go_ret
    exact ⟨r, rfl, HI4, bW⟩

set_option maxRecDepth 10000 in
set_option maxHeartbeats 2000000 in
theorem addrWithin_any (g : GT) (a : Option Addr) (n c : Nat) (b : GT) (a2 : Option Addr) (n2 c2 : Nat) (w : World) (hb : 0 ≤ b.bits ∧ b.bits ≤ 32) :
    Calls Tryz.prog 132 #[gnv g a n c, gnv b a2 n2 c2] w (SaysB (relA g.addr b.addr b.bits) w) := by
  obtain ⟨P, hP⟩ : ∃ P, P = relA g.addr b.addr b.bits := ⟨_, rfl⟩
  rw [← hP]
  have bW : Below w.heap.size w ((w.alloc (.cells #[.int .i64 g.kind, .string g.text, .int .i64 g.addr, .int .i64 g.bits, .slice a n c] 96)).alloc (.cells #[.int .i64 b.kind, .string b.text, .int .i64 b.addr, .int .i64 b.bits, .slice a2 n2 c2] 96)) := ((Below.refl _ _).alloc (Nat.le_refl _) _).alloc (by simp) _
  have HI : Hid ((g.addr / (2 : Int) ^ (32 - b.bits).toNat == b.addr / (2 : Int) ^ (32 - b.bits).toNat) = true ↔ P) := by show _ ↔ P; rw [hP, beq_iff_eq]; exact Iff.rfl
  have C1 := fun w => highestBits_any g.addr b.bits w hb.1 hb.2
  have C2 := fun w => highestBits_any b.addr b.bits w hb.1 hb.2
  clear hP hb
  unfold gnv
  go_enter Tryz.func132, Tryz.ntmps132
  go_wp2_with fail
  go_quiet (first
    | (go_at_call_of 152 g.addr; refine Calls.quiet_of_same (C1 _))
    | (go_at_call_of 152 b.addr; refine Calls.quiet_of_same (C2 _)))
  clear C1 C2
  go_wp2
  go_ret
  exact ⟨_, rfl, HI, below_drewM bW _⟩

set_option maxRecDepth 10000 in
set_option maxHeartbeats 2000000 in
theorem partsWithin_any (g : GT) (a : Option Addr) (n c : Nat) (xs : List PT) (b : GT) (a2 : Option Addr) (n2 c2 : Nat) (ys : List PT) (w : World) (h : Pts w a n xs) (hz : ∀ k, k < n → (xs.getD k default).val.size ≤ 1048576) (h2 : Pts w a2 n2 ys) (hz2 : ∀ k, k < n2 → (ys.getD k default).val.size ≤ 1048576) :
    Calls Tryz.prog 136 #[gnv g a n c, gnv b a2 n2 c2] w (SaysB (underP xs ys) w) := by
  obtain ⟨W, hW, x1, x2, bW, sW⟩ := two_boxes 96 w g a n c b a2 n2 c2
  have IU := implUnder_any a n c xs a2 n2 c2 ys W (h.kept bW) (h2.kept bW) hz hz2
  clear h hz h2 hz2 x1 x2
  unfold gnv
  unfold nmv at IU
  go_enter Tryz.func136, Tryz.ntmps136
  go_wp2_with fail
  rw [← hW]
  clear hW
  refine IU.mono ?_
  rintro e w3 ⟨r3, rfl, HV3, hb3⟩
  have B3 : Below w.heap.size w w3 := bW.trans (hb3.mono bW.size)
  clear IU
  go_wp2
  go_ret
  exact ⟨r3, rfl, HV3, B3⟩

theorem contains_iff (s : ByteArray) (cb : UInt8) : Lib.contains s.data.toList [cb] = true ↔ ∃ j, j < s.size ∧ cAt s j = (cb.toNat : Int) := by
  unfold Lib.contains
  rw [decide_eq_true_eq]
  rcases index_one s cb s.size 0 (by omega) (fun j h => absurd h (Nat.not_lt_zero _)) with ⟨h1, _, h3⟩ | ⟨t, h1, h2, h3, _, _⟩
  · rw [h1]
    constructor
    · intro h; omega
    · rintro ⟨j, q1, q2⟩; exact absurd q2 (h3 j q1)
  · rw [h1]
    exact ⟨fun _ => ⟨t, h2, h3⟩, fun _ => by omega⟩

set_option maxRecDepth 10000 in
set_option maxHeartbeats 2000000 in
theorem mailWithin_any (g : GT) (a : Option Addr) (n c : Nat) (b : GT) (a2 : Option Addr) (n2 c2 : Nat) (w : World) (hm : MaxW w) (hs : g.text.size ≤ 1048576) (hs2 : b.text.size ≤ 1048576) (hg : mailP g.text) (hb : mbaseP b.text) :
    Calls Tryz.prog 128 #[gnv g a n c, gnv b a2 n2 c2] w (SaysB (relM g.text b.text) w) := by
  obtain ⟨P, hP⟩ : ∃ P, P = relM g.text b.text := ⟨_, rfl⟩
  rw [← hP]
  have HP : Hid (P = relM g.text b.text) := hP
  have HM : Hid (MaxW w) := hm
  have HG : Hid (mailP g.text) := hg
  have HB : Hid (mbaseP b.text) := hb
  obtain ⟨W, hW, x1, x2, bW, sW⟩ := two_boxes 96 w g a n c b a2 n2 c2
  obtain ⟨m, hmm⟩ := HM.out.kept bW
  obtain ⟨p0, p1, p2, p3, p4⟩ := x1.cells
  obtain ⟨q0, q1, q2, q3, q4⟩ := x2.cells
  have HMM : Hid (_) := hmm
  clear hP hm hg hb hmm
  unfold gnv
  go_enter Tryz.func128, Tryz.ntmps128
  go_wp2_with fail
  rw [← hW]
  clear hW
  refine (Tryz.strings_Contains b.text ⟨#[64]⟩ m _ (by omega) HMM.out).mono ?_
  rintro e w1 ⟨rfl, hw1⟩
  replace hw1 := hw1.symm
  subst hw1
  have HC : Hid (Lib.contains b.text.data.toList (⟨#[64]⟩ : ByteArray).data.toList = true ↔ ∃ j, j < b.text.size ∧ cAt b.text j = 64) := contains_iff b.text 64
  obtain ⟨r, hr⟩ : ∃ r, r = Lib.contains b.text.data.toList (⟨#[64]⟩ : ByteArray).data.toList := ⟨_, rfl⟩
  rw [← hr] at HC ⊢
  clear hr HMM
  cases r with
  | true =>
    have HI : Hid (P ↔ g.text = b.text) := by
      show P ↔ _
      obtain ⟨j, h1, h2⟩ := HC.out.1 rfl
      rw [HP.out]
      exact relM_at HG.out HB.out h1 h2
    clear HC HP HG HB HM
    by_cases heq : g.text = b.text
    · have HN : Hid P := HI.out.2 heq
      have z5 : (g.text.toList == b.text.toList) = true := (toList_same _ _).2 heq
      clear HI heq
      go_wp2
      go_ret
      exact saysB_t HN.out bW
    · have HN : Hid (¬ P) := fun q => heq (HI.out.1 q)
      have z5 : (g.text.toList == b.text.toList) = false := by rw [Bool.eq_false_iff]; exact fun q => heq ((toList_same _ _).1 q)
      clear HI heq
      go_wp2
      go_ret
      exact saysB_f HN.out bW
  | false =>
    have HNO : Hid (∀ j, j < b.text.size → cAt b.text j ≠ 64) := fun j h1 h2 => Bool.false_ne_true (HC.out.2 ⟨j, h1, h2⟩)
    have HI : Hid (P ↔ (cAt b.text 0 = 46 ∧ endsP (bh g.text 64) b.text) ∨ (cAt b.text 0 ≠ 46 ∧ bh g.text 64 = b.text)) := by
      show P ↔ _
      rw [HP.out]
      exact relM_no HG.out HNO.out
    have hbp := mbase_pos HB.out
    clear HC HP HB HNO
    go_wp2_with fail
    refine (cut_says g.text 64 _ hs (HM.out.kept bW)).mono ?_
    rintro e w3 ⟨x, y, ok, rfl, HR, hb3⟩
    have B3 : Below w.heap.size w w3 := bW.trans (hb3.mono bW.size)
    have hys : y.size ≤ g.text.size := by
      rcases HR.out with ⟨_, t, _, _, _, _, rfl⟩ | ⟨_, _, _, rfl⟩
      · exact ext_le _ _ _
      · exact Nat.zero_le _
    have HY : Hid (y = bh g.text 64) := by
      show y = _
      rcases index_one g.text 64 g.text.size 0 (by omega) (fun j h => absurd h (Nat.not_lt_zero _)) with ⟨_, _, h3⟩ | ⟨t, _, h2, h3, h4, h5⟩
      · obtain ⟨j, q1, q2⟩ := mail_has HG.out
        exact absurd q2 (h3 j q1)
      · rcases HR.out with ⟨_, t', g2, g3, g4, _, rfl⟩ | ⟨_, g2, _⟩
        · have ett : t' = t := by
            rcases Nat.lt_trichotomy t' t with q | q | q
            · exact absurd g3 (h4 t' q)
            · exact q
            · exact absurd h3 (g4 t q)
          subst ett
          exact h5.symm
        · exact absurd h3 (g2 t h2)
    rw [← HY.out] at HI
    clear HR HY HG HM p0 p1 p2 p3 p4 q0 q1 q2 q3 q4
    obtain ⟨p0, p1, p2, p3, p4⟩ := (x1.kept hb3).cells
    obtain ⟨q0, q1, q2, q3, q4⟩ := (x2.kept hb3).cells
    clear x1 x2
    go_wp2_with fail
    refine (Tryz.strings_HasPrefix b.text ⟨#[46]⟩ _).mono ?_
    rintro e w4 ⟨rfl, hw4⟩
    replace hw4 := hw4.symm
    subst hw4
    have HD : Hid (Lib.hasPrefix b.text.data.toList (⟨#[46]⟩ : ByteArray).data.toList = true ↔ 0 < b.text.size ∧ cAt b.text 0 = 46) := pre_dot b.text
    obtain ⟨r, hr⟩ : ∃ r, r = Lib.hasPrefix b.text.data.toList (⟨#[46]⟩ : ByteArray).data.toList := ⟨_, rfl⟩
    rw [← hr] at HD ⊢
    clear hr
    cases r with
    | true =>
      have HI3 : Hid (P ↔ endsP y b.text) := by
        show P ↔ _
        have h0 := (HD.out.1 rfl).2
        rw [HI.out]
        constructor
        · rintro (q | q)
          · exact q.2
          · exact absurd h0 q.1
        · exact fun q => .inl ⟨h0, q⟩
      clear HI HD
      go_wp2_with fail
      refine (Tryz.strings_HasSuffix y b.text _ (by omega)).mono ?_
      rintro e w5 ⟨rfl, hw5⟩
      replace hw5 := hw5.symm
      subst hw5
      have HI4 : Hid (Lib.hasSuffix y.data.toList b.text.data.toList = true ↔ P) := (suffix_iff y b.text).trans HI3.out.symm
      obtain ⟨r, hr⟩ : ∃ r, r = Lib.hasSuffix y.data.toList b.text.data.toList := ⟨_, rfl⟩
      rw [← hr] at HI4 ⊢
      clear hr HI3
      go_wp2
      go_ret
      exact ⟨r, rfl, HI4, B3⟩
    | false =>
      have HI3 : Hid (P ↔ y = b.text) := by
        show P ↔ _
        have h0 : cAt b.text 0 ≠ 46 := fun q => Bool.false_ne_true (HD.out.2 ⟨hbp, q⟩)
        rw [HI.out]
        constructor
        · rintro (q | q)
          · exact absurd q.1 h0
          · exact q.2
        · exact fun q => .inr ⟨h0, q⟩
      clear HI HD
      by_cases hyb : y = b.text
      · have HN : Hid P := HI3.out.2 hyb
        have z6 : (y.toList == b.text.toList) = true := (toList_same _ _).2 hyb
        clear HI3 hyb
        go_wp2
        go_ret
        exact saysB_t HN.out B3
      · have HN : Hid (¬ P) := fun q => hyb (HI3.out.1 q)
        have z6 : (y.toList == b.text.toList) = false := by rw [Bool.eq_false_iff]; exact fun q => hyb ((toList_same _ _).1 q)
        clear HI3 hyb
        go_wp2
        go_ret
        exact saysB_f HN.out B3

end Go.Proofs.YtkpabanjlhlmfaaGreatDoor

namespace Go.Proofs.YtkpabanjlhlmfaaGreatDoor
open Go.RowKit

set_option maxRecDepth 10000 in
set_option maxHeartbeats 8000000 in
theorem implWithin_any (g : GT) (a : Option Addr) (n c : Nat) (xs : List PT) (b : GT) (a2 : Option Addr) (n2 c2 : Nat) (ys : List PT) (w : World) (hm : MaxW w) (h : Pts w a n xs) (hz : ∀ k, k < n → (xs.getD k default).val.size ≤ 1048576) (hs : g.text.size ≤ 1048576) (h2 : Pts w a2 n2 ys) (hz2 : ∀ k, k < n2 → (ys.getD k default).val.size ≤ 1048576) (hs2 : b.text.size ≤ 1048576) :
    Calls Tryz.prog 104 #[gnv g a n c, gnv b a2 n2 c2] w (SaysB (withinP g xs b ys) w) := by
  obtain ⟨P, hP⟩ : ∃ P, P = withinP g xs b ys := ⟨_, rfl⟩
  rw [← hP]
  have HP : Hid (P = withinP g xs b ys) := hP
  have HK : Hid (Pts w a n xs) := h
  have HZ : Hid (_) := hz
  have HK2 : Hid (Pts w a2 n2 ys) := h2
  have HZ2 : Hid (_) := hz2
  have HM : Hid (MaxW w) := hm
  clear hP h hz h2 hz2 hm
  obtain ⟨W, hW, x1, x2, bW, sW⟩ := two_boxes 96 w g a n c b a2 n2 c2
  have SG := fun (w1 : World) (hb : Below w.heap.size w w1) => implGenOk_any g a n c xs w1 (HM.out.kept hb) (HK.out.kept hb) HZ.out hs
  have SB := fun (w1 : World) (hb : Below w.heap.size w w1) => implBaseOk_any b a2 n2 c2 ys w1 (HM.out.kept hb) (HK2.out.kept hb) HZ2.out hs2
  unfold gnv at SG SB ⊢
  by_cases k1 : g.kind = 1
  · have GR : ∀ w, Calls Tryz.prog 100 #[.int .i64 g.kind] w fun e w' => e = .returned (.tuple #[.agg #[.func (Fn.func 122) #[] #[], .func (Fn.func 123) #[] #[], .func (Fn.func 124) #[] #[], .func (Fn.func 125) #[] #[]], .bool true]) ∧ Below w.heap.size w w' := fun w => by rw [k1]; exact genRulesOf_1 w
    have KK : Hid (g.kind = 1) := k1
    clear k1
    go_enter Tryz.func104, Tryz.ntmps104
    go_wp2_with fail
    rw [← hW]
    clear hW
    refine (GR _).mono ?_
    rintro e w1 ⟨rfl, hb1⟩
    have B1 := bW.trans (hb1.mono bW.size)
    obtain ⟨p0, p1, p2, p3, p4⟩ := (x1.kept hb1).cells
    have hlt : w.heap.size + 1 < w1.heap.size := Nat.lt_of_lt_of_le (by omega) hb1.size
    have hlt0 : w.heap.size < w1.heap.size := by omega
    have y1 := x1.kept hb1
    have y2 := x2.kept hb1
    obtain ⟨W1, hW1⟩ : ∃ W1, W1 = w1.alloc (.cells #[.func (Fn.func 122) #[] #[], .func (Fn.func 123) #[] #[], .func (Fn.func 124) #[] #[], .func (Fn.func 125) #[] #[]] 142) := ⟨_, rfl⟩
    have hbb : Below w1.heap.size w1 W1 := by rw [hW1]; exact (Below.refl _ _).alloc (Nat.le_refl _) _
    have BB := B1.trans (hbb.mono B1.size)
    have hru : W1.heap[w1.heap.size]? = some (.cells #[.func (Fn.func 122) #[] #[], .func (Fn.func 123) #[] #[], .func (Fn.func 124) #[] #[], .func (Fn.func 125) #[] #[]] 142 (0, 0)) := by rw [hW1]; exact heap_alloc_new w1 _
    have HRU : Hid (_) := hru
    have Z1 : Hid (_) := y1.kept hbb
    have Z2 : Hid (_) := y2.kept hbb
    clear GR x1 x2 y1 y2 hru bW
    go_wp2_with fail
    rw [← hW1]
    clear hW1
    refine (SG _ BB).mono ?_
    rintro e w2 ⟨r2, rfl, HV2, hb2⟩
    have B2 := BB.trans (hb2.mono BB.size)
    have hr2 : w2.heap[w1.heap.size]? = some (.cells #[.func (Fn.func 122) #[] #[], .func (Fn.func 123) #[] #[], .func (Fn.func 124) #[] #[], .func (Fn.func 125) #[] #[]] 142 (0, 0)) := (hb2.block _ (Array.getElem?_eq_some_iff.1 HRU.out).1).trans HRU.out
    have HR2 : Hid (_) := hr2
    have V1 : Hid (_) := Z1.out.kept hb2
    have V2 : Hid (_) := Z2.out.kept hb2
    clear SG HRU Z1 Z2 hr2 p0 p1 p2 p3 p4
    cases r2 with
    | false =>
      have HN : Hid (¬ P) := by show ¬ P; rw [HP.out]; exact fun q => Bool.false_ne_true (HV2.out.2 q.1)
      clear HP HV2 SB HK HZ HK2 HZ2 V1 V2 HR2
      go_wp2
      go_ret
      exact saysB_f HN.out B2
    | true =>
      have HG : Hid (genP g xs) := HV2.out.1 rfl
      clear HV2
      obtain ⟨q0, q1, q2, q3, q4⟩ := V2.out.cells
      go_wp2_with fail
      refine (SB _ B2).mono ?_
      rintro e w3 ⟨r3, rfl, HV3, hb3⟩
      have B3 := B2.trans (hb3.mono B2.size)
      have hr3 : w3.heap[w1.heap.size]? = some (.cells #[.func (Fn.func 122) #[] #[], .func (Fn.func 123) #[] #[], .func (Fn.func 124) #[] #[], .func (Fn.func 125) #[] #[]] 142 (0, 0)) := (hb3.block _ (Array.getElem?_eq_some_iff.1 HR2.out).1).trans HR2.out
      have f3 : w3.cell? ⟨w1.heap.size, 3, none⟩ = some (.func (Fn.func 125) #[] #[]) := (cell_of_row _ w1.heap.size 3 _ 142 (0, 0) hr3).trans rfl
      have U1 : Hid (_) := V1.out.kept hb3
      have U2 : Hid (_) := V2.out.kept hb3
      clear SB HR2 V1 V2 hr3 q0 q1 q2 q3 q4
      cases r3 with
      | false =>
        have HN : Hid (¬ P) := by show ¬ P; rw [HP.out]; exact fun q => Bool.false_ne_true (HV3.out.2 q.2.1)
        clear HP HV3 HK HZ HK2 HZ2 U1 U2
        go_wp2
        go_ret
        exact saysB_f HN.out B3
      | true =>
        have HB : Hid (baseP b ys) := HV3.out.1 rfl
        clear HV3
        obtain ⟨p0, p1, p2, p3, p4⟩ := U1.out.cells
        obtain ⟨q0, q1, q2, q3, q4⟩ := U2.out.cells
        clear U1 U2
        by_cases hkk : g.kind = b.kind
        · have zk : (g.kind == b.kind) = true := beq_iff_eq.2 hkk
          have HI : Hid (P ↔ relH g.text b.text) := by show P ↔ _; rw [HP.out]; exact withinP_1 HG.out HB.out hkk KK.out
          have NM := hostWithin_any g a n c b a2 n2 c2 w3 hs hs2 (gen_host HG.out KK.out)
          unfold gnv at NM
          clear HP HK HZ HK2 HZ2 HG HB hkk KK
          go_wp2_with fail
          refine NM.mono ?_
          rintro e w4 ⟨r4, rfl, HV4, hb4⟩
          have B4 := B3.trans (hb4.mono B3.size)
          clear NM
          cases r4 with
          | false =>
            have HN : Hid (¬ P) := fun q => Bool.false_ne_true (HV4.out.2 (HI.out.1 q))
            clear HV4 HI
            go_wp2
            go_ret
            exact saysB_f HN.out B4
          | true =>
            have HN : Hid P := HI.out.2 (HV4.out.1 rfl)
            clear HV4 HI
            go_wp2
            go_ret
            exact saysB_t HN.out B4
        · have zk : (g.kind == b.kind) = false := beq_false_of_ne hkk
          have HN : Hid (¬ P) := by show ¬ P; rw [HP.out]; exact fun q => hkk q.2.2.1
          clear HP HK HZ HK2 HZ2 HG HB hkk KK
          go_wp2
          go_ret
          exact saysB_f HN.out B3
  by_cases k2 : g.kind = 2
  · have GR : ∀ w, Calls Tryz.prog 100 #[.int .i64 g.kind] w fun e w' => e = .returned (.tuple #[.agg #[.func (Fn.func 122) #[] #[], .func (Fn.func 126) #[] #[], .func (Fn.func 127) #[] #[], .func (Fn.func 128) #[] #[]], .bool true]) ∧ Below w.heap.size w w' := fun w => by rw [k2]; exact genRulesOf_2 w
    have KK : Hid (g.kind = 2) := k2
    clear k1 k2
    go_enter Tryz.func104, Tryz.ntmps104
    go_wp2_with fail
    rw [← hW]
    clear hW
    refine (GR _).mono ?_
    rintro e w1 ⟨rfl, hb1⟩
    have B1 := bW.trans (hb1.mono bW.size)
    obtain ⟨p0, p1, p2, p3, p4⟩ := (x1.kept hb1).cells
    have hlt : w.heap.size + 1 < w1.heap.size := Nat.lt_of_lt_of_le (by omega) hb1.size
    have hlt0 : w.heap.size < w1.heap.size := by omega
    have y1 := x1.kept hb1
    have y2 := x2.kept hb1
    obtain ⟨W1, hW1⟩ : ∃ W1, W1 = w1.alloc (.cells #[.func (Fn.func 122) #[] #[], .func (Fn.func 126) #[] #[], .func (Fn.func 127) #[] #[], .func (Fn.func 128) #[] #[]] 142) := ⟨_, rfl⟩
    have hbb : Below w1.heap.size w1 W1 := by rw [hW1]; exact (Below.refl _ _).alloc (Nat.le_refl _) _
    have BB := B1.trans (hbb.mono B1.size)
    have hru : W1.heap[w1.heap.size]? = some (.cells #[.func (Fn.func 122) #[] #[], .func (Fn.func 126) #[] #[], .func (Fn.func 127) #[] #[], .func (Fn.func 128) #[] #[]] 142 (0, 0)) := by rw [hW1]; exact heap_alloc_new w1 _
    have HRU : Hid (_) := hru
    have Z1 : Hid (_) := y1.kept hbb
    have Z2 : Hid (_) := y2.kept hbb
    clear GR x1 x2 y1 y2 hru bW
    go_wp2_with fail
    rw [← hW1]
    clear hW1
    refine (SG _ BB).mono ?_
    rintro e w2 ⟨r2, rfl, HV2, hb2⟩
    have B2 := BB.trans (hb2.mono BB.size)
    have hr2 : w2.heap[w1.heap.size]? = some (.cells #[.func (Fn.func 122) #[] #[], .func (Fn.func 126) #[] #[], .func (Fn.func 127) #[] #[], .func (Fn.func 128) #[] #[]] 142 (0, 0)) := (hb2.block _ (Array.getElem?_eq_some_iff.1 HRU.out).1).trans HRU.out
    have HR2 : Hid (_) := hr2
    have V1 : Hid (_) := Z1.out.kept hb2
    have V2 : Hid (_) := Z2.out.kept hb2
    clear SG HRU Z1 Z2 hr2 p0 p1 p2 p3 p4
    cases r2 with
    | false =>
      have HN : Hid (¬ P) := by show ¬ P; rw [HP.out]; exact fun q => Bool.false_ne_true (HV2.out.2 q.1)
      clear HP HV2 SB HK HZ HK2 HZ2 V1 V2 HR2
      go_wp2
      go_ret
      exact saysB_f HN.out B2
    | true =>
      have HG : Hid (genP g xs) := HV2.out.1 rfl
      clear HV2
      obtain ⟨q0, q1, q2, q3, q4⟩ := V2.out.cells
      go_wp2_with fail
      refine (SB _ B2).mono ?_
      rintro e w3 ⟨r3, rfl, HV3, hb3⟩
      have B3 := B2.trans (hb3.mono B2.size)
      have hr3 : w3.heap[w1.heap.size]? = some (.cells #[.func (Fn.func 122) #[] #[], .func (Fn.func 126) #[] #[], .func (Fn.func 127) #[] #[], .func (Fn.func 128) #[] #[]] 142 (0, 0)) := (hb3.block _ (Array.getElem?_eq_some_iff.1 HR2.out).1).trans HR2.out
      have f3 : w3.cell? ⟨w1.heap.size, 3, none⟩ = some (.func (Fn.func 128) #[] #[]) := (cell_of_row _ w1.heap.size 3 _ 142 (0, 0) hr3).trans rfl
      have U1 : Hid (_) := V1.out.kept hb3
      have U2 : Hid (_) := V2.out.kept hb3
      clear SB HR2 V1 V2 hr3 q0 q1 q2 q3 q4
      cases r3 with
      | false =>
        have HN : Hid (¬ P) := by show ¬ P; rw [HP.out]; exact fun q => Bool.false_ne_true (HV3.out.2 q.2.1)
        clear HP HV3 HK HZ HK2 HZ2 U1 U2
        go_wp2
        go_ret
        exact saysB_f HN.out B3
      | true =>
        have HB : Hid (baseP b ys) := HV3.out.1 rfl
        clear HV3
        obtain ⟨p0, p1, p2, p3, p4⟩ := U1.out.cells
        obtain ⟨q0, q1, q2, q3, q4⟩ := U2.out.cells
        clear U1 U2
        by_cases hkk : g.kind = b.kind
        · have zk : (g.kind == b.kind) = true := beq_iff_eq.2 hkk
          have HI : Hid (P ↔ relM g.text b.text) := by show P ↔ _; rw [HP.out]; exact withinP_2 HG.out HB.out hkk KK.out
          have NM := mailWithin_any g a n c b a2 n2 c2 w3 (HM.out.kept B3) hs hs2 (gen_mail HG.out KK.out) (base_mail HB.out (hkk.symm.trans KK.out))
          unfold gnv at NM
          clear HP HK HZ HK2 HZ2 HG HB hkk KK
          go_wp2_with fail
          refine NM.mono ?_
          rintro e w4 ⟨r4, rfl, HV4, hb4⟩
          have B4 := B3.trans (hb4.mono B3.size)
          clear NM
          cases r4 with
          | false =>
            have HN : Hid (¬ P) := fun q => Bool.false_ne_true (HV4.out.2 (HI.out.1 q))
            clear HV4 HI
            go_wp2
            go_ret
            exact saysB_f HN.out B4
          | true =>
            have HN : Hid P := HI.out.2 (HV4.out.1 rfl)
            clear HV4 HI
            go_wp2
            go_ret
            exact saysB_t HN.out B4
        · have zk : (g.kind == b.kind) = false := beq_false_of_ne hkk
          have HN : Hid (¬ P) := by show ¬ P; rw [HP.out]; exact fun q => hkk q.2.2.1
          clear HP HK HZ HK2 HZ2 HG HB hkk KK
          go_wp2
          go_ret
          exact saysB_f HN.out B3
  by_cases k3 : g.kind = 3
  · have GR : ∀ w, Calls Tryz.prog 100 #[.int .i64 g.kind] w fun e w' => e = .returned (.tuple #[.agg #[.func (Fn.func 129) #[] #[], .func (Fn.func 130) #[] #[], .func (Fn.func 131) #[] #[], .func (Fn.func 132) #[] #[]], .bool true]) ∧ Below w.heap.size w w' := fun w => by rw [k3]; exact genRulesOf_3 w
    have KK : Hid (g.kind = 3) := k3
    clear k1 k2 k3
    go_enter Tryz.func104, Tryz.ntmps104
    go_wp2_with fail
    rw [← hW]
    clear hW
    refine (GR _).mono ?_
    rintro e w1 ⟨rfl, hb1⟩
    have B1 := bW.trans (hb1.mono bW.size)
    obtain ⟨p0, p1, p2, p3, p4⟩ := (x1.kept hb1).cells
    have hlt : w.heap.size + 1 < w1.heap.size := Nat.lt_of_lt_of_le (by omega) hb1.size
    have hlt0 : w.heap.size < w1.heap.size := by omega
    have y1 := x1.kept hb1
    have y2 := x2.kept hb1
    obtain ⟨W1, hW1⟩ : ∃ W1, W1 = w1.alloc (.cells #[.func (Fn.func 129) #[] #[], .func (Fn.func 130) #[] #[], .func (Fn.func 131) #[] #[], .func (Fn.func 132) #[] #[]] 142) := ⟨_, rfl⟩
    have hbb : Below w1.heap.size w1 W1 := by rw [hW1]; exact (Below.refl _ _).alloc (Nat.le_refl _) _
    have BB := B1.trans (hbb.mono B1.size)
    have hru : W1.heap[w1.heap.size]? = some (.cells #[.func (Fn.func 129) #[] #[], .func (Fn.func 130) #[] #[], .func (Fn.func 131) #[] #[], .func (Fn.func 132) #[] #[]] 142 (0, 0)) := by rw [hW1]; exact heap_alloc_new w1 _
    have HRU : Hid (_) := hru
    have Z1 : Hid (_) := y1.kept hbb
    have Z2 : Hid (_) := y2.kept hbb
    clear GR x1 x2 y1 y2 hru bW
    go_wp2_with fail
    rw [← hW1]
    clear hW1
    refine (SG _ BB).mono ?_
    rintro e w2 ⟨r2, rfl, HV2, hb2⟩
    have B2 := BB.trans (hb2.mono BB.size)
    have hr2 : w2.heap[w1.heap.size]? = some (.cells #[.func (Fn.func 129) #[] #[], .func (Fn.func 130) #[] #[], .func (Fn.func 131) #[] #[], .func (Fn.func 132) #[] #[]] 142 (0, 0)) := (hb2.block _ (Array.getElem?_eq_some_iff.1 HRU.out).1).trans HRU.out
    have HR2 : Hid (_) := hr2
    have V1 : Hid (_) := Z1.out.kept hb2
    have V2 : Hid (_) := Z2.out.kept hb2
    clear SG HRU Z1 Z2 hr2 p0 p1 p2 p3 p4
    cases r2 with
    | false =>
      have HN : Hid (¬ P) := by show ¬ P; rw [HP.out]; exact fun q => Bool.false_ne_true (HV2.out.2 q.1)
      clear HP HV2 SB HK HZ HK2 HZ2 V1 V2 HR2
      go_wp2
      go_ret
      exact saysB_f HN.out B2
    | true =>
      have HG : Hid (genP g xs) := HV2.out.1 rfl
      clear HV2
      obtain ⟨q0, q1, q2, q3, q4⟩ := V2.out.cells
      go_wp2_with fail
      refine (SB _ B2).mono ?_
      rintro e w3 ⟨r3, rfl, HV3, hb3⟩
      have B3 := B2.trans (hb3.mono B2.size)
      have hr3 : w3.heap[w1.heap.size]? = some (.cells #[.func (Fn.func 129) #[] #[], .func (Fn.func 130) #[] #[], .func (Fn.func 131) #[] #[], .func (Fn.func 132) #[] #[]] 142 (0, 0)) := (hb3.block _ (Array.getElem?_eq_some_iff.1 HR2.out).1).trans HR2.out
      have f3 : w3.cell? ⟨w1.heap.size, 3, none⟩ = some (.func (Fn.func 132) #[] #[]) := (cell_of_row _ w1.heap.size 3 _ 142 (0, 0) hr3).trans rfl
      have U1 : Hid (_) := V1.out.kept hb3
      have U2 : Hid (_) := V2.out.kept hb3
      clear SB HR2 V1 V2 hr3 q0 q1 q2 q3 q4
      cases r3 with
      | false =>
        have HN : Hid (¬ P) := by show ¬ P; rw [HP.out]; exact fun q => Bool.false_ne_true (HV3.out.2 q.2.1)
        clear HP HV3 HK HZ HK2 HZ2 U1 U2
        go_wp2
        go_ret
        exact saysB_f HN.out B3
      | true =>
        have HB : Hid (baseP b ys) := HV3.out.1 rfl
        clear HV3
        obtain ⟨p0, p1, p2, p3, p4⟩ := U1.out.cells
        obtain ⟨q0, q1, q2, q3, q4⟩ := U2.out.cells
        clear U1 U2
        by_cases hkk : g.kind = b.kind
        · have zk : (g.kind == b.kind) = true := beq_iff_eq.2 hkk
          have HI : Hid (P ↔ relA g.addr b.addr b.bits) := by show P ↔ _; rw [HP.out]; exact withinP_3 HG.out HB.out hkk KK.out
          have NM := addrWithin_any g a n c b a2 n2 c2 w3 (base_bits HB.out (hkk.symm.trans KK.out))
          unfold gnv at NM
          clear HP HK HZ HK2 HZ2 HG HB hkk KK
          go_wp2_with fail
          refine NM.mono ?_
          rintro e w4 ⟨r4, rfl, HV4, hb4⟩
          have B4 := B3.trans (hb4.mono B3.size)
          clear NM
          cases r4 with
          | false =>
            have HN : Hid (¬ P) := fun q => Bool.false_ne_true (HV4.out.2 (HI.out.1 q))
            clear HV4 HI
            go_wp2
            go_ret
            exact saysB_f HN.out B4
          | true =>
            have HN : Hid P := HI.out.2 (HV4.out.1 rfl)
            clear HV4 HI
            go_wp2
            go_ret
            exact saysB_t HN.out B4
        · have zk : (g.kind == b.kind) = false := beq_false_of_ne hkk
          have HN : Hid (¬ P) := by show ¬ P; rw [HP.out]; exact fun q => hkk q.2.2.1
          clear HP HK HZ HK2 HZ2 HG HB hkk KK
          go_wp2
          go_ret
          exact saysB_f HN.out B3
  by_cases k4 : g.kind = 4
  · have GR : ∀ w, Calls Tryz.prog 100 #[.int .i64 g.kind] w fun e w' => e = .returned (.tuple #[.agg #[.func (Fn.func 133) #[] #[], .func (Fn.func 134) #[] #[], .func (Fn.func 135) #[] #[], .func (Fn.func 136) #[] #[]], .bool true]) ∧ Below w.heap.size w w' := fun w => by rw [k4]; exact genRulesOf_4 w
    have KK : Hid (g.kind = 4) := k4
    clear k1 k2 k3 k4
    go_enter Tryz.func104, Tryz.ntmps104
    go_wp2_with fail
    rw [← hW]
    clear hW
    refine (GR _).mono ?_
    rintro e w1 ⟨rfl, hb1⟩
    have B1 := bW.trans (hb1.mono bW.size)
    obtain ⟨p0, p1, p2, p3, p4⟩ := (x1.kept hb1).cells
    have hlt : w.heap.size + 1 < w1.heap.size := Nat.lt_of_lt_of_le (by omega) hb1.size
    have hlt0 : w.heap.size < w1.heap.size := by omega
    have y1 := x1.kept hb1
    have y2 := x2.kept hb1
    obtain ⟨W1, hW1⟩ : ∃ W1, W1 = w1.alloc (.cells #[.func (Fn.func 133) #[] #[], .func (Fn.func 134) #[] #[], .func (Fn.func 135) #[] #[], .func (Fn.func 136) #[] #[]] 142) := ⟨_, rfl⟩
    have hbb : Below w1.heap.size w1 W1 := by rw [hW1]; exact (Below.refl _ _).alloc (Nat.le_refl _) _
    have BB := B1.trans (hbb.mono B1.size)
    have hru : W1.heap[w1.heap.size]? = some (.cells #[.func (Fn.func 133) #[] #[], .func (Fn.func 134) #[] #[], .func (Fn.func 135) #[] #[], .func (Fn.func 136) #[] #[]] 142 (0, 0)) := by rw [hW1]; exact heap_alloc_new w1 _
    have HRU : Hid (_) := hru
    have Z1 : Hid (_) := y1.kept hbb
    have Z2 : Hid (_) := y2.kept hbb
    clear GR x1 x2 y1 y2 hru bW
    go_wp2_with fail
    rw [← hW1]
    clear hW1
    refine (SG _ BB).mono ?_
    rintro e w2 ⟨r2, rfl, HV2, hb2⟩
    have B2 := BB.trans (hb2.mono BB.size)
    have hr2 : w2.heap[w1.heap.size]? = some (.cells #[.func (Fn.func 133) #[] #[], .func (Fn.func 134) #[] #[], .func (Fn.func 135) #[] #[], .func (Fn.func 136) #[] #[]] 142 (0, 0)) := (hb2.block _ (Array.getElem?_eq_some_iff.1 HRU.out).1).trans HRU.out
    have HR2 : Hid (_) := hr2
    have V1 : Hid (_) := Z1.out.kept hb2
    have V2 : Hid (_) := Z2.out.kept hb2
    clear SG HRU Z1 Z2 hr2 p0 p1 p2 p3 p4
    cases r2 with
    | false =>
      have HN : Hid (¬ P) := by show ¬ P; rw [HP.out]; exact fun q => Bool.false_ne_true (HV2.out.2 q.1)
      clear HP HV2 SB HK HZ HK2 HZ2 V1 V2 HR2
      go_wp2
      go_ret
      exact saysB_f HN.out B2
    | true =>
      have HG : Hid (genP g xs) := HV2.out.1 rfl
      clear HV2
      obtain ⟨q0, q1, q2, q3, q4⟩ := V2.out.cells
      go_wp2_with fail
      refine (SB _ B2).mono ?_
      rintro e w3 ⟨r3, rfl, HV3, hb3⟩
      have B3 := B2.trans (hb3.mono B2.size)
      have hr3 : w3.heap[w1.heap.size]? = some (.cells #[.func (Fn.func 133) #[] #[], .func (Fn.func 134) #[] #[], .func (Fn.func 135) #[] #[], .func (Fn.func 136) #[] #[]] 142 (0, 0)) := (hb3.block _ (Array.getElem?_eq_some_iff.1 HR2.out).1).trans HR2.out
      have f3 : w3.cell? ⟨w1.heap.size, 3, none⟩ = some (.func (Fn.func 136) #[] #[]) := (cell_of_row _ w1.heap.size 3 _ 142 (0, 0) hr3).trans rfl
      have U1 : Hid (_) := V1.out.kept hb3
      have U2 : Hid (_) := V2.out.kept hb3
      clear SB HR2 V1 V2 hr3 q0 q1 q2 q3 q4
      cases r3 with
      | false =>
        have HN : Hid (¬ P) := by show ¬ P; rw [HP.out]; exact fun q => Bool.false_ne_true (HV3.out.2 q.2.1)
        clear HP HV3 HK HZ HK2 HZ2 U1 U2
        go_wp2
        go_ret
        exact saysB_f HN.out B3
      | true =>
        have HB : Hid (baseP b ys) := HV3.out.1 rfl
        clear HV3
        obtain ⟨p0, p1, p2, p3, p4⟩ := U1.out.cells
        obtain ⟨q0, q1, q2, q3, q4⟩ := U2.out.cells
        clear U1 U2
        by_cases hkk : g.kind = b.kind
        · have zk : (g.kind == b.kind) = true := beq_iff_eq.2 hkk
          have HI : Hid (P ↔ underP xs ys) := by show P ↔ _; rw [HP.out]; exact withinP_4 HG.out HB.out hkk KK.out
          have NM := partsWithin_any g a n c xs b a2 n2 c2 ys w3 (HK.out.kept B3) HZ.out (HK2.out.kept B3) HZ2.out
          unfold gnv at NM
          clear HP HK HZ HK2 HZ2 HG HB hkk KK
          go_wp2_with fail
          refine NM.mono ?_
          rintro e w4 ⟨r4, rfl, HV4, hb4⟩
          have B4 := B3.trans (hb4.mono B3.size)
          clear NM
          cases r4 with
          | false =>
            have HN : Hid (¬ P) := fun q => Bool.false_ne_true (HV4.out.2 (HI.out.1 q))
            clear HV4 HI
            go_wp2
            go_ret
            exact saysB_f HN.out B4
          | true =>
            have HN : Hid P := HI.out.2 (HV4.out.1 rfl)
            clear HV4 HI
            go_wp2
            go_ret
            exact saysB_t HN.out B4
        · have zk : (g.kind == b.kind) = false := beq_false_of_ne hkk
          have HN : Hid (¬ P) := by show ¬ P; rw [HP.out]; exact fun q => hkk q.2.2.1
          clear HP HK HZ HK2 HZ2 HG HB hkk KK
          go_wp2
          go_ret
          exact saysB_f HN.out B3
  have HN : Hid (¬ P) := by show ¬ P; rw [HP.out]; intro q; rcases genP_kind q.1 with q | q | q | q <;> omega
  have GR := genRulesOf_none g.kind W (by omega)
  clear HP HK HZ HK2 HZ2 HM k1 k2 k3 k4 SG SB x1 x2
  go_enter Tryz.func104, Tryz.ntmps104
  go_wp2_with fail
  rw [← hW]
  clear hW
  refine GR.mono ?_
  rintro e w1 ⟨rfl, hb1⟩
  have B1 := bW.trans (hb1.mono bW.size)
  have B2 := B1.alloc B1.size (.cells #[.nilFunc, .nilFunc, .nilFunc, .nilFunc] 142 (0, 0))
  go_wp2
  go_ret
  exact saysB_f HN.out B2

end Go.Proofs.YtkpabanjlhlmfaaGreatDoor

set_option linter.unusedVariables false
namespace Go.Proofs.YtkpabanjlhlmfaaGreatDoor
open Go.RowKit

/-- A name is within a base. -/
def wn (q y : GE) : Prop := withinP q.g q.parts y.g y.parts
def inOne (q : GE) (xs : List GE) (n : Nat) : Prop := ∃ k, k < n ∧ wn q (xs.getD k default)
def kindOne (q : GE) (xs : List GE) (n : Nat) : Prop := ∃ k, k < n ∧ (xs.getD k default).g.kind = q.g.kind
def permP (q : GE) (xs : List GE) (n : Nat) : Prop := ¬ kindOne q xs n ∨ inOne q xs n
def fitP (per : List GE) (np : Nat) (den : List GE) (nd : Nat) (q : GE) : Prop := ¬ inOne q den nd ∧ permP q per np

set_option maxRecDepth 10000 in
set_option maxHeartbeats 1000000 in
theorem cl_within_any (q : GE) (qa : Option Addr) (qn qc : Nat) (an : Option Addr) (nn cn : Nat) (y : GE) (g : Nat) (w : World) (hm : MaxW w) (hx : w.heap[g]? = some (.cells #[.int .i64 q.g.kind, .string q.g.text, .int .i64 q.g.addr, .int .i64 q.g.bits, .slice qa qn qc] 96 (0, 0))) (hq : Pts w qa qn q.parts) (hqz : q.g.text.size ≤ 1048576 ∧ ∀ k, k < qn → (q.parts.getD k default).val.size ≤ 1048576) (hy : Pts w an nn y.parts) (hyz : y.g.text.size ≤ 1048576 ∧ ∀ k, k < nn → (y.parts.getD k default).val.size ≤ 1048576) :
    Calls Tryz.prog 103 #[.agg #[.int .i64 y.g.kind, .string y.g.text, .int .i64 y.g.addr, .int .i64 y.g.bits, .slice an nn cn], .pointer (some ⟨g, 0, none⟩)] w (SaysB (wn q y) w) := by
  have hg : g < w.heap.size := (Array.getElem?_eq_some_iff.1 hx).1
  obtain ⟨w0, hw0⟩ : ∃ w0, w0 = w.alloc (.cells #[.int .i64 y.g.kind, .string y.g.text, .int .i64 y.g.addr, .int .i64 y.g.bits, .slice an nn cn] 96) := ⟨_, rfl⟩
  have hb0 : Below w.heap.size w w0 := by rw [hw0]; exact (Below.refl _ _).alloc (Nat.le_refl _) _
  have hy0 : w0.heap[w.heap.size]? = some (.cells #[.int .i64 y.g.kind, .string y.g.text, .int .i64 y.g.addr, .int .i64 y.g.bits, .slice an nn cn] 96 (0, 0)) := by rw [hw0]; exact heap_alloc_new w _
  have hx0 := (hb0.block _ hg).trans hx
  have e0 : w0.cell? ⟨w.heap.size, 0, none⟩ = some (.int .i64 y.g.kind) := (cell_of_row _ _ 0 _ 96 (0, 0) hy0).trans rfl
  have e1 : w0.cell? ⟨w.heap.size, 1, none⟩ = some (.string y.g.text) := (cell_of_row _ _ 1 _ 96 (0, 0) hy0).trans rfl
  have e2 : w0.cell? ⟨w.heap.size, 2, none⟩ = some (.int .i64 y.g.addr) := (cell_of_row _ _ 2 _ 96 (0, 0) hy0).trans rfl
  have e3 : w0.cell? ⟨w.heap.size, 3, none⟩ = some (.int .i64 y.g.bits) := (cell_of_row _ _ 3 _ 96 (0, 0) hy0).trans rfl
  have e4 : w0.cell? ⟨w.heap.size, 4, none⟩ = some (.slice an nn cn) := (cell_of_row _ _ 4 _ 96 (0, 0) hy0).trans rfl
  have d0 : w0.cell? ⟨g, 0, none⟩ = some (.int .i64 q.g.kind) := (cell_of_row _ _ 0 _ 96 (0, 0) hx0).trans rfl
  have d1 : w0.cell? ⟨g, 1, none⟩ = some (.string q.g.text) := (cell_of_row _ _ 1 _ 96 (0, 0) hx0).trans rfl
  have d2 : w0.cell? ⟨g, 2, none⟩ = some (.int .i64 q.g.addr) := (cell_of_row _ _ 2 _ 96 (0, 0) hx0).trans rfl
  have d3 : w0.cell? ⟨g, 3, none⟩ = some (.int .i64 q.g.bits) := (cell_of_row _ _ 3 _ 96 (0, 0) hx0).trans rfl
  have d4 : w0.cell? ⟨g, 4, none⟩ = some (.slice qa qn qc) := (cell_of_row _ _ 4 _ 96 (0, 0) hx0).trans rfl
  have HC : Hid (Calls Tryz.prog 104 #[.agg #[.int .i64 q.g.kind, .string q.g.text, .int .i64 q.g.addr, .int .i64 q.g.bits, .slice qa qn qc], .agg #[.int .i64 y.g.kind, .string y.g.text, .int .i64 y.g.addr, .int .i64 y.g.bits, .slice an nn cn]] w0 (SaysB (wn q y) w0)) := implWithin_any q.g qa qn qc q.parts y.g an nn cn y.parts w0 (hm.kept hb0) (hq.kept hb0) hqz.2 hqz.1 (hy.kept hb0) hyz.2 hyz.1
  have HB : Hid (Below w.heap.size w w0) := hb0
  clear hx hx0 hy0 hb0 hq hy hm
  go_enter Tryz.func103, Tryz.ntmps103
  go_upto_region 1 with fail
  rw [← hw0]
  clear hw0
  go_wp2_with fail
  refine HC.out.mono ?_
  rintro e w1 ⟨v, rfl, hv, hb1⟩
  have HV : Hid _ := hv
  have B1 : Hid (Below w.heap.size w w1) := HB.out.trans (hb1.mono HB.out.size)
  clear hv hb1 e0 e1 e2 e3 e4 d0 d1 d2 d3 d4
  go_wp2
  go_ret
  exact ⟨v, rfl, HV, B1.out⟩

set_option maxRecDepth 10000 in
set_option maxHeartbeats 1000000 in
theorem cl_kind_any (q : GE) (qa : Option Addr) (qn qc : Nat) (an : Option Addr) (nn cn : Nat) (y : GE) (g : Nat) (w : World) (hx : w.heap[g]? = some (.cells #[.int .i64 q.g.kind, .string q.g.text, .int .i64 q.g.addr, .int .i64 q.g.bits, .slice qa qn qc] 96 (0, 0))) :
    Calls Tryz.prog 105 #[.agg #[.int .i64 y.g.kind, .string y.g.text, .int .i64 y.g.addr, .int .i64 y.g.bits, .slice an nn cn], .pointer (some ⟨g, 0, none⟩)] w (SaysB (y.g.kind = q.g.kind) w) := by
  have hg : g < w.heap.size := (Array.getElem?_eq_some_iff.1 hx).1
  obtain ⟨w0, hw0⟩ : ∃ w0, w0 = w.alloc (.cells #[.int .i64 y.g.kind, .string y.g.text, .int .i64 y.g.addr, .int .i64 y.g.bits, .slice an nn cn] 96) := ⟨_, rfl⟩
  have hb0 : Below w.heap.size w w0 := by rw [hw0]; exact (Below.refl _ _).alloc (Nat.le_refl _) _
  have hy0 : w0.heap[w.heap.size]? = some (.cells #[.int .i64 y.g.kind, .string y.g.text, .int .i64 y.g.addr, .int .i64 y.g.bits, .slice an nn cn] 96 (0, 0)) := by rw [hw0]; exact heap_alloc_new w _
  have hx0 := (hb0.block _ hg).trans hx
  have e0 : w0.cell? ⟨w.heap.size, 0, none⟩ = some (.int .i64 y.g.kind) := (cell_of_row _ _ 0 _ 96 (0, 0) hy0).trans rfl
  have d0 : w0.cell? ⟨g, 0, none⟩ = some (.int .i64 q.g.kind) := (cell_of_row _ _ 0 _ 96 (0, 0) hx0).trans rfl
  have HB : Hid (Below w.heap.size w w0) := hb0
  clear hx hx0 hy0 hb0
  by_cases h : y.g.kind = q.g.kind
  · have he : (y.g.kind == q.g.kind) = true := by simp [h]
    have HH : Hid (y.g.kind = q.g.kind) := h
    clear h
    go_enter Tryz.func105, Tryz.ntmps105
    go_upto_region 1 with fail
    rw [← hw0]
    clear hw0
    go_wp2
    go_ret
    exact saysB_t HH.out HB.out
  · have he : (y.g.kind == q.g.kind) = false := by simp [h]
    have HH : Hid (¬ y.g.kind = q.g.kind) := h
    clear h
    go_enter Tryz.func105, Tryz.ntmps105
    go_upto_region 1 with fail
    rw [← hw0]
    clear hw0
    go_wp2
    go_ret
    exact saysB_f HH.out HB.out

set_option maxRecDepth 10000 in
set_option maxHeartbeats 2000000 in
theorem index_within (p : GE → Prop) (g : Nat) (a : Option Addr) (n c : Nat) (xs : List GE) (w : World) (h : Ges w a n xs) (hz : ∀ k, k < n → GeOk (xs.getD k default)) (hc : ∀ (W : World) (an : Option Addr) (nn cn : Nat) (y : GE), Below w.heap.size w W → Pts W an nn y.parts → (y.g.text.size ≤ 1048576 ∧ ∀ k, k < nn → (y.parts.getD k default).val.size ≤ 1048576) → Calls Tryz.prog 103 #[.agg #[.int .i64 y.g.kind, .string y.g.text, .int .i64 y.g.addr, .int .i64 y.g.bits, .slice an nn cn], .pointer (some ⟨g, 0, none⟩)] W (SaysB (p y) W)) :
    Calls Tryz.prog 137 #[.slice a n c, .func (Fn.func 103) #[] #[.pointer (some ⟨g, 0, none⟩)]] w fun e w' => ∃ r : Int, e = .returned (.int .i64 r) ∧ Hid (0 ≤ r ↔ ∃ k, k < n ∧ p (xs.getD k default)) ∧ Below w.heap.size w w' := by
  have H0 : Hid (Ges w a n xs) := h
  have HZ : Hid (∀ k, k < n → GeOk (xs.getD k default)) := hz
  have HCC : Hid (_) := hc
  have hn := h.max
  clear h hz hc
  go_enter Tryz.func137, Tryz.ntmps137
  go_wp2
  go_loopw [8] (fun i wr => ∃ k : Nat, k ≤ n ∧ i = .int .i64 k ∧ Hid (∀ j, j < k → ¬ p (xs.getD j default)) ∧ Below w.heap.size w wr) (fun i _ => n - (intOf i).toNat)
  case atStart => exact ⟨0, Nat.zero_le _, rfl, fun k hk => absurd hk (Nat.not_lt_zero _), Below.refl _ _⟩
  case round =>
    obtain ⟨k, hk, rfl, HN, hbr⟩ := hrel
    by_cases hkn : k < n
    · obtain ⟨b, off, an, nn, cn, rfl, hlb, hcc, hp, _⟩ := H0.out.get k hkn
      have hgp := HZ.out k hkn
      obtain ⟨y, hy⟩ : ∃ y, y = xs.getD k default := ⟨_, rfl⟩
      rw [← hy] at hcc hp hgp
      have HY : Hid (y = xs.getD k default) := hy
      obtain ⟨c0, c1, c2, c3, c4⟩ := hcc.of (w' := wr) (fun i => hbr.cell (p := ⟨b, i, none⟩) hlb)
      have HP : Hid (Pts wr an nn y.parts) := hp.kept hbr
      have HS : Hid (y.g.text.size ≤ 1048576 ∧ ∀ k, k < nn → (y.parts.getD k default).val.size ≤ 1048576) := ⟨hgp.1, by rw [← hp.len]; exact hgp.2.2⟩
      have hkni : (k : Int) < (n : Int) := by omega
      clear hcc hy hp hgp
      go_wp2_with fail
      refine (HCC.out _ an nn cn y hbr HP.out HS.out).mono ?_
      rintro e w2 ⟨v, rfl, hv, hb2⟩
      have B2 : Below w.heap.size w w2 := hbr.trans (hb2.mono hbr.size)
      have HV : Hid _ := hv
      clear hb2 hv
      cases v with
      | true =>
        have HT : Hid (0 ≤ (k : Int) ↔ ∃ k, k < n ∧ p (xs.getD k default)) := ⟨fun _ => ⟨k, hkn, by rw [← HY.out]; exact HV.out.1 rfl⟩, fun _ => by omega⟩
        go_wp2
        go_ret
        exact ⟨_, rfl, HT, B2⟩
      | false =>
        have HN2 : Hid (∀ j, j < k + 1 → ¬ p (xs.getD j default)) := fun j hj => by
          by_cases e : j < k
          · exact HN.out j e
          · obtain rfl : j = k := by omega
            rw [← HY.out]; exact fun q => by have := HV.out.2 q; cases this
        go_wp2
        go_roundw
        case rel => exact ⟨k + 1, by omega, by go_num, HN2, B2⟩
        case measure => simp [intOf]; omega
    · obtain rfl : k = n := by omega
      have HT : Hid (0 ≤ (-1 : Int) ↔ ∃ j, j < k ∧ p (xs.getD j default)) := ⟨fun h => absurd h (by decide), fun ⟨j, hj, hp⟩ => absurd hp (HN.out j hj)⟩
      go_wp2
      go_ret
      exact ⟨_, rfl, HT, hbr⟩

set_option maxRecDepth 10000 in
set_option maxHeartbeats 1000000 in
theorem contains_within (p : GE → Prop) (g : Nat) (a : Option Addr) (n c : Nat) (xs : List GE) (w : World) (h : Ges w a n xs) (hz : ∀ k, k < n → GeOk (xs.getD k default)) (hc : ∀ (W : World) (an : Option Addr) (nn cn : Nat) (y : GE), Below w.heap.size w W → Pts W an nn y.parts → (y.g.text.size ≤ 1048576 ∧ ∀ k, k < nn → (y.parts.getD k default).val.size ≤ 1048576) → Calls Tryz.prog 103 #[.agg #[.int .i64 y.g.kind, .string y.g.text, .int .i64 y.g.addr, .int .i64 y.g.bits, .slice an nn cn], .pointer (some ⟨g, 0, none⟩)] W (SaysB (p y) W)) :
    Calls Tryz.prog 102 #[.slice a n c, .func (Fn.func 103) #[] #[.pointer (some ⟨g, 0, none⟩)]] w (SaysB (∃ k, k < n ∧ p (xs.getD k default)) w) := by
  have IDX := index_within p g a n c xs w h hz hc
  have HI : Hid (_) := IDX
  clear IDX hc
  go_enter Tryz.func102, Tryz.ntmps102
  go_wp2_with fail
  refine Calls.mono HI.out ?_
  rintro e w2 ⟨r, rfl, hr, hb2⟩
  have HR : Hid (decide (0 ≤ r) = true ↔ ∃ k, k < n ∧ p (xs.getD k default)) := ⟨fun e => hr.out.1 (of_decide_eq_true e), fun q => decide_eq_true (hr.out.2 q)⟩
  clear hr
  go_wp2
  go_ret
  exact ⟨decide (0 ≤ r), rfl, HR, hb2⟩

set_option maxRecDepth 10000 in
set_option maxHeartbeats 2000000 in
theorem index_kind (p : GE → Prop) (g : Nat) (a : Option Addr) (n c : Nat) (xs : List GE) (w : World) (h : Ges w a n xs) (hz : ∀ k, k < n → GeOk (xs.getD k default)) (hc : ∀ (W : World) (an : Option Addr) (nn cn : Nat) (y : GE), Below w.heap.size w W → Pts W an nn y.parts → (y.g.text.size ≤ 1048576 ∧ ∀ k, k < nn → (y.parts.getD k default).val.size ≤ 1048576) → Calls Tryz.prog 105 #[.agg #[.int .i64 y.g.kind, .string y.g.text, .int .i64 y.g.addr, .int .i64 y.g.bits, .slice an nn cn], .pointer (some ⟨g, 0, none⟩)] W (SaysB (p y) W)) :
    Calls Tryz.prog 137 #[.slice a n c, .func (Fn.func 105) #[] #[.pointer (some ⟨g, 0, none⟩)]] w fun e w' => ∃ r : Int, e = .returned (.int .i64 r) ∧ Hid (0 ≤ r ↔ ∃ k, k < n ∧ p (xs.getD k default)) ∧ Below w.heap.size w w' := by
  have H0 : Hid (Ges w a n xs) := h
  have HZ : Hid (∀ k, k < n → GeOk (xs.getD k default)) := hz
  have HCC : Hid (_) := hc
  have hn := h.max
  clear h hz hc
  go_enter Tryz.func137, Tryz.ntmps137
  go_wp2
  go_loopw [8] (fun i wr => ∃ k : Nat, k ≤ n ∧ i = .int .i64 k ∧ Hid (∀ j, j < k → ¬ p (xs.getD j default)) ∧ Below w.heap.size w wr) (fun i _ => n - (intOf i).toNat)
  case atStart => exact ⟨0, Nat.zero_le _, rfl, fun k hk => absurd hk (Nat.not_lt_zero _), Below.refl _ _⟩
  case round =>
    obtain ⟨k, hk, rfl, HN, hbr⟩ := hrel
    by_cases hkn : k < n
    · obtain ⟨b, off, an, nn, cn, rfl, hlb, hcc, hp, _⟩ := H0.out.get k hkn
      have hgp := HZ.out k hkn
      obtain ⟨y, hy⟩ : ∃ y, y = xs.getD k default := ⟨_, rfl⟩
      rw [← hy] at hcc hp hgp
      have HY : Hid (y = xs.getD k default) := hy
      obtain ⟨c0, c1, c2, c3, c4⟩ := hcc.of (w' := wr) (fun i => hbr.cell (p := ⟨b, i, none⟩) hlb)
      have HP : Hid (Pts wr an nn y.parts) := hp.kept hbr
      have HS : Hid (y.g.text.size ≤ 1048576 ∧ ∀ k, k < nn → (y.parts.getD k default).val.size ≤ 1048576) := ⟨hgp.1, by rw [← hp.len]; exact hgp.2.2⟩
      have hkni : (k : Int) < (n : Int) := by omega
      clear hcc hy hp hgp
      go_wp2_with fail
      refine (HCC.out _ an nn cn y hbr HP.out HS.out).mono ?_
      rintro e w2 ⟨v, rfl, hv, hb2⟩
      have B2 : Below w.heap.size w w2 := hbr.trans (hb2.mono hbr.size)
      have HV : Hid _ := hv
      clear hb2 hv
      cases v with
      | true =>
        have HT : Hid (0 ≤ (k : Int) ↔ ∃ k, k < n ∧ p (xs.getD k default)) := ⟨fun _ => ⟨k, hkn, by rw [← HY.out]; exact HV.out.1 rfl⟩, fun _ => by omega⟩
        go_wp2
        go_ret
        exact ⟨_, rfl, HT, B2⟩
      | false =>
        have HN2 : Hid (∀ j, j < k + 1 → ¬ p (xs.getD j default)) := fun j hj => by
          by_cases e : j < k
          · exact HN.out j e
          · obtain rfl : j = k := by omega
            rw [← HY.out]; exact fun q => by have := HV.out.2 q; cases this
        go_wp2
        go_roundw
        case rel => exact ⟨k + 1, by omega, by go_num, HN2, B2⟩
        case measure => simp [intOf]; omega
    · obtain rfl : k = n := by omega
      have HT : Hid (0 ≤ (-1 : Int) ↔ ∃ j, j < k ∧ p (xs.getD j default)) := ⟨fun h => absurd h (by decide), fun ⟨j, hj, hp⟩ => absurd hp (HN.out j hj)⟩
      go_wp2
      go_ret
      exact ⟨_, rfl, HT, hbr⟩

set_option maxRecDepth 10000 in
set_option maxHeartbeats 1000000 in
theorem contains_kind (p : GE → Prop) (g : Nat) (a : Option Addr) (n c : Nat) (xs : List GE) (w : World) (h : Ges w a n xs) (hz : ∀ k, k < n → GeOk (xs.getD k default)) (hc : ∀ (W : World) (an : Option Addr) (nn cn : Nat) (y : GE), Below w.heap.size w W → Pts W an nn y.parts → (y.g.text.size ≤ 1048576 ∧ ∀ k, k < nn → (y.parts.getD k default).val.size ≤ 1048576) → Calls Tryz.prog 105 #[.agg #[.int .i64 y.g.kind, .string y.g.text, .int .i64 y.g.addr, .int .i64 y.g.bits, .slice an nn cn], .pointer (some ⟨g, 0, none⟩)] W (SaysB (p y) W)) :
    Calls Tryz.prog 102 #[.slice a n c, .func (Fn.func 105) #[] #[.pointer (some ⟨g, 0, none⟩)]] w (SaysB (∃ k, k < n ∧ p (xs.getD k default)) w) := by
  have IDX := index_kind p g a n c xs w h hz hc
  have HI : Hid (_) := IDX
  clear IDX hc
  go_enter Tryz.func102, Tryz.ntmps102
  go_wp2_with fail
  refine Calls.mono HI.out ?_
  rintro e w2 ⟨r, rfl, hr, hb2⟩
  have HR : Hid (decide (0 ≤ r) = true ↔ ∃ k, k < n ∧ p (xs.getD k default)) := ⟨fun e => hr.out.1 (of_decide_eq_true e), fun q => decide_eq_true (hr.out.2 q)⟩
  clear hr
  go_wp2
  go_ret
  exact ⟨decide (0 ≤ r), rfl, HR, hb2⟩

set_option maxRecDepth 10000 in
set_option maxHeartbeats 1000000 in
theorem withinOne_any (q : GE) (qa : Option Addr) (qn qc : Nat) (a : Option Addr) (n c : Nat) (xs : List GE) (w : World) (hm : MaxW w) (hq : Pts w qa qn q.parts) (hqz : q.g.text.size ≤ 1048576 ∧ ∀ k, k < qn → (q.parts.getD k default).val.size ≤ 1048576) (h : Ges w a n xs) (hz : ∀ k, k < n → GeOk (xs.getD k default)) :
    Calls Tryz.prog 60 #[.agg #[.int .i64 q.g.kind, .string q.g.text, .int .i64 q.g.addr, .int .i64 q.g.bits, .slice qa qn qc], .slice a n c] w (SaysB (inOne q xs n) w) := by
  obtain ⟨w0, hw0⟩ : ∃ w0, w0 = w.alloc (.cells #[.int .i64 q.g.kind, .string q.g.text, .int .i64 q.g.addr, .int .i64 q.g.bits, .slice qa qn qc] 96) := ⟨_, rfl⟩
  have hb0 : Below w.heap.size w w0 := by rw [hw0]; exact (Below.refl _ _).alloc (Nat.le_refl _) _
  have hx0 : w0.heap[w.heap.size]? = some (.cells #[.int .i64 q.g.kind, .string q.g.text, .int .i64 q.g.addr, .int .i64 q.g.bits, .slice qa qn qc] 96 (0, 0)) := by rw [hw0]; exact heap_alloc_new w _
  have CON : Hid (Calls Tryz.prog 102 #[.slice a n c, .func (Fn.func 103) #[] #[.pointer (some ⟨w.heap.size, 0, none⟩)]] w0 (SaysB (inOne q xs n) w0)) := contains_within (wn q) w.heap.size a n c xs w0 (h.kept hb0) hz (fun W an nn cn y hW hy hyz => cl_within_any q qa qn qc an nn cn y w.heap.size W ((hm.kept hb0).kept hW) ((hW.block _ (Array.getElem?_eq_some_iff.1 hx0).1).trans hx0) ((hq.kept hb0).kept hW) hqz hy hyz)
  have HB : Hid (Below w.heap.size w w0) := hb0
  clear hx0 hb0 hq h hm hz
  go_enter Tryz.func60, Tryz.ntmps60
  go_upto_region 1 with fail
  rw [← hw0]
  clear hw0
  go_wp2_with fail
  refine CON.out.mono ?_
  rintro e w1 ⟨v, rfl, hv, hb1⟩
  have HV : Hid _ := hv
  have B1 : Hid (Below w.heap.size w w1) := HB.out.trans (hb1.mono HB.out.size)
  clear hv hb1
  go_wp2
  go_ret
  exact ⟨v, rfl, HV, B1.out⟩

set_option maxRecDepth 10000 in
set_option maxHeartbeats 1000000 in
theorem permits_any (q : GE) (qa : Option Addr) (qn qc : Nat) (a : Option Addr) (n c : Nat) (xs : List GE) (w : World) (hm : MaxW w) (hq : Pts w qa qn q.parts) (hqz : q.g.text.size ≤ 1048576 ∧ ∀ k, k < qn → (q.parts.getD k default).val.size ≤ 1048576) (h : Ges w a n xs) (hz : ∀ k, k < n → GeOk (xs.getD k default)) :
    Calls Tryz.prog 61 #[.slice a n c, .agg #[.int .i64 q.g.kind, .string q.g.text, .int .i64 q.g.addr, .int .i64 q.g.bits, .slice qa qn qc]] w (SaysB (permP q xs n) w) := by
  obtain ⟨w0, hw0⟩ : ∃ w0, w0 = w.alloc (.cells #[.int .i64 q.g.kind, .string q.g.text, .int .i64 q.g.addr, .int .i64 q.g.bits, .slice qa qn qc] 96) := ⟨_, rfl⟩
  have hb0 : Below w.heap.size w w0 := by rw [hw0]; exact (Below.refl _ _).alloc (Nat.le_refl _) _
  have hx0 : w0.heap[w.heap.size]? = some (.cells #[.int .i64 q.g.kind, .string q.g.text, .int .i64 q.g.addr, .int .i64 q.g.bits, .slice qa qn qc] 96 (0, 0)) := by rw [hw0]; exact heap_alloc_new w _
  have X0 : Hid (w0.heap[w.heap.size]? = some (.cells #[.int .i64 q.g.kind, .string q.g.text, .int .i64 q.g.addr, .int .i64 q.g.bits, .slice qa qn qc] 96 (0, 0))) := hx0
  have CON : Hid (Calls Tryz.prog 102 #[.slice a n c, .func (Fn.func 105) #[] #[.pointer (some ⟨w.heap.size, 0, none⟩)]] w0 (SaysB (kindOne q xs n) w0)) := contains_kind (fun y => y.g.kind = q.g.kind) w.heap.size a n c xs w0 (h.kept hb0) hz (fun W an nn cn y hW hy hyz => cl_kind_any q qa qn qc an nn cn y w.heap.size W ((hW.block _ (Array.getElem?_eq_some_iff.1 hx0).1).trans hx0))
  have WON : Hid (∀ W, Below w.heap.size w W → Calls Tryz.prog 60 #[.agg #[.int .i64 q.g.kind, .string q.g.text, .int .i64 q.g.addr, .int .i64 q.g.bits, .slice qa qn qc], .slice a n c] W (SaysB (inOne q xs n) W)) := fun W hW => withinOne_any q qa qn qc a n c xs W (hm.kept hW) (hq.kept hW) hqz (h.kept hW) hz
  have HB : Hid (Below w.heap.size w w0) := hb0
  clear hx0 hb0 hq h hm hz
  go_enter Tryz.func61, Tryz.ntmps61
  go_upto_region 1 with fail
  rw [← hw0]
  clear hw0
  go_wp2_with fail
  refine CON.out.mono ?_
  rintro e w1 ⟨v, rfl, hv, hb1⟩
  have HV : Hid _ := hv
  have B1 : Hid (Below w.heap.size w w1) := HB.out.trans (hb1.mono HB.out.size)
  have X1 : Hid (w1.heap[w.heap.size]? = some (.cells #[.int .i64 q.g.kind, .string q.g.text, .int .i64 q.g.addr, .int .i64 q.g.bits, .slice qa qn qc] 96 (0, 0))) := (hb1.block _ (Array.getElem?_eq_some_iff.1 X0.out).1).trans X0.out
  clear hv hb1 X0
  rcases v with _ | _
  · have HT : Hid (permP q xs n) := .inl (fun q => by have := HV.out.2 q; cases this)
    go_wp2
    go_ret
    exact saysB_t HT.out B1.out
  have HKO : Hid (kindOne q xs n) := HV.out.1 rfl
  clear HV
  have d0 : w1.cell? ⟨w.heap.size, 0, none⟩ = some (.int .i64 q.g.kind) := (cell_of_row _ _ 0 _ 96 (0, 0) X1.out).trans rfl
  have d1 : w1.cell? ⟨w.heap.size, 1, none⟩ = some (.string q.g.text) := (cell_of_row _ _ 1 _ 96 (0, 0) X1.out).trans rfl
  have d2 : w1.cell? ⟨w.heap.size, 2, none⟩ = some (.int .i64 q.g.addr) := (cell_of_row _ _ 2 _ 96 (0, 0) X1.out).trans rfl
  have d3 : w1.cell? ⟨w.heap.size, 3, none⟩ = some (.int .i64 q.g.bits) := (cell_of_row _ _ 3 _ 96 (0, 0) X1.out).trans rfl
  have d4 : w1.cell? ⟨w.heap.size, 4, none⟩ = some (.slice qa qn qc) := (cell_of_row _ _ 4 _ 96 (0, 0) X1.out).trans rfl
  go_wp2_with fail
  refine (WON.out _ B1.out).mono ?_
  rintro e w2 ⟨v2, rfl, hv2, hb2⟩
  have HV : Hid (v2 = true ↔ permP q xs n) := ⟨fun e => .inr (hv2.out.1 e), fun q => hv2.out.2 (q.resolve_left (fun z => z HKO.out))⟩
  have B2 : Hid (Below w.heap.size w w2) := B1.out.trans (hb2.mono B1.out.size)
  clear hv2 hb2 d0 d1 d2 d3 d4
  go_wp2
  go_ret
  exact ⟨v2, rfl, HV, B2.out⟩

set_option maxRecDepth 10000 in
set_option maxHeartbeats 1000000 in
theorem cl_fit_any (q : GE) (qa : Option Addr) (qn qc : Nat) (a1 : Option Addr) (n1 c1 : Nat) (per : List GE) (a2 : Option Addr) (n2 c2 : Nat) (den : List GE) (g1 g2 : Nat) (w : World) (hm : MaxW w) (hx1 : w.heap[g1]? = some (.cells #[.slice a2 n2 c2] 41 (0, 0))) (hx2 : w.heap[g2]? = some (.cells #[.slice a1 n1 c1] 41 (0, 0))) (hq : Pts w qa qn q.parts) (hqz : q.g.text.size ≤ 1048576 ∧ ∀ k, k < qn → (q.parts.getD k default).val.size ≤ 1048576) (h1 : Ges w a1 n1 per) (hz1 : ∀ k, k < n1 → GeOk (per.getD k default)) (h2 : Ges w a2 n2 den) (hz2 : ∀ k, k < n2 → GeOk (den.getD k default)) :
    Calls Tryz.prog 59 #[.agg #[.int .i64 q.g.kind, .string q.g.text, .int .i64 q.g.addr, .int .i64 q.g.bits, .slice qa qn qc], .pointer (some ⟨g1, 0, none⟩), .pointer (some ⟨g2, 0, none⟩)] w (SaysB (fitP per n1 den n2 q) w) := by
  have hg1 : g1 < w.heap.size := (Array.getElem?_eq_some_iff.1 hx1).1
  have hg2 : g2 < w.heap.size := (Array.getElem?_eq_some_iff.1 hx2).1
  obtain ⟨w0, hw0⟩ : ∃ w0, w0 = w.alloc (.cells #[.int .i64 q.g.kind, .string q.g.text, .int .i64 q.g.addr, .int .i64 q.g.bits, .slice qa qn qc] 96) := ⟨_, rfl⟩
  have hb0 : Below w.heap.size w w0 := by rw [hw0]; exact (Below.refl _ _).alloc (Nat.le_refl _) _
  have X0 : Hid (w0.heap[w.heap.size]? = some (.cells #[.int .i64 q.g.kind, .string q.g.text, .int .i64 q.g.addr, .int .i64 q.g.bits, .slice qa qn qc] 96 (0, 0))) := by show _ = _; rw [hw0]; exact heap_alloc_new w _
  have WON : Hid (∀ W, Below w.heap.size w W → Calls Tryz.prog 60 #[.agg #[.int .i64 q.g.kind, .string q.g.text, .int .i64 q.g.addr, .int .i64 q.g.bits, .slice qa qn qc], .slice a2 n2 c2] W (SaysB (inOne q den n2) W)) := fun W hW => withinOne_any q qa qn qc a2 n2 c2 den W (hm.kept hW) (hq.kept hW) hqz (h2.kept hW) hz2
  have PER : Hid (∀ W, Below w.heap.size w W → Calls Tryz.prog 61 #[.slice a1 n1 c1, .agg #[.int .i64 q.g.kind, .string q.g.text, .int .i64 q.g.addr, .int .i64 q.g.bits, .slice qa qn qc]] W (SaysB (permP q per n1) W)) := fun W hW => permits_any q qa qn qc a1 n1 c1 per W (hm.kept hW) (hq.kept hW) hqz (h1.kept hW) hz1
  have G1 : Hid (∀ W, Below w.heap.size w W → W.cell? ⟨g1, 0, none⟩ = some (.slice a2 n2 c2)) := fun W hW => (cell_of_row _ _ 0 _ _ (0, 0) ((hW.block _ hg1).trans hx1)).trans rfl
  have G2 : Hid (∀ W, Below w.heap.size w W → W.cell? ⟨g2, 0, none⟩ = some (.slice a1 n1 c1)) := fun W hW => (cell_of_row _ _ 0 _ _ (0, 0) ((hW.block _ hg2).trans hx2)).trans rfl
  have HB : Hid (Below w.heap.size w w0) := hb0
  have k1 := G1.out _ hb0
  have d0 : w0.cell? ⟨w.heap.size, 0, none⟩ = some (.int .i64 q.g.kind) := (cell_of_row _ _ 0 _ 96 (0, 0) X0.out).trans rfl
  have d1 : w0.cell? ⟨w.heap.size, 1, none⟩ = some (.string q.g.text) := (cell_of_row _ _ 1 _ 96 (0, 0) X0.out).trans rfl
  have d2 : w0.cell? ⟨w.heap.size, 2, none⟩ = some (.int .i64 q.g.addr) := (cell_of_row _ _ 2 _ 96 (0, 0) X0.out).trans rfl
  have d3 : w0.cell? ⟨w.heap.size, 3, none⟩ = some (.int .i64 q.g.bits) := (cell_of_row _ _ 3 _ 96 (0, 0) X0.out).trans rfl
  have d4 : w0.cell? ⟨w.heap.size, 4, none⟩ = some (.slice qa qn qc) := (cell_of_row _ _ 4 _ 96 (0, 0) X0.out).trans rfl
  clear hx1 hx2 hb0 hq h1 h2 hm hz1 hz2
  go_enter Tryz.func59, Tryz.ntmps59
  go_upto_region 1 with fail
  rw [← hw0]
  clear hw0
  go_wp2_with fail
  refine (WON.out _ HB.out).mono ?_
  rintro e w1 ⟨v, rfl, hv, hb1⟩
  have HV : Hid _ := hv
  have B1 : Hid (Below w.heap.size w w1) := HB.out.trans (hb1.mono HB.out.size)
  have X1 : Hid (w1.heap[w.heap.size]? = some (.cells #[.int .i64 q.g.kind, .string q.g.text, .int .i64 q.g.addr, .int .i64 q.g.bits, .slice qa qn qc] 96 (0, 0))) := (hb1.block _ (Array.getElem?_eq_some_iff.1 X0.out).1).trans X0.out
  clear hv hb1 X0 k1 d0 d1 d2 d3 d4
  rcases v with _ | _
  case true =>
    have HT : Hid (¬ fitP per n1 den n2 q) := fun z => z.1 (HV.out.1 rfl)
    go_wp2
    go_ret
    exact saysB_f HT.out B1.out
  have HNI : Hid (¬ inOne q den n2) := fun z => by have := HV.out.2 z; cases this
  clear HV
  have k2 := G2.out _ B1.out
  have d0 : w1.cell? ⟨w.heap.size, 0, none⟩ = some (.int .i64 q.g.kind) := (cell_of_row _ _ 0 _ 96 (0, 0) X1.out).trans rfl
  have d1 : w1.cell? ⟨w.heap.size, 1, none⟩ = some (.string q.g.text) := (cell_of_row _ _ 1 _ 96 (0, 0) X1.out).trans rfl
  have d2 : w1.cell? ⟨w.heap.size, 2, none⟩ = some (.int .i64 q.g.addr) := (cell_of_row _ _ 2 _ 96 (0, 0) X1.out).trans rfl
  have d3 : w1.cell? ⟨w.heap.size, 3, none⟩ = some (.int .i64 q.g.bits) := (cell_of_row _ _ 3 _ 96 (0, 0) X1.out).trans rfl
  have d4 : w1.cell? ⟨w.heap.size, 4, none⟩ = some (.slice qa qn qc) := (cell_of_row _ _ 4 _ 96 (0, 0) X1.out).trans rfl
  go_wp2_with fail
  refine (PER.out _ B1.out).mono ?_
  rintro e w2 ⟨v2, rfl, hv2, hb2⟩
  have HV : Hid (v2 = true ↔ fitP per n1 den n2 q) := ⟨fun e => ⟨HNI.out, hv2.out.1 e⟩, fun z => hv2.out.2 z.2⟩
  have B2 : Hid (Below w.heap.size w w2) := B1.out.trans (hb2.mono B1.out.size)
  clear hv2 hb2 d0 d1 d2 d3 d4 k2
  go_wp2
  go_ret
  exact ⟨v2, rfl, HV, B2.out⟩

set_option maxRecDepth 10000 in
set_option maxHeartbeats 2000000 in
theorem every_fit (p : GE → Prop) (g1 g2 : Nat) (a : Option Addr) (n c : Nat) (xs : List GE) (w : World) (h : Ges w a n xs) (hz : ∀ k, k < n → GeOk (xs.getD k default)) (hc : ∀ (W : World) (an : Option Addr) (nn cn : Nat) (y : GE), Below w.heap.size w W → Pts W an nn y.parts → (y.g.text.size ≤ 1048576 ∧ ∀ k, k < nn → (y.parts.getD k default).val.size ≤ 1048576) → Calls Tryz.prog 59 #[.agg #[.int .i64 y.g.kind, .string y.g.text, .int .i64 y.g.addr, .int .i64 y.g.bits, .slice an nn cn], .pointer (some ⟨g1, 0, none⟩), .pointer (some ⟨g2, 0, none⟩)] W (SaysB (p y) W)) :
    Calls Tryz.prog 56 #[.slice a n c, .func (Fn.func 59) #[] #[.pointer (some ⟨g1, 0, none⟩), .pointer (some ⟨g2, 0, none⟩)]] w (SaysB (∀ k, k < n → p (xs.getD k default)) w) := by
  have H0 : Hid (Ges w a n xs) := h
  have HCC : Hid (_) := hc
  have HZ : Hid (∀ k, k < n → GeOk (xs.getD k default)) := hz
  have hn := h.max
  clear h hz hc
  go_enter Tryz.func56, Tryz.ntmps56
  go_wp2
  go_loopw [9] (fun i wr => ∃ k : Nat, k ≤ n ∧ i = .int .i64 k ∧ Hid (∀ j, j < k → p (xs.getD j default)) ∧ Below w.heap.size w wr) (fun i _ => n - (intOf i).toNat)
  case atStart => exact ⟨0, Nat.zero_le _, rfl, fun k hk => absurd hk (Nat.not_lt_zero _), Below.refl _ _⟩
  case round =>
    obtain ⟨k, hk, rfl, HE, hbr⟩ := hrel
    have hws := hbr.size
    by_cases hkn : k < n
    · obtain ⟨b, off, an, nn, cn, rfl, hlb, hc, hp, _⟩ := H0.out.get k hkn
      have hgp := HZ.out k hkn
      obtain ⟨y, hy⟩ : ∃ y, y = xs.getD k default := ⟨_, rfl⟩
      rw [← hy] at hc hp hgp
      have HY : Hid (y = xs.getD k default) := hy
      obtain ⟨c0, c1, c2, c3, c4⟩ := hc.of (w' := wr) (fun i => hbr.cell (p := ⟨b, i, none⟩) hlb)
      have hbz : Below wr.heap.size wr (wr.alloc (.cells #[.int .i64 y.g.kind, .string y.g.text, .int .i64 y.g.addr, .int .i64 y.g.bits, .slice an nn cn] 96)) := (Below.refl _ _).alloc (Nat.le_refl _) _
      have B1 : Hid (Below w.heap.size w (wr.alloc (.cells #[.int .i64 y.g.kind, .string y.g.text, .int .i64 y.g.addr, .int .i64 y.g.bits, .slice an nn cn] 96))) := hbr.trans (hbz.mono hws)
      have HP : Hid (Pts (wr.alloc (.cells #[.int .i64 y.g.kind, .string y.g.text, .int .i64 y.g.addr, .int .i64 y.g.bits, .slice an nn cn] 96)) an nn y.parts) := hp.kept B1.out
      have HS : Hid (y.g.text.size ≤ 1048576 ∧ ∀ k, k < nn → (y.parts.getD k default).val.size ≤ 1048576) := ⟨hgp.1, by rw [← hp.len]; exact hgp.2.2⟩
      have hkni : (k : Int) < (n : Int) := by omega
      have hbw : b < wr.heap.size := by omega
      clear hc hy hp hgp hbz
      go_wp2_with fail
      refine (HCC.out _ an nn cn y B1.out HP.out HS.out).mono ?_
      rintro e w2 ⟨v, rfl, hv, hb2⟩
      have B2 : Below w.heap.size w w2 := B1.out.trans (hb2.mono B1.out.size)
      have HV : Hid _ := hv
      clear hb2 hv
      cases v with
      | false =>
        have HN : Hid (¬ ∀ k, k < n → p (xs.getD k default)) := fun q => by have := q k hkn; rw [← HY.out] at this; have := HV.out.2 this; simp at this
        go_wp2
        go_ret
        exact saysB_f HN.out B2
      | true =>
        have HN : Hid (∀ j, j < k + 1 → p (xs.getD j default)) := fun j hj => by
          by_cases e : j < k
          · exact HE.out j e
          · obtain rfl : j = k := by omega
            rw [← HY.out]; exact HV.out.1 rfl
        go_wp2
        go_roundw
        case rel => exact ⟨k + 1, by omega, by go_num, HN, B2⟩
        case measure => simp [intOf]; omega
    · obtain rfl : k = n := by omega
      go_wp2
      go_ret
      exact saysB_t HE.out hbr

end Go.Proofs.YtkpabanjlhlmfaaGreatDoor

