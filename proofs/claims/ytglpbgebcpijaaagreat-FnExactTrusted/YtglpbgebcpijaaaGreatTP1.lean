import Derived.Test.YtglpbgebcpijaaaGreatTF2
import Derived.Test.YtglpbgebcpijaaaGreatTU0
set_option linter.unusedVariables false
namespace Go.Proofs.YtglpbgebcpijaaaGreat
open Go.RowKit Go.Sort

def SaysG (P : Prop) (w : World) (e : Ending) (w' : World) : Prop := ∃ b, e = .returned (.bool b) ∧ Hid (b = true ↔ P) ∧ Below w.heap.size w w'
theorem saysG_t {P : Prop} {w w' : World} (h : P) (hb : Below w.heap.size w w') : SaysG P w (.returned (.bool true)) w' := ⟨true, rfl, ⟨fun _ => h, fun _ => rfl⟩, hb⟩
theorem saysG_f {P : Prop} {w w' : World} (h : ¬ P) (hb : Below w.heap.size w w') : SaysG P w (.returned (.bool false)) w' := ⟨false, rfl, ⟨fun e => (by cases e), fun e => absurd e h⟩, hb⟩
def verP (n : Int) : Prop := 1 ≤ n ∧ n ≤ 1099511627776
instance (n : Int) : Decidable (verP n) := by unfold verP; infer_instance
def sigP (s : FsP) : Prop := s.sg.length ≤ 500
def sigsP (ss : List FsP) (n : Nat) : Prop := n ≤ 12 ∧ ∀ k, k < n → sigP (ss.getD k default)
def kidQ (p : Int × Int × Int) : Int := kidN p.1 p.2.1 p.2.2
def roleP (x : RoP) : Prop := (1 ≤ x.ks.length ∧ x.ks.length ≤ 6) ∧ (1 ≤ x.need ∧ x.need ≤ (x.ks.length : Int)) ∧ (∀ k, k < x.ks.length → pubP (x.ks.getD k (0, 0, 0)).1 (x.ks.getD k (0, 0, 0)).2.1 (x.ks.getD k (0, 0, 0)).2.2) ∧ unl (x.ks.map kidQ)
def rootP (x : RfP) : Prop := verP x.v ∧ timP x.e ∧ sigsP x.ss x.ss.length ∧ x.rs.length = 3 ∧ ∀ k, k < 3 → roleP (x.rs.getD k default)
def stampP (x : SfP) : Prop := verP x.v ∧ timP x.e ∧ sigsP x.ss x.ss.length ∧ verP x.lv
def listP (x : LfP) : Prop := verP x.v ∧ timP x.e ∧ sigsP x.ss x.ss.length ∧ x.es.length ≤ 20 ∧ ∀ k, k < x.es.length → timP (x.es.getD k (0, 0)).2

set_option maxRecDepth 10000 in
set_option maxHeartbeats 1000000 in
theorem indexU_any (a : Option Addr) (n c : Nat) (zs : List Int) (x : Int) (w : World) (h : RowU w a n zs) (hn : n ≤ 9223372036854775807) :
    Calls Tryz.prog 138 #[.slice a n c, .int .u64 x] w fun e w' => ∃ i : Int, e = .returned (.int .i64 i) ∧ Hid (0 ≤ i ↔ x ∈ zs) ∧ w' = w := by
  have H0 : Hid (RowU w a n zs) := h
  have HL : Hid (zs.length = n) := h.len
  clear h
  go_enter Tryz.func138, Tryz.ntmps138
  go_wp2
  go_loopw [8] (fun i wr => ∃ k : Nat, k ≤ n ∧ i = .int .i64 k ∧ Hid (x ∉ zs.take k) ∧ w = wr) (fun i _ => n - (intOf i).toNat)
  case atStart => exact ⟨0, Nat.zero_le _, rfl, (by show _ ∉ _; simp), rfl⟩
  case round =>
    obtain ⟨k, hk, rfl, HA, rfl⟩ := hrel
    by_cases hlt : k < n
    · obtain ⟨b, off, rfl, hb, hc⟩ := H0.out.get k hlt
      obtain ⟨z, hz⟩ : ∃ z, z = zs.getD k 0 := ⟨_, rfl⟩
      rw [← hz] at hc
      have HZ : Hid (z = zs.getD k 0) := hz
      have HM : Hid (k < zs.length) := by show _ < _; rw [HL.out]; exact hlt
      have hlti : (k : Int) < (n : Int) := by omega
      clear hz
      by_cases he : x = z
      · have HT : Hid (x ∈ zs) := by show _ ∈ _; rw [he, HZ.out]; exact getD_mem zs k HM.out
        have ze : (x == z) = true := beq_iff_eq.2 he
        clear he
        go_wp2
        go_ret
        exact ⟨_, rfl, ⟨fun _ => HT.out, fun _ => by omega⟩, rfl⟩
      · have HN : Hid (x ∉ zs.take (k + 1)) := by
          show _ ∉ _
          rw [mem_next zs k HM.out]
          rintro (h | h)
          · exact HA.out h
          · exact he (by rw [HZ.out]; exact h)
        have ze : (x == z) = false := beq_false_of_ne he
        clear he HA
        go_wp2
        go_roundw
        case rel => exact ⟨k + 1, by omega, by go_num, HN, by trivial⟩
        case measure => simp [intOf]; omega
    · obtain rfl : k = n := by omega
      have HN : Hid (x ∉ zs) := by show _ ∉ _; have := HA.out; rwa [mem_all zs k (by rw [HL.out]; exact Nat.le_refl _)] at this
      go_wp2
      go_ret
      exact ⟨_, rfl, ⟨fun h => absurd h (by decide), fun h => absurd h HN.out⟩, rfl⟩

set_option maxRecDepth 10000 in
set_option maxHeartbeats 1000000 in
theorem containsU_any (a : Option Addr) (n c : Nat) (zs : List Int) (x : Int) (w : World) (h : RowU w a n zs) (hn : n ≤ 9223372036854775807) :
    Calls Tryz.prog 124 #[.slice a n c, .int .u64 x] w fun e w' => e = .returned (.bool (decide (x ∈ zs))) ∧ w' = w := by
  have H0 : Hid (RowU w a n zs) := h
  clear h
  go_enter Tryz.func124, Tryz.ntmps124
  go_wp2_with fail
  refine (indexU_any a n c zs x _ H0.out hn).mono ?_
  rintro e w1 ⟨i, rfl, hi, rfl⟩
  have HD : Hid (decide (0 ≤ i) = decide (x ∈ zs)) := by show _ = _; exact decide_eq_decide.2 hi.out
  go_wp2
  go_ret
  exact ⟨by rw [← HD.out]; rfl, rfl⟩

set_option maxRecDepth 10000 in
set_option maxHeartbeats 1000000 in
theorem l11Has_any (a : Option Addr) (n c : Nat) (zs : List Int) (x : Int) (w : World) (h : RowU w a n zs) (hn : n ≤ 9223372036854775807) :
    Calls Tryz.prog 90 #[.slice a n c, .int .u64 x] w fun e w' => e = .returned (.bool (decide (x ∈ zs))) ∧ w' = w := by
  have H0 : Hid (RowU w a n zs) := h
  have HL : Hid (zs.length = n) := h.len
  clear h
  go_enter Tryz.func90, Tryz.ntmps90
  go_wp2
  go_loopw [5] (fun i wr => ∃ k : Nat, k ≤ n ∧ i = .int .i64 k ∧ Hid (x ∉ zs.take k) ∧ w = wr) (fun i _ => n - (intOf i).toNat)
  case atStart => exact ⟨0, Nat.zero_le _, rfl, (by show _ ∉ _; simp), rfl⟩
  case round =>
    obtain ⟨k, hk, rfl, HA, rfl⟩ := hrel
    by_cases hlt : k < n
    · obtain ⟨b, off, rfl, hb, hc⟩ := H0.out.get k hlt
      obtain ⟨z, hz⟩ : ∃ z, z = zs.getD k 0 := ⟨_, rfl⟩
      rw [← hz] at hc
      have HZ : Hid (z = zs.getD k 0) := hz
      have HM : Hid (k < zs.length) := by show _ < _; rw [HL.out]; exact hlt
      have hlti : (k : Int) < (n : Int) := by omega
      clear hz
      by_cases he : z = x
      · have HT : Hid (decide (x ∈ zs) = true) := decide_eq_true (by rw [← he, HZ.out]; exact getD_mem zs k HM.out)
        have ze : (z == x) = true := beq_iff_eq.2 he
        clear he
        go_wp2
        go_ret
        exact ⟨by rw [HT.out]; rfl, rfl⟩
      · have HN : Hid (x ∉ zs.take (k + 1)) := by
          show _ ∉ _
          rw [mem_next zs k HM.out]
          rintro (h | h)
          · exact HA.out h
          · exact he (by rw [HZ.out]; exact h.symm)
        have ze : (z == x) = false := beq_false_of_ne he
        clear he HA
        go_wp2
        go_roundw
        case rel => exact ⟨k + 1, by omega, by go_num, HN, by trivial⟩
        case measure => simp [intOf]; omega
    · obtain rfl : k = n := by omega
      have HN : Hid (decide (x ∈ zs) = false) := decide_eq_false (by have := HA.out; rwa [mem_all zs k (by rw [HL.out]; exact Nat.le_refl _)] at this)
      go_wp2
      go_ret
      exact ⟨by rw [HN.out]; rfl, rfl⟩

set_option maxRecDepth 10000 in
set_option maxHeartbeats 2000000 in
theorem allUnlikeU_any (a : Option Addr) (n c : Nat) (zs : List Int) (w : World) (h : RowU w a n zs) (hn : n ≤ c) (hc : c ≤ 9223372036854775807) :
    Calls Tryz.prog 107 #[.slice a n c] w fun e w' => e = .returned (.bool (decide (unl zs))) ∧ w' = w := by
  have H0 : Hid (RowU w a n zs) := h
  have HL : Hid (zs.length = n) := h.len
  clear h
  have HS : Hid (∀ j, n ≤ j → j < n → zs.getD j 0 ∉ zs.take j) := fun j h1 h2 => absurd h1 (by omega)
  go_enter Tryz.func107, Tryz.ntmps107
  go_wp2
  refine wp_scope_jumps 0 (fun a' w' => w = w' ∧ ∃ (k : Nat) (u3 u4 u5 u6 u7 u8 u9 u10 u11 u12 u13 u14 u15 u16 u17 u18 u19 u20 u21 : Value), a' = { tmps := #[.slice a k c, undef, .bool false, u3, u4, u5, u6, u7, u8, u9, u10, u11, u12, u13, u14, u15, u16, u17, u18, u19, u20, u21], defers := [] } ∧ k ≤ n ∧ Hid (∀ j, k ≤ j → j < n → zs.getD j 0 ∉ zs.take j)) (fun a' _ => lenOf (a'.tmps.getD 0 undef)) rfl ?_ ?_
  · by_cases h0 : n = 0
    · have HT : Hid (decide (unl zs) = true) := decide_eq_true (fun j hj => HS.out j (by omega) (by rw [HL.out] at hj; exact hj))
      have z0 : ((n : Int) == 0) = true := by simp [h0]
      clear h0
      go_wp2
      go_step3
      go_wp2
      simp only [Exit.jump]
      go_ret
      exact ⟨by rw [HT.out]; rfl, rfl⟩
    · obtain ⟨m, rfl⟩ : ∃ m, n = m + 1 := ⟨n - 1, by omega⟩
      have z0 : (((m + 1 : Nat) : Int) == 0) = false := by simp; omega
      obtain ⟨b, off, rfl, hb, hcell⟩ := H0.out.get m (by omega)
      obtain ⟨z, hz⟩ : ∃ z, z = zs.getD m 0 := ⟨_, rfl⟩
      rw [← hz] at hcell
      have HZ : Hid (z = zs.getD m 0) := hz
      have e1 : ((m + 1 : Nat) : Int) - 1 = (m : Int) := by omega
      clear hz h0
      go_wp2
      go_step3
      go_wp2_with fail
      refine (containsU_any _ m c (zs.take m) z _ (H0.out.take m (by omega)) (by omega)).mono ?_
      rintro e w1 ⟨rfl, rfl⟩
      by_cases hin : z ∈ zs.take m
      · have HT : Hid (decide (unl zs) = false) := decide_eq_false (fun hu => hu m (by rw [HL.out]; omega) (by rw [← HZ.out]; exact hin))
        rw [decide_eq_true hin]
        clear hin
        go_wp2
        simp only [Exit.jump]
        go_ret
        exact ⟨by rw [HT.out]; rfl, rfl⟩
      · have HN : Hid (∀ j, m ≤ j → j < m + 1 → zs.getD j 0 ∉ zs.take j) := fun j h1 h2 => by
          by_cases e : j = m
          · rw [e, ← HZ.out]; exact hin
          · exact HS.out j (by omega) h2
        rw [decide_eq_false hin]
        clear hin
        go_wp2_with fail
        go_step3
        exact ⟨rfl, rfl, m, _, _, _, _, _, _, _, _, _, _, _, _, _, _, _, _, _, _, _, rfl, by omega, HN⟩
  · rintro a' w' ⟨rfl, k, u3, u4, u5, u6, u7, u8, u9, u10, u11, u12, u13, u14, u15, u16, u17, u18, u19, u20, u21, rfl, hk, HK⟩
    by_cases h0 : k = 0
    · have HT : Hid (decide (unl zs) = true) := decide_eq_true (fun j hj => HK.out j (by omega) (by rw [HL.out] at hj; exact hj))
      subst h0
      go_wp2
      simp only [Exit.jump]
      go_ret
      exact ⟨by rw [HT.out]; rfl, rfl⟩
    · obtain ⟨m, rfl⟩ : ∃ m, k = m + 1 := ⟨k - 1, by omega⟩
      have z0 : (((m + 1 : Nat) : Int) == 0) = false := by simp; omega
      obtain ⟨b, off, rfl, hb, hcell⟩ := H0.out.get m (by omega)
      obtain ⟨z, hz⟩ : ∃ z, z = zs.getD m 0 := ⟨_, rfl⟩
      rw [← hz] at hcell
      have HZ : Hid (z = zs.getD m 0) := hz
      have e1 : ((m + 1 : Nat) : Int) - 1 = (m : Int) := by omega
      clear hz h0
      go_wp2_with fail
      refine (containsU_any _ m c (zs.take m) z _ (H0.out.take m (by omega)) (by omega)).mono ?_
      rintro e w1 ⟨rfl, rfl⟩
      by_cases hin : z ∈ zs.take m
      · have HT : Hid (decide (unl zs) = false) := decide_eq_false (fun hu => hu m (by rw [HL.out]; omega) (by rw [← HZ.out]; exact hin))
        rw [decide_eq_true hin]
        clear hin
        go_wp2
        simp only [Exit.jump]
        go_ret
        exact ⟨by rw [HT.out]; rfl, rfl⟩
      · have HN : Hid (∀ j, m ≤ j → j < n → zs.getD j 0 ∉ zs.take j) := fun j h1 h2 => by
          by_cases e : j = m
          · rw [e, ← HZ.out]; exact hin
          · exact HK.out j (by omega) h2
        rw [decide_eq_false hin]
        clear hin
        go_wp2_with fail
        go_step3
        exact ⟨rfl, ⟨rfl, m, _, _, _, _, _, _, _, _, _, _, _, _, _, _, _, _, _, _, _, rfl, by omega, HN⟩, by simp [lenOf]⟩

theorem isVersion_any (n : Int) (w : World) : Calls Tryz.prog 79 #[.int .i64 n] w fun e w' => e = .returned (.bool (decide (verP n))) ∧ w' = w := by
  go_enter Tryz.func79, Tryz.ntmps79
  go_wp2_with fail
  refine (inBd_any n 1 1099511627776 _).mono ?_
  rintro e w1 ⟨rfl, hw⟩
  have hw := hw.symm
  subst hw
  obtain ⟨bb, hbb⟩ : ∃ bb, bb = decide (1 ≤ n ∧ n ≤ 1099511627776) := ⟨_, rfl⟩
  rw [← hbb]
  have HB : Hid (bb = decide (verP n)) := hbb
  clear hbb
  go_wp2
  go_ret
  exact ⟨by rw [← HB.out]; rfl, rfl⟩

theorem l22Version_any (n : Int) (w : World) : Calls Tryz.prog 51 #[.int .i64 n] w fun e w' => e = .returned (.bool (decide (verP n))) ∧ w' = w := by
  go_enter Tryz.func51, Tryz.ntmps51
  go_wp2_with fail
  refine (l1Bd_any n 1 1099511627776 _).mono ?_
  rintro e w1 ⟨rfl, hw⟩
  have hw := hw.symm
  subst hw
  obtain ⟨bb, hbb⟩ : ∃ bb, bb = decide (1 ≤ n ∧ n ≤ 1099511627776) := ⟨_, rfl⟩
  rw [← hbb]
  have HB : Hid (bb = decide (verP n)) := hbb
  clear hbb
  go_wp2
  go_ret
  exact ⟨by rw [← HB.out]; rfl, rfl⟩

set_option maxRecDepth 10000 in
set_option maxHeartbeats 1000000 in
theorem fileSigOk_any (x : FsP) (a : Option Addr) (n c : Nat) (w : World) (hl : x.sg.length = n) (hm : n ≤ 9223372036854775807) :
    Calls Tryz.prog 103 #[.agg #[.int .u64 x.key, .slice a n c]] w (SaysG (sigP x) w) := by
  have hb : Below w.heap.size w (w.alloc (.cells #[.int .u64 x.key, .slice a n c] 155)) := (Below.refl _ _).alloc (Nat.le_refl _) _
  have HL : Hid (_ = _) := hl
  clear hl
  by_cases h : n ≤ 500
  · have h2 : decide ((n : Int) ≤ 500) = true := decide_eq_true (by omega)
    go_enter Tryz.func103, Tryz.ntmps103
    go_wp2
    go_ret
    exact saysG_t (by show _ ≤ _; rw [HL.out]; exact h) hb
  · have h2 : decide ((n : Int) ≤ 500) = false := decide_eq_false (by omega)
    go_enter Tryz.func103, Tryz.ntmps103
    go_wp2
    go_ret
    exact saysG_f (by show ¬ (_ ≤ _); rw [HL.out]; exact h) hb

set_option maxRecDepth 10000 in
set_option maxHeartbeats 1000000 in
theorem entryOk_any (y : Int × Int) (w : World) : Calls Tryz.prog 81 #[.agg #[.int .u64 y.1, .int .i64 y.2]] w (SaysG (timP y.2) w) := by
  have hb : Below w.heap.size w (w.alloc (.cells #[.int .u64 y.1, .int .i64 y.2] 91)) := (Below.refl _ _).alloc (Nat.le_refl _) _
  go_enter Tryz.func81, Tryz.ntmps81
  go_wp2_with fail
  refine (isTim_any y.2 _).mono ?_
  rintro e w1 ⟨rfl, hw⟩
  have hw := hw.symm
  subst hw
  go_wp2
  go_ret
  exact ⟨_, rfl, ⟨fun h => of_decide_eq_true h, fun h => decide_eq_true h⟩, hb⟩

theorem pubOk_says (y : Int × Int × Int) (w : World) (hy : U64 y.2.1) : Calls Tryz.prog 106 #[.agg #[.int .i64 y.1, .int .u64 y.2.1, .int .i64 y.2.2]] w (SaysG (pubP y.1 y.2.1 y.2.2) w) :=
  (pubOk_any y.1 y.2.1 y.2.2 w hy).mono (fun e w' h => ⟨_, h.1, ⟨fun h => of_decide_eq_true h, fun h => decide_eq_true h⟩, h.2⟩)

set_option maxRecDepth 10000 in
set_option maxHeartbeats 2000000 in
theorem everyFs_any (a : Option Addr) (n c : Nat) (xs : List FsP) (w : World) (h : Fss KT w a n xs) (hn : n ≤ 9223372036854775807) :
    Calls Tryz.prog 102 #[.slice a n c, .func (Fn.func 103) #[] #[]] w (SaysG (∀ k, k < n → sigP (xs.getD k default)) w) := by
  have H0 : Hid (_) := h
  clear h
  go_enter Tryz.func102, Tryz.ntmps102
  go_wp2
  go_loopw [9] (fun i wr => ∃ k : Nat, k ≤ n ∧ i = .int .i64 k ∧ Hid (∀ j, j < k → sigP (xs.getD j default)) ∧ Below w.heap.size w wr) (fun i _ => n - (intOf i).toNat)
  case atStart => exact ⟨0, Nat.zero_le _, rfl, fun k hk => absurd hk (Nat.not_lt_zero _), Below.refl _ _⟩
  case round =>
    obtain ⟨k, hk, rfl, HE, hbr⟩ := hrel
    have hws := hbr.size
    by_cases hlt : k < n
    · obtain ⟨b, off, a1, n1, d1, rfl, hlb, hc, hp, hm, hu, _⟩ := H0.out.get k hlt
      obtain ⟨y, hy⟩ : ∃ y, y = xs.getD k default := ⟨_, rfl⟩
      rw [← hy] at hc hp hu
      have HY : Hid (y = xs.getD k default) := hy
      obtain ⟨c0, c1⟩ := hc.of (w' := wr) (fun i => hbr.cell (p := ⟨b, i, none⟩) hlb)
      have HLN : Hid (y.sg.length = n1) := hp.len
      have HPW : Hid (Row wr a1 n1 y.sg) := hp.kept hbr
      have HUW : Hid (U64 y.key) := hu
      clear hc hy hp hu
      have hkni : (k : Int) < (n : Int) := by omega
      have hbw : b < wr.heap.size := by omega
      have hbz : Below wr.heap.size wr (wr.alloc (.cells #[.int .u64 y.key, .slice a1 n1 d1] 155)) := (Below.refl _ _).alloc (Nat.le_refl _) _
      go_wp2_with fail
      refine (fileSigOk_any y a1 n1 d1 _ HLN.out hm).mono ?_
      rintro e w2 ⟨bb, rfl, hbi, hb2⟩
      have B2 : Below w.heap.size w w2 := hbr.trans ((keepT hbz hb2).mono hws)
      clear c0 c1
      cases bb with
      | true =>
        have HP : Hid (sigP y) := hbi.out.1 rfl
        clear hbi
        go_wp2
        go_roundw
        case rel => exact ⟨k + 1, by omega, by go_num, fun j hj => by
          by_cases e : j < k
          · exact HE.out j e
          · obtain rfl : j = k := by omega
            rw [← HY.out]; exact HP.out, B2⟩
        case measure => simp [intOf]; omega
      | false =>
        have HP : Hid (¬ sigP y) := fun h => by have := hbi.out.2 h; cases this
        clear hbi
        go_wp2
        go_ret
        exact saysG_f (fun e => HP.out (by rw [HY.out]; exact e k hlt)) B2
    · obtain rfl : k = n := by omega
      go_wp2
      go_ret
      exact saysG_t HE.out hbr

set_option maxRecDepth 10000 in
set_option maxHeartbeats 2000000 in
theorem everyTe_any (a : Option Addr) (n c : Nat) (xs : List (Int × Int)) (w : World) (h : RowTe w a n xs) (hn : n ≤ 9223372036854775807) :
    Calls Tryz.prog 80 #[.slice a n c, .func (Fn.func 81) #[] #[]] w (SaysG (∀ k, k < n → timP (xs.getD k (0, 0)).2) w) := by
  have H0 : Hid (_) := h
  clear h
  go_enter Tryz.func80, Tryz.ntmps80
  go_wp2
  go_loopw [9] (fun i wr => ∃ k : Nat, k ≤ n ∧ i = .int .i64 k ∧ Hid (∀ j, j < k → timP (xs.getD j (0, 0)).2) ∧ Below w.heap.size w wr) (fun i _ => n - (intOf i).toNat)
  case atStart => exact ⟨0, Nat.zero_le _, rfl, fun k hk => absurd hk (Nat.not_lt_zero _), Below.refl _ _⟩
  case round =>
    obtain ⟨k, hk, rfl, HE, hbr⟩ := hrel
    have hws := hbr.size
    by_cases hlt : k < n
    · obtain ⟨b, off, rfl, hlb, e0, e1⟩ := H0.out.get k hlt
      obtain ⟨y, hy⟩ : ∃ y, y = xs.getD k (0, 0) := ⟨_, rfl⟩
      rw [← hy] at e0 e1
      have HY : Hid (y = xs.getD k (0, 0)) := hy
      have HUY : Hid (_) := H0.out.rng k
      rw [← hy] at HUY
      have c0 := (hbr.cell (p := ⟨b, off + k * 2, none⟩) hlb).trans e0
      have c1 := (hbr.cell (p := ⟨b, off + k * 2 + 1, none⟩) hlb).trans e1
      clear hy e0 e1
      have hkni : (k : Int) < (n : Int) := by omega
      have hbw : b < wr.heap.size := by omega
      have hbz : Below wr.heap.size wr (wr.alloc (.cells #[.int .u64 y.1, .int .i64 y.2] 91)) := (Below.refl _ _).alloc (Nat.le_refl _) _
      go_wp2_with fail
      refine (entryOk_any y _).mono ?_
      rintro e w2 ⟨bb, rfl, hbi, hb2⟩
      have B2 : Below w.heap.size w w2 := hbr.trans ((keepT hbz hb2).mono hws)
      clear c0 c1
      cases bb with
      | true =>
        have HP : Hid (timP y.2) := hbi.out.1 rfl
        clear hbi
        go_wp2
        go_roundw
        case rel => exact ⟨k + 1, by omega, by go_num, fun j hj => by
          by_cases e : j < k
          · exact HE.out j e
          · obtain rfl : j = k := by omega
            rw [← HY.out]; exact HP.out, B2⟩
        case measure => simp [intOf]; omega
      | false =>
        have HP : Hid (¬ timP y.2) := fun h => by have := hbi.out.2 h; cases this
        clear hbi
        go_wp2
        go_ret
        exact saysG_f (fun e => HP.out (by rw [HY.out]; exact e k hlt)) B2
    · obtain rfl : k = n := by omega
      go_wp2
      go_ret
      exact saysG_t HE.out hbr

set_option maxRecDepth 10000 in
set_option maxHeartbeats 2000000 in
theorem everyPu_any (a : Option Addr) (n c : Nat) (xs : List (Int × Int × Int)) (w : World) (h : RowPu w a n xs) (hn : n ≤ 9223372036854775807) :
    Calls Tryz.prog 105 #[.slice a n c, .func (Fn.func 106) #[] #[]] w (SaysG (∀ k, k < n → pubP (xs.getD k (0, 0, 0)).1 (xs.getD k (0, 0, 0)).2.1 (xs.getD k (0, 0, 0)).2.2) w) := by
  have H0 : Hid (_) := h
  clear h
  go_enter Tryz.func105, Tryz.ntmps105
  go_wp2
  go_loopw [9] (fun i wr => ∃ k : Nat, k ≤ n ∧ i = .int .i64 k ∧ Hid (∀ j, j < k → pubP (xs.getD j (0, 0, 0)).1 (xs.getD j (0, 0, 0)).2.1 (xs.getD j (0, 0, 0)).2.2) ∧ Below w.heap.size w wr) (fun i _ => n - (intOf i).toNat)
  case atStart => exact ⟨0, Nat.zero_le _, rfl, fun k hk => absurd hk (Nat.not_lt_zero _), Below.refl _ _⟩
  case round =>
    obtain ⟨k, hk, rfl, HE, hbr⟩ := hrel
    have hws := hbr.size
    by_cases hlt : k < n
    · obtain ⟨b, off, rfl, hlb, e0, e1, e2⟩ := H0.out.get k hlt
      obtain ⟨y, hy⟩ : ∃ y, y = xs.getD k (0, 0, 0) := ⟨_, rfl⟩
      rw [← hy] at e0 e1 e2
      have HY : Hid (y = xs.getD k (0, 0, 0)) := hy
      have HUY : Hid (_) := H0.out.rng k
      rw [← hy] at HUY
      have c0 := (hbr.cell (p := ⟨b, off + k * 3, none⟩) hlb).trans e0
      have c1 := (hbr.cell (p := ⟨b, off + k * 3 + 1, none⟩) hlb).trans e1
      have c2 := (hbr.cell (p := ⟨b, off + k * 3 + 2, none⟩) hlb).trans e2
      clear hy e0 e1 e2
      have hkni : (k : Int) < (n : Int) := by omega
      have hbw : b < wr.heap.size := by omega
      have hbz : Below wr.heap.size wr (wr.alloc (.cells #[.int .i64 y.1, .int .u64 y.2.1, .int .i64 y.2.2] 120)) := (Below.refl _ _).alloc (Nat.le_refl _) _
      go_wp2_with fail
      refine (pubOk_says y _ HUY.out).mono ?_
      rintro e w2 ⟨bb, rfl, hbi, hb2⟩
      have B2 : Below w.heap.size w w2 := hbr.trans ((keepT hbz hb2).mono hws)
      clear c0 c1 c2
      cases bb with
      | true =>
        have HP : Hid (pubP y.1 y.2.1 y.2.2) := hbi.out.1 rfl
        clear hbi
        go_wp2
        go_roundw
        case rel => exact ⟨k + 1, by omega, by go_num, fun j hj => by
          by_cases e : j < k
          · exact HE.out j e
          · obtain rfl : j = k := by omega
            rw [← HY.out]; exact HP.out, B2⟩
        case measure => simp [intOf]; omega
      | false =>
        have HP : Hid (¬ pubP y.1 y.2.1 y.2.2) := fun h => by have := hbi.out.2 h; cases this
        clear hbi
        go_wp2
        go_ret
        exact saysG_f (fun e => HP.out (by rw [HY.out]; exact e k hlt)) B2
    · obtain rfl : k = n := by omega
      go_wp2
      go_ret
      exact saysG_t HE.out hbr

end Go.Proofs.YtglpbgebcpijaaaGreat
