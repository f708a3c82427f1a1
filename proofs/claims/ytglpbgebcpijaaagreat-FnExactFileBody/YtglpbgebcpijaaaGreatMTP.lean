import Derived.Test.YtglpbgebcpijaaaGreatTF2
import Derived.Test.YtglpbgebcpijaaaGreatTU0
import Derived.Test.YtglpbgebcpijaaaGreatTT4
import Derived.Deep.RegionLaw
import Derived.OwnWalk
set_option linter.unusedVariables false
namespace Go.Proofs.YtglpbgebcpijaaaGreat
open Go.RowKit Go.Sort

def SaysG (P : Prop) (w : World) (e : Ending) (w' : World) : Prop := ∃ b, e = .returned (.bool b) ∧ Hid (b = true ↔ P) ∧ Below w.heap.size w w'
theorem saysG_t {P : Prop} {w w' : World} (h : P) (hb : Below w.heap.size w w') : SaysG P w (.returned (.bool true)) w' := ⟨true, rfl, ⟨fun _ => h, fun _ => rfl⟩, hb⟩
theorem saysG_f {P : Prop} {w w' : World} (h : ¬ P) (hb : Below w.heap.size w w') : SaysG P w (.returned (.bool false)) w' := ⟨false, rfl, ⟨fun e => (by cases e), fun e => absurd e h⟩, hb⟩
def verP (n : Int) : Prop := 1 ≤ n ∧ n ≤ 1099511627776
instance (n : Int) : Decidable (verP n) := by unfold verP; infer_instance
def sigP (s : FsP) : Prop := s.sg.length ≤ 500
def sigsP (ss : List FsP) (n : Nat) : Prop := n ≤ 12 ∧ ∀ k, k < n → sigP (ss.getD k default)
def kidQ (p : Int × Int × Int) : Int := kidN p.1 p.2.1 p.2.2
def roleP (x : RoP) : Prop := (1 ≤ x.ks.length ∧ x.ks.length ≤ 6) ∧ (1 ≤ x.need ∧ x.need ≤ (x.ks.length : Int)) ∧ (∀ k, k < x.ks.length → pubP (x.ks.getD k (0, 0, 0)).1 (x.ks.getD k (0, 0, 0)).2.1 (x.ks.getD k (0, 0, 0)).2.2) ∧ unl (x.ks.map kidQ)
def rootP (x : RfP) : Prop := verP x.v ∧ timP x.e ∧ sigsP x.ss x.ss.length ∧ x.rs.length = 3 ∧ ∀ k, k < 3 → roleP (x.rs.getD k default)
def stampP (x : SfP) : Prop := verP x.v ∧ timP x.e ∧ sigsP x.ss x.ss.length ∧ verP x.lv
def listP (x : LfP) : Prop := verP x.v ∧ timP x.e ∧ sigsP x.ss x.ss.length ∧ x.es.length ≤ 20 ∧ ∀ k, k < x.es.length → timP (x.es.getD k (0, 0)).2

set_option maxRecDepth 10000 in
set_option maxHeartbeats 1000000 in
theorem indexU_any (a : Option Addr) (n c : Nat) (zs : List Int) (x : Int) (w : World) (h : RowU w a n zs) (hn : n ≤ 9223372036854775807) :
    Calls Tryz.prog 138 #[.slice a n c, .int .u64 x] w fun e w' => ∃ i : Int, e = .returned (.int .i64 i) ∧ Hid (0 ≤ i ↔ x ∈ zs) ∧ w' = w := by
  have H0 : Hid (RowU w a n zs) := h
  have HL : Hid (zs.length = n) := h.len
  clear h
  go_enter Tryz.func138, Tryz.ntmps138
  go_wp2
  go_loopw [8] (fun i wr => ∃ k : Nat, k ≤ n ∧ i = .int .i64 k ∧ Hid (x ∉ zs.take k) ∧ w = wr) (fun i _ => n - (intOf i).toNat)
  case atStart => exact ⟨0, Nat.zero_le _, rfl, (by show _ ∉ _; simp), rfl⟩
  case round =>
    obtain ⟨k, hk, rfl, HA, rfl⟩ := hrel
    by_cases hlt : k < n
    · obtain ⟨b, off, rfl, hb, hc⟩ := H0.out.get k hlt
      obtain ⟨z, hz⟩ : ∃ z, z = zs.getD k 0 := ⟨_, rfl⟩
      rw [← hz] at hc
      have HZ : Hid (z = zs.getD k 0) := hz
      have HM : Hid (k < zs.length) := by show _ < _; rw [HL.out]; exact hlt
      have hlti : (k : Int) < (n : Int) := by omega
      clear hz
      by_cases he : x = z
      · have HT : Hid (x ∈ zs) := by show _ ∈ _; rw [he, HZ.out]; exact getD_mem zs k HM.out
        have ze : (x == z) = true := beq_iff_eq.2 he
        clear he
        go_wp2
        go_ret
        exact ⟨_, rfl, ⟨fun _ => HT.out, fun _ => by omega⟩, rfl⟩
      · have HN : Hid (x ∉ zs.take (k + 1)) := by
          show _ ∉ _
          rw [mem_next zs k HM.out]
          rintro (h | h)
          · exact HA.out h
          · exact he (by rw [HZ.out]; exact h)
        have ze : (x == z) = false := beq_false_of_ne he
        clear he HA
        go_wp2
        go_roundw
        case rel => exact ⟨k + 1, by omega, by go_num, HN, by trivial⟩
        case measure => simp [intOf]; omega
    · obtain rfl : k = n := by omega
      have HN : Hid (x ∉ zs) := by show _ ∉ _; have := HA.out; rwa [mem_all zs k (by rw [HL.out]; exact Nat.le_refl _)] at this
      go_wp2
      go_ret
      exact ⟨_, rfl, ⟨fun h => absurd h (by decide), fun h => absurd h HN.out⟩, rfl⟩

set_option maxRecDepth 10000 in
set_option maxHeartbeats 1000000 in
theorem containsU_any (a : Option Addr) (n c : Nat) (zs : List Int) (x : Int) (w : World) (h : RowU w a n zs) (hn : n ≤ 9223372036854775807) :
    Calls Tryz.prog 124 #[.slice a n c, .int .u64 x] w fun e w' => e = .returned (.bool (decide (x ∈ zs))) ∧ w' = w := by
  have H0 : Hid (RowU w a n zs) := h
  clear h
  go_enter Tryz.func124, Tryz.ntmps124
  go_wp2_with fail
  refine (indexU_any a n c zs x _ H0.out hn).mono ?_
  rintro e w1 ⟨i, rfl, hi, rfl⟩
  have HD : Hid (decide (0 ≤ i) = decide (x ∈ zs)) := by show _ = _; exact decide_eq_decide.2 hi.out
  go_wp2
  go_ret
  exact ⟨by rw [← HD.out]; rfl, rfl⟩

set_option maxRecDepth 10000 in
set_option maxHeartbeats 1000000 in
theorem l11Has_any (a : Option Addr) (n c : Nat) (zs : List Int) (x : Int) (w : World) (h : RowU w a n zs) (hn : n ≤ 9223372036854775807) :
    Calls Tryz.prog 90 #[.slice a n c, .int .u64 x] w fun e w' => e = .returned (.bool (decide (x ∈ zs))) ∧ w' = w := by
  have H0 : Hid (RowU w a n zs) := h
  have HL : Hid (zs.length = n) := h.len
  clear h
  go_enter Tryz.func90, Tryz.ntmps90
  go_wp2
  go_loopw [5] (fun i wr => ∃ k : Nat, k ≤ n ∧ i = .int .i64 k ∧ Hid (x ∉ zs.take k) ∧ w = wr) (fun i _ => n - (intOf i).toNat)
  case atStart => exact ⟨0, Nat.zero_le _, rfl, (by show _ ∉ _; simp), rfl⟩
  case round =>
    obtain ⟨k, hk, rfl, HA, rfl⟩ := hrel
    by_cases hlt : k < n
    · obtain ⟨b, off, rfl, hb, hc⟩ := H0.out.get k hlt
      obtain ⟨z, hz⟩ : ∃ z, z = zs.getD k 0 := ⟨_, rfl⟩
      rw [← hz] at hc
      have HZ : Hid (z = zs.getD k 0) := hz
      have HM : Hid (k < zs.length) := by show _ < _; rw [HL.out]; exact hlt
      have hlti : (k : Int) < (n : Int) := by omega
      clear hz
      by_cases he : z = x
      · have HT : Hid (decide (x ∈ zs) = true) := decide_eq_true (by rw [← he, HZ.out]; exact getD_mem zs k HM.out)
        have ze : (z == x) = true := beq_iff_eq.2 he
        clear he
        go_wp2
        go_ret
        exact ⟨by rw [HT.out]; rfl, rfl⟩
      · have HN : Hid (x ∉ zs.take (k + 1)) := by
          show _ ∉ _
          rw [mem_next zs k HM.out]
          rintro (h | h)
          · exact HA.out h
          · exact he (by rw [HZ.out]; exact h.symm)
        have ze : (z == x) = false := beq_false_of_ne he
        clear he HA
        go_wp2
        go_roundw
        case rel => exact ⟨k + 1, by omega, by go_num, HN, by trivial⟩
        case measure => simp [intOf]; omega
    · obtain rfl : k = n := by omega
      have HN : Hid (decide (x ∈ zs) = false) := decide_eq_false (by have := HA.out; rwa [mem_all zs k (by rw [HL.out]; exact Nat.le_refl _)] at this)
      go_wp2
      go_ret
      exact ⟨by rw [HN.out]; rfl, rfl⟩

set_option maxRecDepth 10000 in
set_option maxHeartbeats 2000000 in
theorem allUnlikeU_any (a : Option Addr) (n c : Nat) (zs : List Int) (w : World) (h : RowU w a n zs) (hn : n ≤ c) (hc : c ≤ 9223372036854775807) :
    Calls Tryz.prog 107 #[.slice a n c] w fun e w' => e = .returned (.bool (decide (unl zs))) ∧ w' = w := by
  have H0 : Hid (RowU w a n zs) := h
  have HL : Hid (zs.length = n) := h.len
  clear h
  have HS : Hid (∀ j, n ≤ j → j < n → zs.getD j 0 ∉ zs.take j) := fun j h1 h2 => absurd h1 (by omega)
  go_enter Tryz.func107, Tryz.ntmps107
  go_wp2
  refine wp_scope_jumps 0 (fun a' w' => w = w' ∧ ∃ (k : Nat) (u3 u4 u5 u6 u7 u8 u9 u10 u11 u12 u13 u14 u15 u16 u17 u18 u19 u20 u21 : Value), a' = { tmps := #[.slice a k c, undef, .bool false, u3, u4, u5, u6, u7, u8, u9, u10, u11, u12, u13, u14, u15, u16, u17, u18, u19, u20, u21], defers := [] } ∧ k ≤ n ∧ Hid (∀ j, k ≤ j → j < n → zs.getD j 0 ∉ zs.take j)) (fun a' _ => lenOf (a'.tmps.getD 0 undef)) rfl ?_ ?_
  · by_cases h0 : n = 0
    · have HT : Hid (decide (unl zs) = true) := decide_eq_true (fun j hj => HS.out j (by omega) (by rw [HL.out] at hj; exact hj))
      have z0 : ((n : Int) == 0) = true := by simp [h0]
      clear h0
      go_wp2
      go_step3
      go_wp2
      simp only [Exit.jump]
      go_ret
      exact ⟨by rw [HT.out]; rfl, rfl⟩
    · obtain ⟨m, rfl⟩ : ∃ m, n = m + 1 := ⟨n - 1, by omega⟩
      have z0 : (((m + 1 : Nat) : Int) == 0) = false := by simp; omega
      obtain ⟨b, off, rfl, hb, hcell⟩ := H0.out.get m (by omega)
      obtain ⟨z, hz⟩ : ∃ z, z = zs.getD m 0 := ⟨_, rfl⟩
      rw [← hz] at hcell
      have HZ : Hid (z = zs.getD m 0) := hz
      have e1 : ((m + 1 : Nat) : Int) - 1 = (m : Int) := by omega
      clear hz h0
      go_wp2
      go_step3
      go_wp2_with fail
      refine (containsU_any _ m c (zs.take m) z _ (H0.out.take m (by omega)) (by omega)).mono ?_
      rintro e w1 ⟨rfl, rfl⟩
      by_cases hin : z ∈ zs.take m
      · have HT : Hid (decide (unl zs) = false) := decide_eq_false (fun hu => hu m (by rw [HL.out]; omega) (by rw [← HZ.out]; exact hin))
        rw [decide_eq_true hin]
        clear hin
        go_wp2
        simp only [Exit.jump]
        go_ret
        exact ⟨by rw [HT.out]; rfl, rfl⟩
      · have HN : Hid (∀ j, m ≤ j → j < m + 1 → zs.getD j 0 ∉ zs.take j) := fun j h1 h2 => by
          by_cases e : j = m
          · rw [e, ← HZ.out]; exact hin
          · exact HS.out j (by omega) h2
        rw [decide_eq_false hin]
        clear hin
        go_wp2_with fail
        go_step3
        exact ⟨rfl, rfl, m, _, _, _, _, _, _, _, _, _, _, _, _, _, _, _, _, _, _, _, rfl, by omega, HN⟩
  · rintro a' w' ⟨rfl, k, u3, u4, u5, u6, u7, u8, u9, u10, u11, u12, u13, u14, u15, u16, u17, u18, u19, u20, u21, rfl, hk, HK⟩
    by_cases h0 : k = 0
    · have HT : Hid (decide (unl zs) = true) := decide_eq_true (fun j hj => HK.out j (by omega) (by rw [HL.out] at hj; exact hj))
      subst h0
      go_wp2
      simp only [Exit.jump]
      go_ret
      exact ⟨by rw [HT.out]; rfl, rfl⟩
    · obtain ⟨m, rfl⟩ : ∃ m, k = m + 1 := ⟨k - 1, by omega⟩
      have z0 : (((m + 1 : Nat) : Int) == 0) = false := by simp; omega
      obtain ⟨b, off, rfl, hb, hcell⟩ := H0.out.get m (by omega)
      obtain ⟨z, hz⟩ : ∃ z, z = zs.getD m 0 := ⟨_, rfl⟩
      rw [← hz] at hcell
      have HZ : Hid (z = zs.getD m 0) := hz
      have e1 : ((m + 1 : Nat) : Int) - 1 = (m : Int) := by omega
      clear hz h0
      go_wp2_with fail
      refine (containsU_any _ m c (zs.take m) z _ (H0.out.take m (by omega)) (by omega)).mono ?_
      rintro e w1 ⟨rfl, rfl⟩
      by_cases hin : z ∈ zs.take m
      · have HT : Hid (decide (unl zs) = false) := decide_eq_false (fun hu => hu m (by rw [HL.out]; omega) (by rw [← HZ.out]; exact hin))
        rw [decide_eq_true hin]
        clear hin
        go_wp2
        simp only [Exit.jump]
        go_ret
        exact ⟨by rw [HT.out]; rfl, rfl⟩
      · have HN : Hid (∀ j, m ≤ j → j < n → zs.getD j 0 ∉ zs.take j) := fun j h1 h2 => by
          by_cases e : j = m
          · rw [e, ← HZ.out]; exact hin
          · exact HK.out j (by omega) h2
        rw [decide_eq_false hin]
        clear hin
        go_wp2_with fail
        go_step3
        exact ⟨rfl, ⟨rfl, m, _, _, _, _, _, _, _, _, _, _, _, _, _, _, _, _, _, _, _, rfl, by omega, HN⟩, by simp [lenOf]⟩

theorem isVersion_any (n : Int) (w : World) : Calls Tryz.prog 79 #[.int .i64 n] w fun e w' => e = .returned (.bool (decide (verP n))) ∧ w' = w := by
  go_enter Tryz.func79, Tryz.ntmps79
  go_wp2_with fail
  refine (inBd_any n 1 1099511627776 _).mono ?_
  rintro e w1 ⟨rfl, hw⟩
  have hw := hw.symm
  subst hw
  obtain ⟨bb, hbb⟩ : ∃ bb, bb = decide (1 ≤ n ∧ n ≤ 1099511627776) := ⟨_, rfl⟩
  rw [← hbb]
  have HB : Hid (bb = decide (verP n)) := hbb
  clear hbb
  go_wp2
  go_ret
  exact ⟨by rw [← HB.out]; rfl, rfl⟩

theorem l22Version_any (n : Int) (w : World) : Calls Tryz.prog 51 #[.int .i64 n] w fun e w' => e = .returned (.bool (decide (verP n))) ∧ w' = w := by
  go_enter Tryz.func51, Tryz.ntmps51
  go_wp2_with fail
  refine (l1Bd_any n 1 1099511627776 _).mono ?_
  rintro e w1 ⟨rfl, hw⟩
  have hw := hw.symm
  subst hw
  obtain ⟨bb, hbb⟩ : ∃ bb, bb = decide (1 ≤ n ∧ n ≤ 1099511627776) := ⟨_, rfl⟩
  rw [← hbb]
  have HB : Hid (bb = decide (verP n)) := hbb
  clear hbb
  go_wp2
  go_ret
  exact ⟨by rw [← HB.out]; rfl, rfl⟩

set_option maxRecDepth 10000 in
set_option maxHeartbeats 1000000 in
theorem fileSigOk_any (x : FsP) (a : Option Addr) (n c : Nat) (w : World) (hl : x.sg.length = n) (hm : n ≤ 9223372036854775807) :
    Calls Tryz.prog 103 #[.agg #[.int .u64 x.key, .slice a n c]] w (SaysG (sigP x) w) := by
  have hb : Below w.heap.size w (w.alloc (.cells #[.int .u64 x.key, .slice a n c] 155)) := (Below.refl _ _).alloc (Nat.le_refl _) _
  have HL : Hid (_ = _) := hl
  clear hl
  by_cases h : n ≤ 500
  · have h2 : decide ((n : Int) ≤ 500) = true := decide_eq_true (by omega)
    go_enter Tryz.func103, Tryz.ntmps103
    go_wp2
    go_ret
    exact saysG_t (by show _ ≤ _; rw [HL.out]; exact h) hb
  · have h2 : decide ((n : Int) ≤ 500) = false := decide_eq_false (by omega)
    go_enter Tryz.func103, Tryz.ntmps103
    go_wp2
    go_ret
    exact saysG_f (by show ¬ (_ ≤ _); rw [HL.out]; exact h) hb

set_option maxRecDepth 10000 in
set_option maxHeartbeats 1000000 in
theorem entryOk_any (y : Int × Int) (w : World) : Calls Tryz.prog 81 #[.agg #[.int .u64 y.1, .int .i64 y.2]] w (SaysG (timP y.2) w) := by
  have hb : Below w.heap.size w (w.alloc (.cells #[.int .u64 y.1, .int .i64 y.2] 91)) := (Below.refl _ _).alloc (Nat.le_refl _) _
  go_enter Tryz.func81, Tryz.ntmps81
  go_wp2_with fail
  refine (isTim_any y.2 _).mono ?_
  rintro e w1 ⟨rfl, hw⟩
  have hw := hw.symm
  subst hw
  go_wp2
  go_ret
  exact ⟨_, rfl, ⟨fun h => of_decide_eq_true h, fun h => decide_eq_true h⟩, hb⟩

theorem pubOk_says (y : Int × Int × Int) (w : World) (hy : U64 y.2.1) : Calls Tryz.prog 106 #[.agg #[.int .i64 y.1, .int .u64 y.2.1, .int .i64 y.2.2]] w (SaysG (pubP y.1 y.2.1 y.2.2) w) :=
  (pubOk_any y.1 y.2.1 y.2.2 w hy).mono (fun e w' h => ⟨_, h.1, ⟨fun h => of_decide_eq_true h, fun h => decide_eq_true h⟩, h.2⟩)

set_option maxRecDepth 10000 in
set_option maxHeartbeats 2000000 in
theorem everyFs_any (a : Option Addr) (n c : Nat) (xs : List FsP) (w : World) (h : Fss KT w a n xs) (hn : n ≤ 9223372036854775807) :
    Calls Tryz.prog 102 #[.slice a n c, .func (Fn.func 103) #[] #[]] w (SaysG (∀ k, k < n → sigP (xs.getD k default)) w) := by
  have H0 : Hid (_) := h
  clear h
  go_enter Tryz.func102, Tryz.ntmps102
  go_wp2
  go_loopw [9] (fun i wr => ∃ k : Nat, k ≤ n ∧ i = .int .i64 k ∧ Hid (∀ j, j < k → sigP (xs.getD j default)) ∧ Below w.heap.size w wr) (fun i _ => n - (intOf i).toNat)
  case atStart => exact ⟨0, Nat.zero_le _, rfl, fun k hk => absurd hk (Nat.not_lt_zero _), Below.refl _ _⟩
  case round =>
    obtain ⟨k, hk, rfl, HE, hbr⟩ := hrel
    have hws := hbr.size
    by_cases hlt : k < n
    · obtain ⟨b, off, a1, n1, d1, rfl, hlb, hc, hp, hm, hu, _⟩ := H0.out.get k hlt
      obtain ⟨y, hy⟩ : ∃ y, y = xs.getD k default := ⟨_, rfl⟩
      rw [← hy] at hc hp hu
      have HY : Hid (y = xs.getD k default) := hy
      obtain ⟨c0, c1⟩ := hc.of (w' := wr) (fun i => hbr.cell (p := ⟨b, i, none⟩) hlb)
      have HLN : Hid (y.sg.length = n1) := hp.len
      have HPW : Hid (Row wr a1 n1 y.sg) := hp.kept hbr
      have HUW : Hid (U64 y.key) := hu
      clear hc hy hp hu
      have hkni : (k : Int) < (n : Int) := by omega
      have hbw : b < wr.heap.size := by omega
      have hbz : Below wr.heap.size wr (wr.alloc (.cells #[.int .u64 y.key, .slice a1 n1 d1] 155)) := (Below.refl _ _).alloc (Nat.le_refl _) _
      go_wp2_with fail
      refine (fileSigOk_any y a1 n1 d1 _ HLN.out hm).mono ?_
      rintro e w2 ⟨bb, rfl, hbi, hb2⟩
      have B2 : Below w.heap.size w w2 := hbr.trans ((keepT hbz hb2).mono hws)
      clear c0 c1
      cases bb with
      | true =>
        have HP : Hid (sigP y) := hbi.out.1 rfl
        clear hbi
        go_wp2
        go_roundw
        case rel => exact ⟨k + 1, by omega, by go_num, fun j hj => by
          by_cases e : j < k
          · exact HE.out j e
          · obtain rfl : j = k := by omega
            rw [← HY.out]; exact HP.out, B2⟩
        case measure => simp [intOf]; omega
      | false =>
        have HP : Hid (¬ sigP y) := fun h => by have := hbi.out.2 h; cases this
        clear hbi
        go_wp2
        go_ret
        exact saysG_f (fun e => HP.out (by rw [HY.out]; exact e k hlt)) B2
    · obtain rfl : k = n := by omega
      go_wp2
      go_ret
      exact saysG_t HE.out hbr

set_option maxRecDepth 10000 in
set_option maxHeartbeats 2000000 in
theorem everyTe_any (a : Option Addr) (n c : Nat) (xs : List (Int × Int)) (w : World) (h : RowTe w a n xs) (hn : n ≤ 9223372036854775807) :
    Calls Tryz.prog 80 #[.slice a n c, .func (Fn.func 81) #[] #[]] w (SaysG (∀ k, k < n → timP (xs.getD k (0, 0)).2) w) := by
  have H0 : Hid (_) := h
  clear h
  go_enter Tryz.func80, Tryz.ntmps80
  go_wp2
  go_loopw [9] (fun i wr => ∃ k : Nat, k ≤ n ∧ i = .int .i64 k ∧ Hid (∀ j, j < k → timP (xs.getD j (0, 0)).2) ∧ Below w.heap.size w wr) (fun i _ => n - (intOf i).toNat)
  case atStart => exact ⟨0, Nat.zero_le _, rfl, fun k hk => absurd hk (Nat.not_lt_zero _), Below.refl _ _⟩
  case round =>
    obtain ⟨k, hk, rfl, HE, hbr⟩ := hrel
    have hws := hbr.size
    by_cases hlt : k < n
    · obtain ⟨b, off, rfl, hlb, e0, e1⟩ := H0.out.get k hlt
      obtain ⟨y, hy⟩ : ∃ y, y = xs.getD k (0, 0) := ⟨_, rfl⟩
      rw [← hy] at e0 e1
      have HY : Hid (y = xs.getD k (0, 0)) := hy
      have HUY : Hid (_) := H0.out.rng k
      rw [← hy] at HUY
      have c0 := (hbr.cell (p := ⟨b, off + k * 2, none⟩) hlb).trans e0
      have c1 := (hbr.cell (p := ⟨b, off + k * 2 + 1, none⟩) hlb).trans e1
      clear hy e0 e1
      have hkni : (k : Int) < (n : Int) := by omega
      have hbw : b < wr.heap.size := by omega
      have hbz : Below wr.heap.size wr (wr.alloc (.cells #[.int .u64 y.1, .int .i64 y.2] 91)) := (Below.refl _ _).alloc (Nat.le_refl _) _
      go_wp2_with fail
      refine (entryOk_any y _).mono ?_
      rintro e w2 ⟨bb, rfl, hbi, hb2⟩
      have B2 : Below w.heap.size w w2 := hbr.trans ((keepT hbz hb2).mono hws)
      clear c0 c1
      cases bb with
      | true =>
        have HP : Hid (timP y.2) := hbi.out.1 rfl
        clear hbi
        go_wp2
        go_roundw
        case rel => exact ⟨k + 1, by omega, by go_num, fun j hj => by
          by_cases e : j < k
          · exact HE.out j e
          · obtain rfl : j = k := by omega
            rw [← HY.out]; exact HP.out, B2⟩
        case measure => simp [intOf]; omega
      | false =>
        have HP : Hid (¬ timP y.2) := fun h => by have := hbi.out.2 h; cases this
        clear hbi
        go_wp2
        go_ret
        exact saysG_f (fun e => HP.out (by rw [HY.out]; exact e k hlt)) B2
    · obtain rfl : k = n := by omega
      go_wp2
      go_ret
      exact saysG_t HE.out hbr

set_option maxRecDepth 10000 in
set_option maxHeartbeats 2000000 in
theorem everyPu_any (a : Option Addr) (n c : Nat) (xs : List (Int × Int × Int)) (w : World) (h : RowPu w a n xs) (hn : n ≤ 9223372036854775807) :
    Calls Tryz.prog 105 #[.slice a n c, .func (Fn.func 106) #[] #[]] w (SaysG (∀ k, k < n → pubP (xs.getD k (0, 0, 0)).1 (xs.getD k (0, 0, 0)).2.1 (xs.getD k (0, 0, 0)).2.2) w) := by
  have H0 : Hid (_) := h
  clear h
  go_enter Tryz.func105, Tryz.ntmps105
  go_wp2
  go_loopw [9] (fun i wr => ∃ k : Nat, k ≤ n ∧ i = .int .i64 k ∧ Hid (∀ j, j < k → pubP (xs.getD j (0, 0, 0)).1 (xs.getD j (0, 0, 0)).2.1 (xs.getD j (0, 0, 0)).2.2) ∧ Below w.heap.size w wr) (fun i _ => n - (intOf i).toNat)
  case atStart => exact ⟨0, Nat.zero_le _, rfl, fun k hk => absurd hk (Nat.not_lt_zero _), Below.refl _ _⟩
  case round =>
    obtain ⟨k, hk, rfl, HE, hbr⟩ := hrel
    have hws := hbr.size
    by_cases hlt : k < n
    · obtain ⟨b, off, rfl, hlb, e0, e1, e2⟩ := H0.out.get k hlt
      obtain ⟨y, hy⟩ : ∃ y, y = xs.getD k (0, 0, 0) := ⟨_, rfl⟩
      rw [← hy] at e0 e1 e2
      have HY : Hid (y = xs.getD k (0, 0, 0)) := hy
      have HUY : Hid (_) := H0.out.rng k
      rw [← hy] at HUY
      have c0 := (hbr.cell (p := ⟨b, off + k * 3, none⟩) hlb).trans e0
      have c1 := (hbr.cell (p := ⟨b, off + k * 3 + 1, none⟩) hlb).trans e1
      have c2 := (hbr.cell (p := ⟨b, off + k * 3 + 2, none⟩) hlb).trans e2
      clear hy e0 e1 e2
      have hkni : (k : Int) < (n : Int) := by omega
      have hbw : b < wr.heap.size := by omega
      have hbz : Below wr.heap.size wr (wr.alloc (.cells #[.int .i64 y.1, .int .u64 y.2.1, .int .i64 y.2.2] 120)) := (Below.refl _ _).alloc (Nat.le_refl _) _
      go_wp2_with fail
      refine (pubOk_says y _ HUY.out).mono ?_
      rintro e w2 ⟨bb, rfl, hbi, hb2⟩
      have B2 : Below w.heap.size w w2 := hbr.trans ((keepT hbz hb2).mono hws)
      clear c0 c1 c2
      cases bb with
      | true =>
        have HP : Hid (pubP y.1 y.2.1 y.2.2) := hbi.out.1 rfl
        clear hbi
        go_wp2
        go_roundw
        case rel => exact ⟨k + 1, by omega, by go_num, fun j hj => by
          by_cases e : j < k
          · exact HE.out j e
          · obtain rfl : j = k := by omega
            rw [← HY.out]; exact HP.out, B2⟩
        case measure => simp [intOf]; omega
      | false =>
        have HP : Hid (¬ pubP y.1 y.2.1 y.2.2) := fun h => by have := hbi.out.2 h; cases this
        clear hbi
        go_wp2
        go_ret
        exact saysG_f (fun e => HP.out (by rw [HY.out]; exact e k hlt)) B2
    · obtain rfl : k = n := by omega
      go_wp2
      go_ret
      exact saysG_t HE.out hbr

end Go.Proofs.YtglpbgebcpijaaaGreat

namespace Go.Proofs.YtglpbgebcpijaaaGreat
open Go.RowKit

theorem step_append_ownT {P : Program} {ops : Array Oper} {o : Oper} {a : Act} {w : World} {K : Act → World → Prop} {Q : Exit → Act → World → Prop} {E : Prop}
    (hg : o.guard = none) (s x : Operand) (t : TypeId) (hop : o.op = Op.call { callee := Callee.builtin Builtin.append, args := #[s, x], argTypes := #[t, t] })
    (base : Nat) (e : TypeId) (i : TypeInfo) (z : Value) (size bytes : Nat) (h1 : P.underlying t = some (.slice e)) (h2 : P.info? e = some i) (h3 : i.zero = some z) (h4 : i.size = size) (h5 : i.bytes = bytes) (h6 : z.cells.size = size) (h7 : 0 < size)
    (v : Value) (n : Nat) (xs : List Value) (hs : a.eval s = v) (hown : w.ownsRow base e size v n xs)
    (ad : Addr) (m c : Nat) (news : List Value) (hx : a.eval x = .slice (some ad) m c) (hn : news.length = m * size) (hc : ∀ j u, news[j]? = some u → w.cell? (ad.add j) = some u) (h1c : ∀ u ∈ news, u.oneCell' = true)
    (b1 : n + m ≤ maxLen) (b2 : (n + m) * bytes ≤ 140737488355328) (b3 : base ≤ w.heap.size)
    (hK : ∀ v' w', w'.ownsRow base e size v' (n + m) (xs ++ news) → w.grownBy w' v.ownBlock → K (a.put o.dst v') w') :
    if Region.wanted o (yielded ops a.tmps) = true then Oper.wp P o a w K Q else E := by
  have hw : Region.wanted o (yielded ops a.tmps) = true := by simp [Region.wanted, hg]
  rw [if_pos hw]
  obtain ⟨v', w', hrun, r1, r2, _⟩ := run_append_own (P := P) w base t o.type e i z size bytes h1 h2 h3 h4 h5 h6 h7 v n xs hown ad m c news hn hc h1c b1 b2 b3
  unfold Oper.wp
  simp [execOp, hop, resolve, invoke, builtin, hs, hx, hrun, Result.andThen]
  exact hK v' w' r1 r2
theorem Tryz.infoU : (Tryz.prog.info? 26).map (fun i => (i.zero, i.size, i.bytes)) = some (some (.int .u64 0), 1, 8) := by kernel_rfl
theorem cell_oneU (w : World) (x : Int) : ∀ jj uu, ([x].map (Value.int .u64))[jj]? = some uu → (w.alloc (.cells #[.int .u64 x] 26)).cell? ((⟨w.heap.size, 0, none⟩ : Addr).add jj) = some uu := by
  intro jj uu hju
  rw [Addr.add_lit, Nat.zero_add, cell_of_row _ w.heap.size jj _ 26 _ (heap_alloc_new w _), ← hju]
  simp
theorem madeU {B n : Nat} {w : World} {v : Value} (h : w.ownsRow B 26 1 v n (madeCells (Value.int .u64 0).cells (n * 1)).toList) : w.ownsRow B 26 1 v n ((List.replicate n (0 : Int)).map (Value.int .u64)) := by
  have e : (madeCells (Value.int .u64 0).cells (n * 1)).toList = (List.replicate n (0 : Int)).map (Value.int .u64) := by
    rw [List.map_replicate, Nat.mul_one]; exact toList_madeCells_one _ _
  rwa [e] at h

def endN (seed leaf : Int) (d : Nat) : Int := stepsN (startN seed leaf d) 15
def endsN (seed leaf : Int) : List Int := (List.range 18).map (endN seed leaf)
theorem endsN_len (seed leaf : Int) : (endsN seed leaf).length = 18 := by simp [endsN]
theorem endsN_get (seed leaf : Int) (d : Nat) (h : d < 18) : (endsN seed leaf).getD d 0 = endN seed leaf d := by simp [endsN, h]
theorem endN_bd (seed leaf : Int) (d : Nat) : U64 (endN seed leaf d) := stepsN_bd _ (startN_bd _ _ _) _
theorem endsN_bd (seed leaf : Int) : ∀ k, U64 ((endsN seed leaf).getD k 0) := by
  intro k
  by_cases h : k < 18
  · rw [endsN_get seed leaf k h]; exact endN_bd _ _ _
  · rw [List.getD_eq_getElem?_getD, List.getElem?_eq_none (by rw [endsN_len]; omega)]; simp [U64]
def leafN (seed leaf : Int) : Int := hashD leW (endsN seed leaf)
theorem leafN_bd (seed leaf : Int) : U64 (leafN seed leaf) := hashD_bd _ _
theorem u64_take {zs : List Int} (h : ∀ k, U64 (zs.getD k 0)) (j : Nat) : ∀ k, U64 ((zs.take j).getD k 0) := by
  intro k
  have := h k
  rw [List.getD_eq_getElem?_getD, List.getElem?_take]
  split
  · simpa [List.getD_eq_getElem?_getD] using this
  · simp [U64]

end Go.Proofs.YtglpbgebcpijaaaGreat

set_option linter.unusedVariables false
namespace Go.Proofs.YtglpbgebcpijaaaGreat
open Go.RowKit Go.Sort

theorem kid_u64 (p : Int × Int × Int) : U64 (kidQ p) := by
  unfold kidQ kidN
  exact hashL_bd _
theorem map_take_snoc (xs : List (Int × Int × Int)) (k : Nat) (h : k < xs.length) : (xs.take (k + 1)).map kidQ = (xs.take k).map kidQ ++ [kidQ (xs.getD k (0, 0, 0))] := by
  rw [List.take_add_one, List.map_append]
  simp [h]

set_option maxRecDepth 10000 in
set_option maxHeartbeats 4000000 in
theorem eachKid_any (a : Option Addr) (n c : Nat) (xs : List (Int × Int × Int)) (w : World) (h : RowPu w a n xs) (hw : PuW xs) (hn : n ≤ 1000) :
    Calls Tryz.prog 108 #[.slice a n c, .func (Fn.func 109) #[] #[]] w fun e w' => ∃ ao co, e = .returned (.slice ao n co) ∧ OwnU w.heap.size w' ao n co (xs.map kidQ) ∧ Below w.heap.size w w' := by
  obtain ⟨i0, hi, hz0, hz1, hz2⟩ := info_parts Tryz.infoU
  have H0 : Hid (RowPu w a n xs) := h
  have HW : Hid (PuW xs) := hw
  have HLX : Hid (xs.length = n) := h.len
  clear h hw
  go_enter Tryz.func108, Tryz.ntmps108
  go_wp2
  go_loopw [5, 10] (fun o i wr => ∃ (k : Nat) (ao : Option Addr) (cc : Nat), k ≤ n ∧ i = .int .i64 k ∧ o = .slice ao k cc ∧ Hid (OwnU w.heap.size wr ao k cc ((xs.take k).map kidQ)) ∧ Below w.heap.size w wr) (fun _ i _ => n - (intOf i).toNat)
  case atStart => exact ⟨0, none, 0, Nat.zero_le _, rfl, rfl, ownU_none _ _, Below.refl _ _⟩
  case round =>
    obtain ⟨k, ao, cc, hk, rfl, rfl, HO, hbr⟩ := hrel
    have hws := hbr.size
    by_cases hlt : k < n
    · obtain ⟨b, off, rfl, hlb, e0, e1, e2⟩ := H0.out.get k hlt
      obtain ⟨y, hy⟩ : ∃ y, y = xs.getD k (0, 0, 0) := ⟨_, rfl⟩
      rw [← hy] at e0 e1 e2
      have HUY : Hid (U64 y.2.1) := by show U64 _; rw [hy]; exact H0.out.rng k
      have HYW : Hid (y.1 ≤ 9223372036854775807 ∧ y.2.2 ≤ 9223372036854775807) := by show _ ∧ _; rw [hy]; exact HW.out k
      have HXK : Hid ((xs.take (k + 1)).map kidQ = (xs.take k).map kidQ ++ [kidQ y]) := by show _ = _; rw [hy]; exact map_take_snoc xs k (by rw [HLX.out]; exact hlt)
      have c0 := (hbr.cell (p := ⟨b, off + k * 3, none⟩) hlb).trans e0
      have c1 := (hbr.cell (p := ⟨b, off + k * 3 + 1, none⟩) hlb).trans e1
      have c2 := (hbr.cell (p := ⟨b, off + k * 3 + 2, none⟩) hlb).trans e2
      have hkni : (k : Int) < (n : Int) := by omega
      have hbw : b < wr.heap.size := by omega
      have hbz : Below wr.heap.size wr (wr.alloc (.cells #[.int .i64 y.1, .int .u64 y.2.1, .int .i64 y.2.2] 120)) := (Below.refl _ _).alloc (Nat.le_refl _) _
      clear hy e0 e1 e2
      go_wp2_with fail
      refine (implKeyId_any y.1 y.2.1 y.2.2 _ HUY.out HYW.out.1 HYW.out.2).mono ?_
      rintro e w2 ⟨rfl, hb2⟩
      have hb2r : Below wr.heap.size wr w2 := keepT hbz hb2
      have B2 : Below w.heap.size w w2 := hbr.trans (hb2r.mono hws)
      obtain ⟨kd, hkd⟩ : ∃ kd, kd = kidQ y := ⟨_, rfl⟩
      rw [show kidN y.1 y.2.1 y.2.2 = kd from hkd.symm]
      have HKU : Hid (U64 kd) := by show U64 _; rw [hkd]; exact kid_u64 y
      rw [← hkd] at HXK
      have hal : Below w2.heap.size w2 (w2.alloc (.cells #[.int .u64 kd] 26)) := (Below.refl _ _).alloc (Nat.le_refl _) _
      have hor := (HO.out.kept hb2r).kept hal
      have B6 : Below w.heap.size w (w2.alloc (.cells #[.int .u64 kd] 26)) := B2.trans (hal.mono B2.size)
      have hs6 := B6.size
      have hcl := cell_oneU w2 kd
      clear hkd HO c0 c1 c2 hb2 hb2r hbz hal
      go_wp2_with (at_builtin; refine wpList_append_own _ rfl (.tmp 14) (.tmp 18) 151 rfl w.heap.size 26 i0 _ 1 8 Tryz.underlying151 hi hz0 hz1 hz2 rfl (by decide) _ k _ rfl hor.row ⟨w2.heap.size, 0, none⟩ 1 1 ([kd].map (Value.int .u64)) rfl rfl hcl (ints_oneCell .u64 [kd]) (by unfold maxLen; omega) (by omega) (by exact hs6) ?_; intro v7 w7 hv7 hg7 _; rw [← List.map_append] at hv7; obtain ⟨a7, c7, rfl, ho7⟩ := ownU_appended (u64_snoc hor.rng HKU.out) hv7; have B7 : Below w.heap.size w w7 := B6.grown hg7 hs6 (fun kx hx => (hor.row.lt kx hx).1); have HO7 : Hid (OwnU w.heap.size w7 a7 (k + 1) c7 ((xs.take (k + 1)).map kidQ)) := (by show OwnU _ _ _ _ _ _; rw [HXK.out]; exact ho7); clear ho7 hv7 hg7 hor hcl)
      go_roundw
      case rel => exact ⟨k + 1, _, c7, by omega, by go_num, rfl, HO7, B7⟩
      case measure => simp [intOf]; omega
    · obtain rfl : k = n := by omega
      have HX : Hid (xs.take k = xs) := by show _ = _; rw [List.take_of_length_le (by rw [HLX.out]; exact Nat.le_refl _)]
      go_wp2
      go_ret
      refine ⟨ao, cc, rfl, ?_, hbr⟩
      have := HO.out
      rw [HX.out] at this
      exact this

theorem ownU_cap {B : Nat} {w : World} {a : Option Addr} {n c : Nat} {zs : List Int} (h : OwnU B w a n c zs) : n ≤ c ∧ c ≤ 9223372036854775807 := by
  rcases h.row.2 with ⟨hv, h0⟩ | ⟨g, cap, cur, hv, _, _, h1, h2, _⟩
  · simp only [Value.slice.injEq] at hv
    omega
  · simp only [Value.slice.injEq] at hv
    unfold maxLen at h2
    omega

set_option maxRecDepth 10000 in
set_option maxHeartbeats 4000000 in
theorem roleOk_any (x : RoP) (a : Option Addr) (n c : Nat) (w : World) (h : RowPu w a n x.ks) (hw : PuW x.ks) (hm : n ≤ 9223372036854775807) :
    Calls Tryz.prog 78 #[.agg #[.slice a n c, .int .i64 x.need]] w (SaysG (roleP x) w) := by
  obtain ⟨w1, hw1⟩ : ∃ w1, w1 = w.alloc (.cells #[.slice a n c, .int .i64 x.need] 113) := ⟨_, rfl⟩
  have hbb : Below w.heap.size w w1 := by rw [hw1]; exact (Below.refl _ _).alloc (Nat.le_refl _) _
  have HB : Hid (w1.heap[w.heap.size]? = some (.cells #[.slice a n c, .int .i64 x.need] 113 (0, 0))) := by show _ = _; rw [hw1]; exact heap_alloc_new w _
  have HR : Hid (∀ W, Below w.heap.size w W → RowPu W a n x.ks) := fun W hW => h.kept hW
  have HL : Hid (x.ks.length = n) := h.len
  have HPW : Hid (PuW x.ks) := hw
  have HW : Hid (_ = _) := hw1
  clear hw1 h hw
  have x0 : w1.cell? ⟨w.heap.size, 0, none⟩ = some (.slice a n c) := (cell_of_row _ _ 0 _ _ (0, 0) HB.out).trans rfl
  go_enter Tryz.func78, Tryz.ntmps78
  go_upto_region 1 with fail
  rw [← HW.out]
  clear HW
  go_wp2_with fail
  refine (inBd_any (n : Int) 1 6 _).mono ?_
  rintro e w2 ⟨rfl, hw2⟩
  have hw2 := hw2.symm
  subst hw2
  by_cases h1 : 1 ≤ (n : Int) ∧ (n : Int) ≤ 6
  case neg =>
    have HF : Hid (¬ roleP x) := fun hr => h1 (by have := hr.1; rw [HL.out] at this; omega)
    rw [decide_eq_false h1]
    go_wp2
    go_ret
    exact saysG_f HF.out hbb
  rw [decide_eq_true h1]
  go_wp2_with fail
  refine (everyPu_any a n c x.ks _ (HR.out _ hbb) hm).mono ?_
  rintro e w3 ⟨b3, rfl, HE, hb3⟩
  have k3 : Below w.heap.size w w3 := keepT hbb hb3
  cases b3 with
  | false =>
    have HF : Hid (¬ roleP x) := fun hr => by have := HE.out.2 (by have := hr.2.2.1; rw [HL.out] at this; exact this); cases this
    clear HE
    go_wp2
    go_ret
    exact saysG_f HF.out k3
  | true =>
  have HP : Hid (∀ k, k < n → pubP (x.ks.getD k (0, 0, 0)).1 (x.ks.getD k (0, 0, 0)).2.1 (x.ks.getD k (0, 0, 0)).2.2) := HE.out.1 rfl
  clear HE x0
  have x0 : w3.cell? ⟨w.heap.size, 0, none⟩ = some (.slice a n c) := (cell_of_row _ _ 0 _ _ (0, 0) (below_kept HB.out hb3)).trans rfl
  go_wp2_with fail
  refine (eachKid_any a n c x.ks _ (HR.out _ k3) HPW.out (by omega)).mono ?_
  rintro e w4 ⟨ao, co, rfl, ho, hb4⟩
  have kb4 := keepT hb3 hb4
  have k4 : Below w.heap.size w w4 := keepT hbb kb4
  have HO : Hid (OwnU w3.heap.size w4 ao n co (x.ks.map kidQ)) := ho
  have hcap := ownU_cap ho
  clear ho x0
  go_wp2_with fail
  refine (allUnlikeU_any ao n co (x.ks.map kidQ) _ HO.out.toRow hcap.1 hcap.2).mono ?_
  rintro e w5 ⟨rfl, hw5⟩
  have hw5 := hw5.symm
  subst hw5
  by_cases h2 : unl (x.ks.map kidQ)
  case neg =>
    have HF : Hid (¬ roleP x) := fun hr => h2 hr.2.2.2
    rw [decide_eq_false h2]
    clear h2
    go_wp2
    go_ret
    exact saysG_f HF.out k4
  rw [decide_eq_true h2]
  have HU : Hid (unl (x.ks.map kidQ)) := h2
  clear h2
  have x0 : w4.cell? ⟨w.heap.size, 0, none⟩ = some (.slice a n c) := (cell_of_row _ _ 0 _ _ (0, 0) (below_kept HB.out kb4)).trans rfl
  have x1 : w4.cell? ⟨w.heap.size, 1, none⟩ = some (.int .i64 x.need) := (cell_of_row _ _ 1 _ _ (0, 0) (below_kept HB.out kb4)).trans rfl
  go_wp2_with fail
  refine (inBd_any x.need 1 (n : Int) _).mono ?_
  rintro e w6 ⟨rfl, hw6⟩
  have hw6 := hw6.symm
  subst hw6
  obtain ⟨bb, hbq⟩ : ∃ bb, bb = decide (1 ≤ x.need ∧ x.need ≤ (n : Int)) := ⟨_, rfl⟩
  rw [← hbq]
  have HQ : Hid (bb = decide (1 ≤ x.need ∧ x.need ≤ (n : Int))) := hbq
  clear hbq
  go_wp2
  go_ret
  refine ⟨bb, rfl, ⟨fun e => ?_, fun hr => ?_⟩, k4⟩
  · have e2 := of_decide_eq_true (HQ.out.symm.trans e)
    exact ⟨by rw [HL.out]; omega, by rw [HL.out]; exact e2, by rw [HL.out]; exact HP.out, HU.out⟩
  · rw [HQ.out]
    exact decide_eq_true (by have := hr.2.1; rw [HL.out] at this; exact this)

set_option maxRecDepth 10000 in
set_option maxHeartbeats 2000000 in
theorem everyRo_any (a : Option Addr) (n c : Nat) (xs : List RoP) (w : World) (h : Ros KT w a n xs) (hn : n ≤ 9223372036854775807) :
    Calls Tryz.prog 77 #[.slice a n c, .func (Fn.func 78) #[] #[]] w (SaysG (∀ k, k < n → roleP (xs.getD k default)) w) := by
  have H0 : Hid (_) := h
  clear h
  go_enter Tryz.func77, Tryz.ntmps77
  go_wp2
  go_loopw [9] (fun i wr => ∃ k : Nat, k ≤ n ∧ i = .int .i64 k ∧ Hid (∀ j, j < k → roleP (xs.getD j default)) ∧ Below w.heap.size w wr) (fun i _ => n - (intOf i).toNat)
  case atStart => exact ⟨0, Nat.zero_le _, rfl, fun k hk => absurd hk (Nat.not_lt_zero _), Below.refl _ _⟩
  case round =>
    obtain ⟨k, hk, rfl, HE, hbr⟩ := hrel
    have hws := hbr.size
    by_cases hlt : k < n
    · obtain ⟨b, off, a1, n1, d1, rfl, hlb, hc, hp, hm, hu, _⟩ := H0.out.get k hlt
      obtain ⟨y, hy⟩ : ∃ y, y = xs.getD k default := ⟨_, rfl⟩
      rw [← hy] at hc hp hu
      have HY : Hid (y = xs.getD k default) := hy
      obtain ⟨c0, c1⟩ := hc.of (w' := wr) (fun i => hbr.cell (p := ⟨b, i, none⟩) hlb)
      have HLN : Hid (y.ks.length = n1) := hp.len
      have HPW : Hid (RowPu wr a1 n1 y.ks) := hp.kept hbr
      have HUW : Hid (PuW y.ks) := hu
      clear hc hy hp hu
      have hkni : (k : Int) < (n : Int) := by omega
      have hbw : b < wr.heap.size := by omega
      have hbz : Below wr.heap.size wr (wr.alloc (.cells #[.slice a1 n1 d1, .int .i64 y.need] 113)) := (Below.refl _ _).alloc (Nat.le_refl _) _
      go_wp2_with fail
      refine (roleOk_any y a1 n1 d1 _ (HPW.out.kept hbz) HUW.out hm).mono ?_
      rintro e w2 ⟨bb, rfl, hbi, hb2⟩
      have B2 : Below w.heap.size w w2 := hbr.trans ((keepT hbz hb2).mono hws)
      clear c0 c1
      cases bb with
      | true =>
        have HP : Hid (roleP y) := hbi.out.1 rfl
        clear hbi
        go_wp2
        go_roundw
        case rel => exact ⟨k + 1, by omega, by go_num, fun j hj => by
          by_cases e : j < k
          · exact HE.out j e
          · obtain rfl : j = k := by omega
            rw [← HY.out]; exact HP.out, B2⟩
        case measure => simp [intOf]; omega
      | false =>
        have HP : Hid (¬ roleP y) := fun h => by have := hbi.out.2 h; cases this
        clear hbi
        go_wp2
        go_ret
        exact saysG_f (fun e => HP.out (by rw [HY.out]; exact e k hlt)) B2
    · obtain rfl : k = n := by omega
      go_wp2
      go_ret
      exact saysG_t HE.out hbr

end Go.Proofs.YtglpbgebcpijaaaGreat

set_option linter.unusedVariables false
namespace Go.Proofs.YtglpbgebcpijaaaGreat
open Go.RowKit Go.Sort

def headB (v e : Int) (ss : List FsP) (n : Nat) : Prop := verP v ∧ timP e ∧ sigsP ss n
set_option maxRecDepth 10000 in
set_option maxHeartbeats 4000000 in
theorem headOk_any (v e : Int) (ss : List FsP) (a : Option Addr) (n c : Nat) (w : World) (h : Fss KT w a n ss) :
    Calls Tryz.prog 76 #[.agg #[.int .i64 v, .int .i64 e, .slice a n c]] w (SaysG (headB v e ss n) w) := by
  obtain ⟨w1, hw1⟩ : ∃ w1, w1 = w.alloc (.cells #[.int .i64 v, .int .i64 e, .slice a n c] 93) := ⟨_, rfl⟩
  have hbb : Below w.heap.size w w1 := by rw [hw1]; exact (Below.refl _ _).alloc (Nat.le_refl _) _
  have HB : Hid (w1.heap[w.heap.size]? = some (.cells #[.int .i64 v, .int .i64 e, .slice a n c] 93 (0, 0))) := by show _ = _; rw [hw1]; exact heap_alloc_new w _
  have HR : Hid (∀ W, Below w.heap.size w W → Fss KT W a n ss) := fun W hW => h.kept hW
  have hm := h.max
  have HW : Hid (_ = _) := hw1
  clear hw1 h
  have x0 : w1.cell? ⟨w.heap.size, 0, none⟩ = some (.int .i64 v) := (cell_of_row _ _ 0 _ _ (0, 0) HB.out).trans rfl
  have x1 : w1.cell? ⟨w.heap.size, 1, none⟩ = some (.int .i64 e) := (cell_of_row _ _ 1 _ _ (0, 0) HB.out).trans rfl
  have x2 : w1.cell? ⟨w.heap.size, 2, none⟩ = some (.slice a n c) := (cell_of_row _ _ 2 _ _ (0, 0) HB.out).trans rfl
  go_enter Tryz.func76, Tryz.ntmps76
  go_upto_region 1 with fail
  rw [← HW.out]
  clear HW
  go_wp2_with fail
  refine (isVersion_any v _).mono ?_
  rintro e1 w2 ⟨rfl, hw2⟩
  have hw2 := hw2.symm
  subst hw2
  by_cases h1 : verP v
  case neg =>
    have HF : Hid (¬ headB v e ss n) := fun hr => h1 hr.1
    rw [decide_eq_false h1]
    clear h1
    go_wp2
    go_ret
    exact saysG_f HF.out hbb
  rw [decide_eq_true h1]
  have H1 : Hid (verP v) := h1
  clear h1
  go_wp2_with fail
  refine (isTim_any e _).mono ?_
  rintro e1 w2 ⟨rfl, hw2⟩
  have hw2 := hw2.symm
  subst hw2
  by_cases h1 : timP e
  case neg =>
    have HF : Hid (¬ headB v e ss n) := fun hr => h1 hr.2.1
    rw [decide_eq_false h1]
    clear h1
    go_wp2
    go_ret
    exact saysG_f HF.out hbb
  rw [decide_eq_true h1]
  have H2 : Hid (timP e) := h1
  clear h1
  by_cases h3 : n ≤ 12
  case neg =>
    have HF : Hid (¬ headB v e ss n) := fun hr => h3 hr.2.2.1
    have q3 : decide ((n : Int) ≤ 12) = false := decide_eq_false (by omega)
    go_wp2
    go_ret
    exact saysG_f HF.out hbb
  have q3 : decide ((n : Int) ≤ 12) = true := decide_eq_true (by omega)
  go_wp2_with fail
  refine (everyFs_any a n c ss _ (HR.out _ hbb) hm).mono ?_
  rintro e1 w3 ⟨b3, rfl, HE, hb3⟩
  have k3 : Below w.heap.size w w3 := keepT hbb hb3
  clear x0 x1 x2
  go_wp2
  go_ret
  refine ⟨b3, rfl, ⟨fun e => ⟨H1.out, H2.out, h3, HE.out.1 e⟩, fun hr => HE.out.2 hr.2.2.2⟩, k3⟩

set_option maxRecDepth 10000 in
set_option maxHeartbeats 1000000 in
theorem isLate_any (v e now : Int) (a : Option Addr) (n c : Nat) (w : World) :
    Calls Tryz.prog 44 #[.agg #[.int .i64 v, .int .i64 e, .slice a n c], .int .i64 now] w fun r w' => r = .returned (.bool (decide (e ≤ now))) ∧ Below w.heap.size w w' := by
  have hb : Below w.heap.size w (w.alloc (.cells #[.int .i64 v, .int .i64 e, .slice a n c] 93)) := (Below.refl _ _).alloc (Nat.le_refl _) _
  by_cases h : e ≤ now
  · have h2 : decide (e ≤ now) = true := decide_eq_true h
    have h3 : decide (now ≥ e) = true := decide_eq_true h
    go_enter Tryz.func44, Tryz.ntmps44
    go_wp2
    go_ret
    exact ⟨by first | rfl | (rw [h2]; rfl), hb⟩
  · have h2 : decide (e ≤ now) = false := decide_eq_false h
    have h3 : decide (now ≥ e) = false := decide_eq_false h
    go_enter Tryz.func44, Tryz.ntmps44
    go_wp2
    go_ret
    exact ⟨by first | rfl | (rw [h2]; rfl), hb⟩

set_option maxRecDepth 10000 in
set_option maxHeartbeats 4000000 in
theorem rootOk_any (x : RfP) (a0 : Option Addr) (n0 c0 : Nat) (a1 : Option Addr) (n1 c1 : Nat) (w : World) (hr : Ros KT w a0 n0 x.rs) (hs : Fss KT w a1 n1 x.ss) :
    Calls Tryz.prog 41 #[.agg #[.int .i64 x.v, .int .i64 x.e, .slice a1 n1 c1, .slice a0 n0 c0]] w (SaysG (rootP x) w) := by
  obtain ⟨w1, hw1⟩ : ∃ w1, w1 = w.alloc (.cells #[.int .i64 x.v, .int .i64 x.e, .slice a1 n1 c1, .slice a0 n0 c0] 95) := ⟨_, rfl⟩
  have hbb : Below w.heap.size w w1 := by rw [hw1]; exact (Below.refl _ _).alloc (Nat.le_refl _) _
  have HB : Hid (w1.heap[w.heap.size]? = some (.cells #[.int .i64 x.v, .int .i64 x.e, .slice a1 n1 c1, .slice a0 n0 c0] 95 (0, 0))) := by show _ = _; rw [hw1]; exact heap_alloc_new w _
  have HS : Hid (∀ W, Below w.heap.size w W → Fss KT W a1 n1 x.ss) := fun W hW => hs.kept hW
  have HLS : Hid (x.ss.length = n1) := hs.len
  have HW : Hid (_ = _) := hw1
  have HR : Hid (∀ W, Below w.heap.size w W → Ros KT W a0 n0 x.rs) := fun W hW => hr.kept hW
  have HLR : Hid (x.rs.length = n0) := hr.len
  have hm0 := hr.max
  clear hr
  clear hw1 hs
  have x0 : w1.cell? ⟨w.heap.size, 0, none⟩ = some (.int .i64 x.v) := (cell_of_row _ _ 0 _ _ (0, 0) HB.out).trans rfl
  have x1 : w1.cell? ⟨w.heap.size, 1, none⟩ = some (.int .i64 x.e) := (cell_of_row _ _ 1 _ _ (0, 0) HB.out).trans rfl
  have x2 : w1.cell? ⟨w.heap.size, 2, none⟩ = some (.slice a1 n1 c1) := (cell_of_row _ _ 2 _ _ (0, 0) HB.out).trans rfl
  have x3 : w1.cell? ⟨w.heap.size, 3, none⟩ = some (.slice a0 n0 c0) := (cell_of_row _ _ 3 _ _ (0, 0) HB.out).trans rfl
  go_enter Tryz.func41, Tryz.ntmps41
  go_upto_region 1 with fail
  rw [← HW.out]
  clear HW
  go_wp2_with fail
  refine (headOk_any x.v x.e x.ss a1 n1 c1 _ (HS.out _ hbb)).mono ?_
  rintro e1 w2 ⟨b2, rfl, HE, hb2⟩
  have k2 : Below w.heap.size w w2 := keepT hbb hb2
  clear x0 x1 x2 x3
  have x0 : w2.cell? ⟨w.heap.size, 0, none⟩ = some (.int .i64 x.v) := (cell_of_row _ _ 0 _ _ (0, 0) (below_kept HB.out hb2)).trans rfl
  have x1 : w2.cell? ⟨w.heap.size, 1, none⟩ = some (.int .i64 x.e) := (cell_of_row _ _ 1 _ _ (0, 0) (below_kept HB.out hb2)).trans rfl
  have x2 : w2.cell? ⟨w.heap.size, 2, none⟩ = some (.slice a1 n1 c1) := (cell_of_row _ _ 2 _ _ (0, 0) (below_kept HB.out hb2)).trans rfl
  have x3 : w2.cell? ⟨w.heap.size, 3, none⟩ = some (.slice a0 n0 c0) := (cell_of_row _ _ 3 _ _ (0, 0) (below_kept HB.out hb2)).trans rfl
  cases b2 with
  | false =>
    have HF : Hid (¬ (rootP x)) := fun hr => by have := HE.out.2 (by show headB _ _ _ _; have h3 := hr.2.2.1; rw [HLS.out] at h3; exact ⟨hr.1, hr.2.1, h3⟩); cases this
    clear HE
    go_wp2
    go_ret
    exact saysG_f HF.out k2
  | true =>
  have HH : Hid (verP x.v ∧ timP x.e ∧ sigsP x.ss x.ss.length) := by
    have h3 := HE.out.1 rfl
    show _ ∧ _ ∧ _
    rw [HLS.out]
    exact h3
  clear HE
  by_cases h3 : n0 = 3
  case neg =>
    have HF : Hid (¬ rootP x) := fun hr => h3 (by have := hr.2.2.2.1; rw [HLR.out] at this; exact this)
    have q3 : ((n0 : Int) == 3) = false := by simp; omega
    go_wp2
    go_ret
    exact saysG_f HF.out k2
  have q3 : ((n0 : Int) == 3) = true := by simp; omega
  have H3 : Hid (n0 = 3) := h3
  clear h3
  go_wp2_with fail
  refine (everyRo_any a0 n0 c0 x.rs _ (HR.out _ k2) hm0).mono ?_
  rintro e1 w3 ⟨b3, rfl, HE, hb3⟩
  have k3 : Below w.heap.size w w3 := keepT hbb (keepT hb2 hb3)
  clear x0 x1 x2 x3
  go_wp2
  go_ret
  refine ⟨b3, rfl, ⟨fun e => ⟨HH.out.1, HH.out.2.1, HH.out.2.2, by rw [HLR.out]; exact H3.out, ?_⟩, fun hr => HE.out.2 ?_⟩, k3⟩
  · have := HE.out.1 e
    rw [H3.out] at this
    exact this
  · rw [H3.out]
    exact hr.2.2.2.2

set_option maxRecDepth 10000 in
set_option maxHeartbeats 4000000 in
theorem stampOk_any (x : SfP) (a1 : Option Addr) (n1 c1 : Nat) (w : World) (hs : Fss KT w a1 n1 x.ss) :
    Calls Tryz.prog 42 #[.agg #[.int .i64 x.v, .int .i64 x.e, .slice a1 n1 c1, .int .i64 x.lv, .int .u64 x.lh]] w (SaysG (stampP x) w) := by
  obtain ⟨w1, hw1⟩ : ∃ w1, w1 = w.alloc (.cells #[.int .i64 x.v, .int .i64 x.e, .slice a1 n1 c1, .int .i64 x.lv, .int .u64 x.lh] 97) := ⟨_, rfl⟩
  have hbb : Below w.heap.size w w1 := by rw [hw1]; exact (Below.refl _ _).alloc (Nat.le_refl _) _
  have HB : Hid (w1.heap[w.heap.size]? = some (.cells #[.int .i64 x.v, .int .i64 x.e, .slice a1 n1 c1, .int .i64 x.lv, .int .u64 x.lh] 97 (0, 0))) := by show _ = _; rw [hw1]; exact heap_alloc_new w _
  have HS : Hid (∀ W, Below w.heap.size w W → Fss KT W a1 n1 x.ss) := fun W hW => hs.kept hW
  have HLS : Hid (x.ss.length = n1) := hs.len
  have HW : Hid (_ = _) := hw1
  clear hw1 hs
  have x0 : w1.cell? ⟨w.heap.size, 0, none⟩ = some (.int .i64 x.v) := (cell_of_row _ _ 0 _ _ (0, 0) HB.out).trans rfl
  have x1 : w1.cell? ⟨w.heap.size, 1, none⟩ = some (.int .i64 x.e) := (cell_of_row _ _ 1 _ _ (0, 0) HB.out).trans rfl
  have x2 : w1.cell? ⟨w.heap.size, 2, none⟩ = some (.slice a1 n1 c1) := (cell_of_row _ _ 2 _ _ (0, 0) HB.out).trans rfl
  have x3 : w1.cell? ⟨w.heap.size, 3, none⟩ = some (.int .i64 x.lv) := (cell_of_row _ _ 3 _ _ (0, 0) HB.out).trans rfl
  have x4 : w1.cell? ⟨w.heap.size, 4, none⟩ = some (.int .u64 x.lh) := (cell_of_row _ _ 4 _ _ (0, 0) HB.out).trans rfl
  go_enter Tryz.func42, Tryz.ntmps42
  go_upto_region 1 with fail
  rw [← HW.out]
  clear HW
  go_wp2_with fail
  refine (headOk_any x.v x.e x.ss a1 n1 c1 _ (HS.out _ hbb)).mono ?_
  rintro e1 w2 ⟨b2, rfl, HE, hb2⟩
  have k2 : Below w.heap.size w w2 := keepT hbb hb2
  clear x0 x1 x2 x3 x4
  have x0 : w2.cell? ⟨w.heap.size, 0, none⟩ = some (.int .i64 x.v) := (cell_of_row _ _ 0 _ _ (0, 0) (below_kept HB.out hb2)).trans rfl
  have x1 : w2.cell? ⟨w.heap.size, 1, none⟩ = some (.int .i64 x.e) := (cell_of_row _ _ 1 _ _ (0, 0) (below_kept HB.out hb2)).trans rfl
  have x2 : w2.cell? ⟨w.heap.size, 2, none⟩ = some (.slice a1 n1 c1) := (cell_of_row _ _ 2 _ _ (0, 0) (below_kept HB.out hb2)).trans rfl
  have x3 : w2.cell? ⟨w.heap.size, 3, none⟩ = some (.int .i64 x.lv) := (cell_of_row _ _ 3 _ _ (0, 0) (below_kept HB.out hb2)).trans rfl
  have x4 : w2.cell? ⟨w.heap.size, 4, none⟩ = some (.int .u64 x.lh) := (cell_of_row _ _ 4 _ _ (0, 0) (below_kept HB.out hb2)).trans rfl
  cases b2 with
  | false =>
    have HF : Hid (¬ (stampP x)) := fun hr => by have := HE.out.2 (by show headB _ _ _ _; have h3 := hr.2.2.1; rw [HLS.out] at h3; exact ⟨hr.1, hr.2.1, h3⟩); cases this
    clear HE
    go_wp2
    go_ret
    exact saysG_f HF.out k2
  | true =>
  have HH : Hid (verP x.v ∧ timP x.e ∧ sigsP x.ss x.ss.length) := by
    have h3 := HE.out.1 rfl
    show _ ∧ _ ∧ _
    rw [HLS.out]
    exact h3
  clear HE
  go_wp2_with fail
  refine (isVersion_any x.lv _).mono ?_
  rintro e1 w3 ⟨rfl, hw3⟩
  have hw3 := hw3.symm
  subst hw3
  obtain ⟨bb, hbq⟩ : ∃ bb, bb = decide (verP x.lv) := ⟨_, rfl⟩
  rw [← hbq]
  have HQ : Hid (bb = decide (verP x.lv)) := hbq
  clear hbq x0 x1 x2 x3 x4
  go_wp2
  go_ret
  exact ⟨bb, rfl, ⟨fun e => ⟨HH.out.1, HH.out.2.1, HH.out.2.2, of_decide_eq_true (HQ.out.symm.trans e)⟩, fun hr => by rw [HQ.out]; exact decide_eq_true hr.2.2.2⟩, k2⟩

set_option maxRecDepth 10000 in
set_option maxHeartbeats 4000000 in
theorem listOk_any (x : LfP) (a0 : Option Addr) (n0 c0 : Nat) (a1 : Option Addr) (n1 c1 : Nat) (w : World) (hr : RowTe w a0 n0 x.es) (hm0 : n0 ≤ 9223372036854775807) (hs : Fss KT w a1 n1 x.ss) :
    Calls Tryz.prog 43 #[.agg #[.int .i64 x.v, .int .i64 x.e, .slice a1 n1 c1, .slice a0 n0 c0]] w (SaysG (listP x) w) := by
  obtain ⟨w1, hw1⟩ : ∃ w1, w1 = w.alloc (.cells #[.int .i64 x.v, .int .i64 x.e, .slice a1 n1 c1, .slice a0 n0 c0] 99) := ⟨_, rfl⟩
  have hbb : Below w.heap.size w w1 := by rw [hw1]; exact (Below.refl _ _).alloc (Nat.le_refl _) _
  have HB : Hid (w1.heap[w.heap.size]? = some (.cells #[.int .i64 x.v, .int .i64 x.e, .slice a1 n1 c1, .slice a0 n0 c0] 99 (0, 0))) := by show _ = _; rw [hw1]; exact heap_alloc_new w _
  have HS : Hid (∀ W, Below w.heap.size w W → Fss KT W a1 n1 x.ss) := fun W hW => hs.kept hW
  have HLS : Hid (x.ss.length = n1) := hs.len
  have HW : Hid (_ = _) := hw1
  have HR : Hid (∀ W, Below w.heap.size w W → RowTe W a0 n0 x.es) := fun W hW => hr.kept hW
  have HLR : Hid (x.es.length = n0) := hr.len
  clear hr
  clear hw1 hs
  have x0 : w1.cell? ⟨w.heap.size, 0, none⟩ = some (.int .i64 x.v) := (cell_of_row _ _ 0 _ _ (0, 0) HB.out).trans rfl
  have x1 : w1.cell? ⟨w.heap.size, 1, none⟩ = some (.int .i64 x.e) := (cell_of_row _ _ 1 _ _ (0, 0) HB.out).trans rfl
  have x2 : w1.cell? ⟨w.heap.size, 2, none⟩ = some (.slice a1 n1 c1) := (cell_of_row _ _ 2 _ _ (0, 0) HB.out).trans rfl
  have x3 : w1.cell? ⟨w.heap.size, 3, none⟩ = some (.slice a0 n0 c0) := (cell_of_row _ _ 3 _ _ (0, 0) HB.out).trans rfl
  go_enter Tryz.func43, Tryz.ntmps43
  go_upto_region 1 with fail
  rw [← HW.out]
  clear HW
  go_wp2_with fail
  refine (headOk_any x.v x.e x.ss a1 n1 c1 _ (HS.out _ hbb)).mono ?_
  rintro e1 w2 ⟨b2, rfl, HE, hb2⟩
  have k2 : Below w.heap.size w w2 := keepT hbb hb2
  clear x0 x1 x2 x3
  have x0 : w2.cell? ⟨w.heap.size, 0, none⟩ = some (.int .i64 x.v) := (cell_of_row _ _ 0 _ _ (0, 0) (below_kept HB.out hb2)).trans rfl
  have x1 : w2.cell? ⟨w.heap.size, 1, none⟩ = some (.int .i64 x.e) := (cell_of_row _ _ 1 _ _ (0, 0) (below_kept HB.out hb2)).trans rfl
  have x2 : w2.cell? ⟨w.heap.size, 2, none⟩ = some (.slice a1 n1 c1) := (cell_of_row _ _ 2 _ _ (0, 0) (below_kept HB.out hb2)).trans rfl
  have x3 : w2.cell? ⟨w.heap.size, 3, none⟩ = some (.slice a0 n0 c0) := (cell_of_row _ _ 3 _ _ (0, 0) (below_kept HB.out hb2)).trans rfl
  cases b2 with
  | false =>
    have HF : Hid (¬ (listP x)) := fun hr => by have := HE.out.2 (by show headB _ _ _ _; have h3 := hr.2.2.1; rw [HLS.out] at h3; exact ⟨hr.1, hr.2.1, h3⟩); cases this
    clear HE
    go_wp2
    go_ret
    exact saysG_f HF.out k2
  | true =>
  have HH : Hid (verP x.v ∧ timP x.e ∧ sigsP x.ss x.ss.length) := by
    have h3 := HE.out.1 rfl
    show _ ∧ _ ∧ _
    rw [HLS.out]
    exact h3
  clear HE
  by_cases h3 : n0 ≤ 20
  case neg =>
    have HF : Hid (¬ listP x) := fun hr => h3 (by have := hr.2.2.2.1; rw [HLR.out] at this; exact this)
    have q3 : decide ((n0 : Int) ≤ 20) = false := decide_eq_false (by omega)
    go_wp2
    go_ret
    exact saysG_f HF.out k2
  have q3 : decide ((n0 : Int) ≤ 20) = true := decide_eq_true (by omega)
  go_wp2_with fail
  refine (everyTe_any a0 n0 c0 x.es _ (HR.out _ k2) hm0).mono ?_
  rintro e1 w3 ⟨b3, rfl, HE, hb3⟩
  have k3 : Below w.heap.size w w3 := keepT hbb (keepT hb2 hb3)
  clear x0 x1 x2 x3
  go_wp2
  go_ret
  refine ⟨b3, rfl, ⟨fun e => ⟨HH.out.1, HH.out.2.1, HH.out.2.2, by rw [HLR.out]; exact h3, by rw [HLR.out]; exact HE.out.1 e⟩, fun hr => HE.out.2 (by have := hr.2.2.2.2; rw [HLR.out] at this; exact this)⟩, k3⟩

end Go.Proofs.YtglpbgebcpijaaaGreat

