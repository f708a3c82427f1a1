import Derived.Test.YtifdcfchliaipaaQL9
namespace Go.Proofs.Ytifdcfchliaipaa
open Go.RowKit Go.Sort

set_option maxHeartbeats 2000000 in
theorem l15Both_any : ∀ (N : Nat) (old : Int) (m n : Nat) (fl : Bool) (a : Option Addr) (l c : Nat) (ps : List Int) (w : World), n ≤ N → 0 < m → m ≤ n → n ≤ 1000 → U64 old → RowU w a l ps → l ≤ c → c ≤ 9223372036854775807 →
    Calls Try.prog 48 #[.int .u64 old, .int .i64 m, .int .i64 n, .bool fl, .slice a l c] w fun e w' => e = .returned (.tuple #[.int .u64 (bothR true old m n fl ps).1, .int .u64 (bothR true old m n fl ps).2.1, .bool (bothR true old m n fl ps).2.2]) ∧ Below w.heap.size w w' := by
  intro N
  induction N with
  | zero => intro old m n fl a l c ps w hN h0; omega
  | succ N ih =>
    intro old m n fl a l c ps w hN h0 hin hn ho h hc hcm
    have H0 : Hid (RowU w a l ps) := h
    have HL : Hid (ps.length = l) := h.len
    have HRG : Hid (∀ k, U64 (ps.getD k 0)) := h.rng
    clear h
    by_cases h1 : m = n
    · subst h1
      cases fl with
      | true =>
        have HE : Hid (bothR true old m m true ps = (old, old, decide (l = 0))) := by show _ = _; rw [bothR_known true old m m ps (.inl (Nat.le_refl _)), HL.out]
        by_cases hl : l = 0
        · subst hl
          go_enter Try.func48, Try.ntmps48
          go_wp2
          go_ret3
          exact ⟨by rw [HE.out]; rfl, Below.refl _ _⟩
        · have z0 : ((l : Int) == 0) = false := by simp; omega
          have z1 : decide (l = 0) = false := by simp; omega
          go_enter Try.func48, Try.ntmps48
          go_wp2
          go_ret3
          exact ⟨by rw [HE.out, z1]; rfl, Below.refl _ _⟩
      | false =>
        have HE : Hid (bothR true old m m false ps = if l = 1 then (ps.getD 0 0, ps.getD 0 0, true) else (0, 0, false)) := by show _ = _; rw [bothR_spec old m m ps (.inl (Nat.le_refl _)), HL.out]
        by_cases hl : l = 1
        · subst hl
          obtain ⟨b, off, rfl, hlb, hc0⟩ := H0.out.get 0 (by omega)
          rw [Nat.add_zero] at hc0
          obtain ⟨p, hp⟩ : ∃ p, p = ps.getD 0 0 := ⟨_, rfl⟩
          rw [← hp] at hc0 HE
          clear hp
          go_enter Try.func48, Try.ntmps48
          go_wp2
          go_quiet (fail)
          go_wp2
          go_ret3
          exact ⟨by rw [HE.out]; rfl, below_dnT (Below.refl _ _) nq⟩
        · have z0 : ((l : Int) != 1) = true := by simp; omega
          have z2 : ¬ (l : Int) = 1 := by omega
          go_enter Try.func48, Try.ntmps48
          go_wp2
          go_ret3
          exact ⟨by rw [HE.out, if_neg hl]; rfl, Below.refl _ _⟩
    · have z1 : ((m : Int) == (n : Int)) = false := by simp; omega
      have z3 : ¬ (m : Int) = (n : Int) := by omega
      by_cases hl : l = 0
      · subst hl
        have HE : Hid (bothR true old m n fl ps = (0, 0, false)) := bothR_nil true old m n fl ps (by omega) (by omega) HL.out
        go_enter Try.func48, Try.ntmps48
        go_wp2
        go_ret3
        exact ⟨by rw [HE.out]; rfl, Below.refl _ _⟩
      · obtain ⟨q, rfl⟩ : ∃ q, l = q + 1 := ⟨l - 1, by omega⟩
        have zl1 : ((q : Int) + 1 == 0) = false := by simp; omega
        have zl2 : ¬ (q : Int) + 1 = 0 := by omega
        obtain ⟨b, off, rfl, hlb, hc0⟩ := H0.out.get q (by omega)
        obtain ⟨p, hp⟩ : ∃ p, p = ps.getD q 0 := ⟨_, rfl⟩
        have HP : Hid (p = ps.getD q 0) := hp
        have hpb := H0.out.rng q
        rw [← hp] at hc0 hpb
        clear hp
        have j1 : ((q + 1 : Nat) : Int) - 1 = (q : Int) := by omega
        have j2 : IntKind.i64.wrap (q : Int) = (q : Int) := by rw [IntKind.wrap_i64]; omega
        have j4 : (q : Int) ≤ (c : Int) := by omega
        have j7 : (q : Int) < (q : Int) + 1 := by omega
        have hkl := hk_lt (show 2 ≤ n by omega)
        have hkp := hk_pos n
        obtain ⟨k, hkk⟩ : ∃ k, k = hk n := ⟨_, rfl⟩
        have HKK : Hid (k = hk n) := hkk
        rw [← hkk] at hkl hkp
        have HRW : Hid (∀ W, Below w.heap.size w W → RowU W (some ⟨b, off, none⟩) q (ps.take q)) := fun W hW => (H0.out.take q (by omega)).kept hW
        by_cases hik : m ≤ k
        · skip
          have k1 : (m : Int) ≤ (k : Int) := by omega
          have he := bothR_lo true old m n fl ps (by omega) (by omega) q HL.out (by rw [← hkk]; exact hik)
          rw [← hkk, ← HP.out] at he
          obtain ⟨v, hv⟩ : ∃ v, v = bothR true old m k fl (ps.take q) := ⟨_, rfl⟩
          have hvb := bothR_bd _ true old m k fl (ps.take q) (Nat.le_refl _) ho (u64_take HRG.out q)
          have ih2 := fun W (hW : Below w.heap.size w W) => ih old m k fl (some ⟨b, off, none⟩) q c (ps.take q) W (by omega) h0 hik (by omega) ho (HRW.out W hW) (by omega) hcm
          rw [← hv] at ih2 hvb he
          obtain ⟨v0, v1, ok⟩ := v
          have HE : Hid (bothR true old m n fl ps = (v0, pairN v1 p, ok)) := he
          have IH : Hid (_) := ih2
          have hv1 := hvb.2
          clear hkk he hv ih2 ih HRW hvb
          go_enter Try.func48, Try.ntmps48
          go_wp2_with fail
          refine (l15Half_any _ _ (by omega)).mono ?_
          rintro e w2 ⟨rfl, hw⟩
          have hw2 := hw.symm
          subst hw2
          rw [← HKK.out]
          go_wp2_with fail
          refine (IH.out _ (Below.refl _ _)).mono ?_
          rintro e w3 ⟨rfl, hb3⟩
          have hcl3 : w3.cell? ⟨b, off + q, none⟩ = some (.int .u64 p) := (hb3.cell (p := ⟨b, off + q, none⟩) hlb).trans hc0
          go_wp2_with fail
          refine (l15Pair_any v1 p _ hv1 hpb).mono ?_
          rintro e w4 ⟨rfl, hb4⟩
          go_wp2
          go_ret3
          exact ⟨by rw [HE.out]; rfl, keepT hb3 hb4⟩
        · skip
          obtain ⟨q2, rfl⟩ : ∃ q2, m = k + q2 := ⟨m - k, by omega⟩
          obtain ⟨d, rfl⟩ : ∃ d, n = k + d := ⟨n - k, by omega⟩
          have k1 : ¬ (k : Int) + (q2 : Int) ≤ (k : Int) := by omega
          have k2 : (k : Int) + (q2 : Int) - (k : Int) = (q2 : Int) := by omega
          have k3 : (k : Int) + (d : Int) - (k : Int) = (d : Int) := by omega
          have k4 : IntKind.i64.wrap (q2 : Int) = (q2 : Int) := by rw [IntKind.wrap_i64]; omega
          have k5 : IntKind.i64.wrap (d : Int) = (d : Int) := by rw [IntKind.wrap_i64]; omega
          have he := bothR_hi true old (k + q2) (k + d) fl ps (by omega) (by omega) q HL.out (by rw [← hkk]; omega)
          rw [← hkk, ← HP.out, Nat.add_sub_cancel_left, Nat.add_sub_cancel_left, if_pos rfl] at he
          obtain ⟨v, hv⟩ : ∃ v, v = bothR true old q2 d false (ps.take q) := ⟨_, rfl⟩
          have hvb := bothR_bd _ true old q2 d false (ps.take q) (Nat.le_refl _) ho (u64_take HRG.out q)
          have ih2 := fun W (hW : Below w.heap.size w W) => ih old q2 d false (some ⟨b, off, none⟩) q c (ps.take q) W (by omega) (by omega) (by omega) (by omega) ho (HRW.out W hW) (by omega) hcm
          rw [← hv] at ih2 hvb he
          obtain ⟨v0, v1, ok⟩ := v
          have HE : Hid (bothR true old (k + q2) (k + d) fl ps = (pairN p v0, pairN p v1, ok)) := he
          have IH : Hid (_) := ih2
          have hv1 := hvb.2
          have hv0 := hvb.1
          clear hkk he hv ih2 ih HRW hvb
          go_enter Try.func48, Try.ntmps48
          go_wp2_with fail
          refine (l15Half_any _ _ (by omega)).mono ?_
          rintro e w2 ⟨rfl, hw⟩
          have hw2 := hw.symm
          subst hw2
          rw [← HKK.out]
          go_wp2_with fail
          refine (IH.out _ (Below.refl _ _)).mono ?_
          rintro e w3 ⟨rfl, hb3⟩
          have hcl3 : w3.cell? ⟨b, off + q, none⟩ = some (.int .u64 p) := (hb3.cell (p := ⟨b, off + q, none⟩) hlb).trans hc0
          have qc0 := cell_regrown hcl3
          have ca0 : Hid (∀ d os, Calls Try.prog 63 #[.int .u64 p, .int .u64 v0] (grow (redrawn w3 d) os) fun e w'' => e = .returned (.int .u64 (pairN p v0)) ∧ ∃ p : Regrown, w'' = grow (redrawn w3 p.d) p.os) := fun d os => Calls.regrown_of (l15Pair_any p v0 _ hpb hv0)
          have ca1 : Hid (∀ d os, Calls Try.prog 63 #[.int .u64 p, .int .u64 v1] (grow (redrawn w3 d) os) fun e w'' => e = .returned (.int .u64 (pairN p v1)) ∧ ∃ p : Regrown, w'' = grow (redrawn w3 p.d) p.os) := fun d os => Calls.regrown_of (l15Pair_any p v1 _ hpb hv1)
          go_wp2_with fail
          refine wp_region_quiet_below (by kernel_rfl) (by kernel_rfl) ?_
          go_big_quiet_step (fail)
          go_big_quiet_step (fail)
          go_big_quiet_step (fail)
          go_big_quiet_step (fail)
          go_big_quiet_step (fail)
          go_big_quiet_step (exact ca0.out _ _)
          go_big_quiet_step (fail)
          go_big_quiet_step (fail)
          go_big_quiet_step (fail)
          go_big_quiet_step (fail)
          go_big_quiet_step (fail)
          go_big_quiet_step (exact ca1.out _ _)
          go_big_quiet_step (fail)
          go_big_quiet_step (fail)
          go_big_quiet_step (fail)
          go_big_quiet_step (fail)
          refine wpQuiet_nil ?_
          intro _ hw'
          obtain ⟨⟨dq, osq⟩, hw''⟩ := hw'
          subst hw''
          have HBQ : Hid (Below w3.heap.size w3 (grow (redrawn w3 dq) osq)) := below_regrown w3 dq osq
          go_wp2
          go_ret3
          exact ⟨by rw [HE.out]; rfl, keepT hb3 HBQ.out⟩

end Go.Proofs.Ytifdcfchliaipaa
