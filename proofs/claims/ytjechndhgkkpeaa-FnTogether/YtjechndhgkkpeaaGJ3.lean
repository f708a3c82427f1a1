import Derived.Test.YtjechndhgkkpeaaGJ1
namespace Go.Proofs.Ytjechndhgkkpeaa
open Go.RowKit

theorem results_sh {fn : Func} {t : Tmp} (h : fn.results = #[.cell t 33]) (tmps : Array Value) (g : Nat) (ht : tmps.getD t undef = .pointer (some ⟨g, 0, none⟩)) (w : World) (p : Int × Int)
    (hb : BoxS 33 g w p) : (results fn tmps).run Try.prog w = .ok (sigv p) w := by
  have d0 := hb.c0
  have d1 := hb.c1
  clear hb
  have ht' : tmps[t]?.getD undef = .pointer (some ⟨g, 0, none⟩) := by rw [← ht]; simp
  simp [results, h, go_sem, ht', d0, d1, sigv]

def partP (p : Int × Int) (zs : List Int) (k e : Int) : Prop := (lamR zs p.1).2 = true ∧ expP p.2 ∧ expP e ∧ secP k
instance (p : Int × Int) (zs : List Int) (k e : Int) : Decidable (partP p zs k e) := by unfold partP; infer_instance
def partR (p : Int × Int) (zs : List Int) (k e : Int) : Int × Bool := if partP p zs k e then ((k + e * ((lamR zs p.1).1 * p.2 % 500000003)) % 500000003, true) else (0, false)
theorem lamR_bd (zs : List Int) (i : Int) : 0 ≤ (lamR zs i).1 ∧ (lamR zs i).1 < 500000003 := by
  unfold lamR
  split
  · exact lamL_bd zs i
  · decide
theorem part_same (k e l v : Int) : (k + e * l % 500000003 * v) % 500000003 = (k + e * (l * v % 500000003)) % 500000003 := by
  rw [Int.add_emod, Int.mul_emod, Int.emod_emod_of_dvd _ (Int.dvd_refl _), ← Int.mul_emod, ← Int.add_emod]
  rw [Int.add_emod k (e * (l * v % 500000003)), Int.mul_emod e, Int.emod_emod_of_dvd _ (Int.dvd_refl _), ← Int.mul_emod, ← Int.add_emod, Int.mul_assoc]

set_option maxHeartbeats 2000000 in
theorem implSignPart_any (p : Int × Int) (a : Option Addr) (n c : Nat) (zs : List Int) (k e : Int) (w : World) (h : Row64 w a n zs) (hn : n ≤ c) (hc : c ≤ 9223372036854775807) :
    Calls Try.prog 15 #[sigv p, .slice a n c, .int .i64 k, .int .i64 e] w fun r w' => r = .returned (pair (partR p zs k e)) ∧ Below w.heap.size w w' := by
  have H0 : Hid (Row64 w a n zs) := h
  clear h
  obtain ⟨at_, v⟩ := p
  obtain ⟨lo, hlo⟩ : ∃ lo, lo = lamR zs at_ := ⟨_, rfl⟩
  have HLO : Hid (lo = lamR zs at_) := hlo
  have hlb := lamR_bd zs at_
  have HU : Hid (partR (at_, v) zs k e = if (lo.2 = true ∧ expP v ∧ expP e ∧ secP k) then ((k + e * (lo.1 * v % 500000003)) % 500000003, true) else (0, false)) := by
    show _ = _
    unfold partR partP
    rw [hlo]
  rw [← hlo] at hlb
  clear hlo
  obtain ⟨l, ok⟩ := lo
  simp only at hlb HU
  have hbx := boxS_new 33 w at_ v
  have hb0 : Below w.heap.size w (w.alloc (.cells #[.int .i64 at_, .int .i64 v] 33)) := (Below.refl _ _).alloc (Nat.le_refl _) _
  rw [sigv]
  go_enter Try.func15, Try.ntmps15
  go_wp2_with fail
  obtain ⟨w1, hw1⟩ : ∃ w1, w1 = w.alloc (.cells #[.int .i64 at_, .int .i64 v] 33) := ⟨_, rfl⟩
  rw [← hw1] at hbx hb0 ⊢
  clear hw1
  refine (implLambda_any a n c zs at_ _ (H0.out.kept hb0) hn hc).mono ?_
  rintro r w2 ⟨rfl, hb2⟩
  have B2 := keep3 hb0 hb2
  have hbx2 := hbx.kept hb2
  have q1 := hbx2.c1
  rw [← HLO.out, pair]
  clear hb0 hb2 hbx hbx2
  cases hok : ok with
  | false =>
    rw [hok] at HU
    have HR : Hid (partR (at_, v) zs k e = (0, false)) := by show _ = _; rw [HU.out, if_neg (fun hh => by cases hh.1)]
    clear hok
    go_wp2
    go_ret2
    exact ⟨by rw [HR.out]; rfl, B2⟩
  | true =>
    rw [hok] at HU
    clear hok
    by_cases h1 : expP v
    · by_cases h2 : expP e
      · by_cases h3 : secP k
        · have HR : Hid (partR (at_, v) zs k e = ((k + e * (l * v % 500000003)) % 500000003, true)) := by show _ = _; rw [HU.out, if_pos ⟨rfl, h1, h2, h3⟩]
          have hl0 := hlb.1
          have hl1 := hlb.2
          have hv0 := h1.1
          have hv1 := h1.2
          have he0 := h2.1
          have he1 := h2.2
          have hk0 := h3.1
          have hk1 := h3.2
          obtain ⟨hp0, hp1⟩ := prod_bd hl0 (show l < 1000000007 by omega) hv0 (show v < 1000000007 by omega) (Int.le_refl _)
          obtain ⟨hm0, hm1⟩ := mod_bd (l * v) (show (1 : Int) ≤ 500000003 by decide)
          go_wp2_with fail
          refine (isExponent_any v _).mono ?_
          rintro r w3 ⟨rfl, rfl⟩
          rw [decide_eq_true h1]
          go_wp2_with fail
          refine (isExponent_any e _).mono ?_
          rintro r w3 ⟨rfl, rfl⟩
          rw [decide_eq_true h2]
          go_wp2_with fail
          refine (isSecret_any k _).mono ?_
          rintro r w3 ⟨rfl, rfl⟩
          rw [decide_eq_true h3]
          go_wp2_with fail
          refine (answerTo_any k e (l * v % 500000003) _ ⟨by omega, hk1⟩ h2 ⟨hm0, by omega⟩).mono ?_
          rintro r w3 ⟨rfl, rfl⟩
          go_wp2
          go_ret2
          exact ⟨by rw [HR.out]; rfl, B2⟩
        · have HR : Hid (partR (at_, v) zs k e = (0, false)) := by show _ = _; rw [HU.out, if_neg (fun hh => h3 hh.2.2.2)]
          go_wp2_with fail
          refine (isExponent_any v _).mono ?_
          rintro r w3 ⟨rfl, rfl⟩
          rw [decide_eq_true h1]
          go_wp2_with fail
          refine (isExponent_any e _).mono ?_
          rintro r w3 ⟨rfl, rfl⟩
          rw [decide_eq_true h2]
          go_wp2_with fail
          refine (isSecret_any k _).mono ?_
          rintro r w3 ⟨rfl, rfl⟩
          rw [decide_eq_false h3]
          go_wp2
          go_ret2
          exact ⟨by rw [HR.out]; rfl, B2⟩
      · have HR : Hid (partR (at_, v) zs k e = (0, false)) := by show _ = _; rw [HU.out, if_neg (fun hh => h2 hh.2.2.1)]
        go_wp2_with fail
        refine (isExponent_any v _).mono ?_
        rintro r w3 ⟨rfl, rfl⟩
        rw [decide_eq_true h1]
        go_wp2_with fail
        refine (isExponent_any e _).mono ?_
        rintro r w3 ⟨rfl, rfl⟩
        rw [decide_eq_false h2]
        go_wp2
        go_ret2
        exact ⟨by rw [HR.out]; rfl, B2⟩
    · have HR : Hid (partR (at_, v) zs k e = (0, false)) := by show _ = _; rw [HU.out, if_neg (fun hh => h1 hh.2.1)]
      go_wp2_with fail
      refine (isExponent_any v _).mono ?_
      rintro r w3 ⟨rfl, rfl⟩
      rw [decide_eq_false h1]
      go_wp2
      go_ret2
      exact ⟨by rw [HR.out]; rfl, B2⟩

end Go.Proofs.Ytjechndhgkkpeaa
