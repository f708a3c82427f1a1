import Derived.Test.YtjechndhgkkpeaaLG1
import Derived.Test.YtjechndhgkkpeaaRS1
namespace Go.Proofs.Ytjechndhgkkpeaa
open Go.RowKit

abbrev QI : Int := 500000003
def ivQ (u : Int) : Int := (invV (u % QI) QI).1
theorem cg_mod (u : Int) : Cg QI (u % QI) u := ⟨-(u / QI), by have := Int.emod_add_mul_ediv u QI; grind⟩
theorem mod_of_cg {u v : Int} (h : Cg QI u v) : u % QI = v % QI := Int.emod_eq_emod_iff_emod_sub_eq_zero.2 (Int.emod_eq_zero_of_dvd h)
theorem ivQ_inv : Inv QI ivQ := by
  intro u hu
  have h0 : u % QI ≠ 0 := fun h => hu (Int.dvd_of_emod_eq_zero h)
  have h1 : 0 ≤ u % QI := Int.emod_nonneg _ (by decide)
  have h2 : u % QI < QI := Int.emod_lt_of_pos _ (by decide)
  obtain ⟨A, hA⟩ := Int.eq_ofNat_of_zero_le h1
  have hA2 : (A : Int) < 500000003 := by rw [← hA]; exact h2
  have hA0 : (A : Int) ≠ 0 := by rw [← hA]; exact h0
  have hg := q_gcd A (by omega) (by omega)
  have ht := inv_tells A 500000003 (by decide) hg
  dsimp only at ht
  have hv : (invV (u % QI) QI).1 = (eu 500000003 A 0 1).2 % ((500000003 : Nat) : Int) := by
    rw [hA]
    unfold invV
    rw [if_pos (by unfold invOk QI; omega), Int.toNat_natCast, show (QI).toNat = 500000003 from rfl, if_pos (by rw [eu_gcd]; exact hg)]
    rfl
  have h3 : ivQ u * (A : Int) % QI = 1 := by
    rw [ivQ, hv]
    exact ht.2.2
  have h4 : Cg QI (ivQ u * u) (ivQ u * (A : Int)) := Cg.mul Cg.rfl' (by rw [← hA]; exact (cg_mod u).symm)
  refine h4.trans ?_
  have := cg_mod (ivQ u * (A : Int))
  rw [h3] at this
  exact this.symm

theorem lamL_cg (i : Int) : ∀ (zs : List Int) (a : Int), Cg QI (zs.foldl (lamS i) a) (a * lp ivQ zs i) := by
  intro zs
  induction zs with
  | nil => intro a; exact Cg.of_eq (by simp [lp])
  | cons z zs ih =>
    intro a
    rw [List.foldl_cons]
    refine (ih _).trans ?_
    rw [lp]
    have h1 : Cg QI (lamS i a z) (a * tf ivQ z i) := by
      unfold lamS tf
      split
      · exact Cg.of_eq (by grind)
      · have e1 := cg_mod (a * z % 500000003 * ivQ (z - i))
        have e2 := Cg.mul (cg_mod (a * z)) (Cg.rfl' (Q := QI) (a := ivQ (z - i)))
        exact (e1.trans e2).trans (Cg.of_eq (by grind))
    exact (Cg.mul h1 Cg.rfl').trans (Cg.of_eq (by grind))
theorem lamL_lp (zs : List Int) (i : Int) : Cg QI (lamL zs i) (lp ivQ zs i) := (lamL_cg i zs 1).trans (Cg.of_eq (by grind))

theorem sw_snoc (L F : Int → Int) (v : Int) : ∀ ws : List Int, sw L F (ws ++ [v]) = sw L F ws + L v * F v := by
  intro ws
  induction ws with
  | nil => simp [sw]
  | cons w ws ih => rw [List.cons_append, sw, sw, ih]; grind
theorem sumF_sw (t : Nat → Int) (L F : Int → Int) (zs : List Int) (h : ∀ j, j < zs.length → Cg QI (t j) (L (zs.getD j 0) * F (zs.getD j 0))) : ∀ k, k ≤ zs.length → Cg QI (sumF t k) (sw L F (zs.take k)) := by
  intro k
  induction k with
  | zero => intro _; exact Cg.of_eq (by simp [sumF, sw])
  | succ k ih =>
    intro hk
    have e : zs.take (k + 1) = zs.take k ++ [zs.getD k 0] := by
      rw [List.take_add_one]
      simp [show k < zs.length by omega]
    rw [e, sw_snoc, sumF]
    exact (cg_mod _).trans (Cg.add (ih (by omega)) (h k (by omega)))

/-- What is restored: the value at 0. -/
theorem restored (ps : List (Int × Int)) (F : Int → Int) (ha : Apart QI (ats ps)) (hd : Deg ps.length F) (hv : ∀ j, j < ps.length → Cg QI ((vls ps).getD j 0) (F ((ats ps).getD j 0))) :
    sumF (rterm ps) ps.length % QI = F 0 % QI := by
  have hl : (ats ps).length = ps.length := by simp [ats]
  have h1 := sumF_sw (rterm ps) (lp ivQ (ats ps)) F (ats ps) (fun j hj => by
    unfold rterm
    exact (cg_mod _).trans (Cg.mul (lamL_lp _ _) (hv j (by omega)))) ps.length (by omega)
  rw [← hl, List.take_length, hl] at h1
  exact mod_of_cg (h1.trans (lagrange ivQ_inv (ats ps) F ha (by rw [hl]; exact hd)))

/-- Horner's way, with the number that is multiplied drawn out. -/
def hp (ms : List Int) : Nat → Int → Int
  | 0, _ => 0
  | k + 1, z => ms.getD (ms.length - 1 - k) 0 + z * hp ms k z
theorem hp_deg (ms : List Int) : ∀ k, Deg k (hp ms k)
  | 0 => fun _ => rfl
  | k + 1 => ⟨_, hp ms k, hp_deg ms k, fun _ => rfl⟩
theorem horn_hp (ms : List Int) (z : Int) : ∀ k, Cg QI (hornF ms z k) (z * hp ms k z)
  | 0 => Cg.of_eq (by simp [hornF, hp])
  | k + 1 => by
    rw [hornF, hp]
    exact (cg_mod _).trans ((Cg.mul (Cg.add (horn_hp ms z k) Cg.rfl') Cg.rfl').trans (Cg.of_eq (by grind)))
def polyF (s : Int) (ms : List Int) (z : Int) : Int := s + z * hp ms ms.length z
theorem polyF_deg (s : Int) (ms : List Int) : Deg (ms.length + 1) (polyF s ms) := ⟨s, hp ms ms.length, hp_deg ms _, fun _ => rfl⟩
theorem valN_poly (s : Int) (ms : List Int) (z : Int) : Cg QI (valN s ms z) (polyF s ms z) := by
  unfold valN polyF
  exact (cg_mod _).trans ((Cg.add (horn_hp ms z _) Cg.rfl').trans (Cg.of_eq (by grind)))
theorem Deg.mono (n : Nat) (F : Int → Int) (h : Deg n F) : ∀ k, Deg (n + k) F
  | 0 => h
  | k + 1 => Deg.up _ _ (Deg.mono n F h k)

/-- Shares that are enough restore the secret that was dealt. -/
theorem deal_restored (s : Int) (ms : List Int) (ps : List (Int × Int)) (hs : expP s) (ha : Apart QI (ats ps)) (hn : ms.length + 1 ≤ ps.length) (hv : ∀ j, j < ps.length → (vls ps).getD j 0 = valN s ms ((ats ps).getD j 0)) :
    sumF (rterm ps) ps.length = s := by
  have h1 := restored ps (polyF s ms) ha (by have := Deg.mono _ _ (polyF_deg s ms) (ps.length - (ms.length + 1)); rw [show ms.length + 1 + (ps.length - (ms.length + 1)) = ps.length by omega] at this; exact this) (fun j hj => by rw [hv j hj]; exact valN_poly _ _ _)
  have hb := sumF_bd (rterm ps) ps.length
  have h0 : polyF s ms 0 = s := by unfold polyF; grind
  rw [h0, Int.emod_eq_of_lt hb.1 hb.2, Int.emod_eq_of_lt hs.1 (by have := hs.2; unfold QI; omega)] at h1
  exact h1

end Go.Proofs.Ytjechndhgkkpeaa
