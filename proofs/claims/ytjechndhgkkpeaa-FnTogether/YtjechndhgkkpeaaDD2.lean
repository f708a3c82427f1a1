import Derived.Test.YtjechndhgkkpeaaLG2
import Derived.Test.YtjechndhgkkpeaaRS2
namespace Go.Proofs.Ytjechndhgkkpeaa
open Go.RowKit

/-- What has an inverse modulo Q. -/
def UnitQ (a : Int) : Prop := ∃ b, Cg QI (a * b) 1
theorem UnitQ.mul {a b : Int} (h : UnitQ a) (k : UnitQ b) : UnitQ (a * b) := by
  obtain ⟨x, hx⟩ := h
  obtain ⟨y, hy⟩ := k
  refine ⟨x * y, ?_⟩
  have := Cg.mul hx hy
  rw [show a * b * (x * y) = a * x * (b * y) by grind]
  exact this.trans (Cg.of_eq (by grind))
theorem UnitQ.not_zero {a : Int} (h : UnitQ a) : ¬ Cg QI a 0 := by
  intro h0
  obtain ⟨x, hx⟩ := h
  have h1 : Cg QI (a * x) (0 * x) := h0.mul Cg.rfl'
  have h2 : Cg QI 1 0 := hx.symm.trans (h1.trans (Cg.of_eq (by grind)))
  obtain ⟨k, hk⟩ := h2
  unfold QI at hk
  omega
theorem unit_of {u : Int} (h : ¬ QI ∣ u) : UnitQ u := ⟨ivQ u, by have := ivQ_inv u h; rw [Int.mul_comm]; exact this⟩
theorem unit_iv {u : Int} (h : ¬ QI ∣ u) : UnitQ (ivQ u) := ⟨u, ivQ_inv u h⟩
theorem not_dvd {u : Int} (h0 : u ≠ 0) (h1 : -500000003 < u) (h2 : u < 500000003) : ¬ QI ∣ u := by
  rintro ⟨k, hk⟩
  unfold QI at hk
  omega
theorem UnitQ.of_cg {a b : Int} (h : UnitQ a) (k : Cg QI b a) : UnitQ b := by
  obtain ⟨x, hx⟩ := h
  exact ⟨x, (k.mul Cg.rfl').trans hx⟩
theorem lp_unit (i : Int) (hi : 1 ≤ i ∧ i ≤ 20) : ∀ zs : List Int, (∀ z ∈ zs, 1 ≤ z ∧ z ≤ 20) → UnitQ (lp ivQ zs i) := by
  intro zs
  induction zs with
  | nil => intro _; exact ⟨1, Cg.of_eq (by simp [lp])⟩
  | cons z zs ih =>
    intro h
    have hz := h z (by simp)
    show UnitQ (tf ivQ z i * lp ivQ zs i)
    refine UnitQ.mul ?_ (ih (fun y hy => h y (by simp [hy])))
    unfold tf
    split
    · exact ⟨1, Cg.of_eq (by simp)⟩
    · rename_i hne
      exact (unit_of (not_dvd (by omega) (by omega) (by omega))).mul (unit_iv (not_dvd (by omega) (by omega) (by omega)))
theorem lam_unit (zs : List Int) (i : Int) (hi : 1 ≤ i ∧ i ≤ 20) (hz : ∀ z ∈ zs, 1 ≤ z ∧ z ≤ 20) : UnitQ (lamL zs i) := (lp_unit i hi zs hz).of_cg (lamL_lp zs i)

/-- Shares that were dealt, in any order, some of them. -/
structure SharesP (s : Int) (ms : List Int) (ps : List (Int × Int)) : Prop where
  at_ : ∀ p ∈ ps, 1 ≤ p.1 ∧ p.1 ≤ 20
  val : ∀ p ∈ ps, p.2 = valN s ms p.1
  one : (ats ps).Nodup
theorem valN_bd (s : Int) (ms : List Int) (z : Int) : expP (valN s ms z) := by
  unfold valN expP
  omega
theorem shares_dealt (s : Int) (ms : List Int) (n : Nat) (hn : n ≤ 20) : SharesP s ms (dealL s ms n) := by
  refine ⟨?_, ?_, ?_⟩
  · intro p hp
    simp only [dealL, List.mem_map, List.mem_range] at hp
    obtain ⟨i, hi, rfl⟩ := hp
    show 1 ≤ ((i + 1 : Nat) : Int) ∧ ((i + 1 : Nat) : Int) ≤ 20
    omega
  · intro p hp
    simp only [dealL, List.mem_map, List.mem_range] at hp
    obtain ⟨i, hi, rfl⟩ := hp
    rfl
  · have e : ats (dealL s ms n) = (List.range n).map (fun i => ((i + 1 : Nat) : Int)) := by
      unfold ats dealL
      rw [List.map_map]
      rfl
    rw [e]
    refine List.Pairwise.map _ ?_ List.nodup_range
    intro a b hab
    omega
theorem SharesP.perm {s : Int} {ms : List Int} {ps qs : List (Int × Int)} (h : SharesP s ms ps) (hp : qs.Perm ps) : SharesP s ms qs :=
  ⟨fun p hq => h.at_ p (hp.mem_iff.1 hq), fun p hq => h.val p (hp.mem_iff.1 hq), ((hp.map Prod.fst).nodup_iff).2 h.one⟩
theorem SharesP.take {s : Int} {ms : List Int} {ps : List (Int × Int)} (h : SharesP s ms ps) (k : Nat) : SharesP s ms (ps.take k) :=
  ⟨fun p hp => h.at_ p (List.mem_of_mem_take hp), fun p hp => h.val p (List.mem_of_mem_take hp), by
    have : ats (ps.take k) = (ats ps).take k := by simp [ats, List.map_take]
    rw [this]
    exact h.one.sublist (List.take_sublist _ _)⟩
theorem getD_memD {α : Type} (l : List α) (d : α) (j : Nat) (h : j < l.length) : l.getD j d ∈ l := by
  have e : l.getD j d = l[j] := by simp [h]
  rw [e]
  exact List.getElem_mem h
theorem unl_of {zs : List Int} (h : zs.Nodup) : unl zs := by
  intro j hj hm
  obtain ⟨i, hi, he⟩ := List.mem_iff_getElem.1 hm
  rw [List.length_take] at hi
  have e : zs.getD j 0 = zs[j] := by simp [hj]
  rw [e, List.getElem_take] at he
  exact (List.pairwise_iff_getElem.1 h) i j (by omega) hj (by omega) he
theorem apart_of {zs : List Int} (h : zs.Nodup) (hz : ∀ z ∈ zs, 1 ≤ z ∧ z ≤ 20) : Apart QI zs := by
  unfold Apart
  refine List.Pairwise.imp_of_mem ?_ h
  intro a b ha hb hne
  have h1 := hz a ha
  have h2 := hz b hb
  exact not_dvd (by omega) (by omega) (by omega)
theorem SharesP.ats_at {s : Int} {ms : List Int} {ps : List (Int × Int)} (h : SharesP s ms ps) : ∀ z ∈ ats ps, 1 ≤ z ∧ z ≤ 20 := by
  intro z hz
  obtain ⟨p, hp, rfl⟩ := List.mem_map.1 hz
  exact h.at_ p hp
theorem SharesP.who {s : Int} {ms : List Int} {ps : List (Int × Int)} (h : SharesP s ms ps) (h1 : 1 ≤ ps.length) (h2 : ps.length ≤ 20) : whoP (ats ps) := by
  refine ⟨by rw [ats_len]; omega, ?_, unl_of h.one⟩
  intro j hj
  have := h.ats_at _ (getD_memD (ats ps) 0 j hj)
  unfold secP
  omega
theorem SharesP.back {s : Int} {ms : List Int} {ps : List (Int × Int)} (h : SharesP s ms ps) (hs : expP s) (h1 : ms.length + 1 ≤ ps.length) (h2 : ps.length ≤ 20) : restR ps = (s, true) := by
  have hp : restP ps := by
    refine ⟨h.who (by omega) h2, ?_⟩
    intro j hj
    rw [vls_len] at hj
    rw [vls_get ps j hj, h.val _ (getD_memD ps (0, 0) j hj)]
    exact valN_bd _ _ _
  unfold restR
  rw [if_pos hp, deal_restored s ms ps hs (apart_of h.one h.ats_at) h1]
  intro j hj
  rw [vls_get ps j hj, ats_get ps j hj]
  exact h.val _ (getD_memD ps (0, 0) j hj)
/-- The sum with one value turned. -/
theorem sumF_turned (t u : Nat → Int) (i : Nat) (d : Int) (h : ∀ j, j ≠ i → u j = t j) (hi : Cg QI (u i) (t i + d)) : ∀ k, Cg QI (sumF u k) (sumF t k + if i < k then d else 0) := by
  intro k
  induction k with
  | zero => exact Cg.of_eq (by simp [sumF])
  | succ k ih =>
    show Cg QI ((sumF u k + u k) % 500000003) ((sumF t k + t k) % 500000003 + _)
    have e1 : Cg QI ((sumF u k + u k) % 500000003) (sumF u k + u k) := cg_mod _
    have e2 : Cg QI ((sumF t k + t k) % 500000003) (sumF t k + t k) := cg_mod _
    by_cases hk : k = i
    · subst hk
      rw [if_neg (Nat.lt_irrefl _)] at ih
      rw [if_pos (Nat.lt_succ_self _)]
      refine e1.trans ((ih.add hi).trans ?_)
      refine Cg.trans (Cg.of_eq ?_) (e2.add Cg.rfl').symm
      grind
    · have e3 : (i < k + 1) = (i < k) := by simp only [eq_iff_iff]; omega
      rw [h k hk] at e1 ⊢
      simp only [e3]
      refine e1.trans ((ih.add Cg.rfl').trans ?_)
      refine Cg.trans (Cg.of_eq ?_) (e2.add Cg.rfl').symm
      grind
theorem turned_other {s : Int} {ms : List Int} {ps : List (Int × Int)} (h : SharesP s ms ps) (hs : expP s) (h1 : ms.length + 1 ≤ ps.length) (h2 : ps.length ≤ 20) (i : Nat) (hi : i < ps.length) (b : Int) (hb0 : 0 ≤ b) (hb1 : b < 200) :
    ∃ c, restR (ps.set i ((ps.getD i (0, 0)).1, ((ps.getD i (0, 0)).2 + 1 + b) % 500000003)) = (c, true) ∧ c ≠ s := by
  obtain ⟨p, hp⟩ : ∃ p, p = ps.getD i (0, 0) := ⟨_, rfl⟩
  rw [← hp]
  obtain ⟨qs, hq⟩ : ∃ qs, qs = ps.set i (p.1, (p.2 + 1 + b) % 500000003) := ⟨_, rfl⟩
  rw [← hq]
  have ql : qs.length = ps.length := by rw [hq]; simp
  have qa : ats qs = ats ps := by
    rw [hq]
    unfold ats
    rw [List.map_set]
    apply List.ext_getElem
    · simp
    · intro j h3 h4
      rw [List.getElem_set]
      split
      · rename_i e
        subst e
        rw [hp]
        simp at h4
        simp [h4]
      · rfl
  have qv : ∀ j, j < ps.length → (vls qs).getD j 0 = if j = i then (p.2 + 1 + b) % 500000003 else (vls ps).getD j 0 := by
    intro j hj
    rw [vls_get qs j (by omega), hq]
    by_cases e : j = i
    · subst e
      rw [if_pos rfl]
      simp [hj]
    · rw [if_neg e, vls_get ps j hj, List.getD_eq_getElem?_getD, List.getElem?_set_ne (by omega), ← List.getD_eq_getElem?_getD]
  have hrp : restP ps := by
    refine ⟨h.who (by omega) h2, ?_⟩
    intro j hj
    rw [vls_len] at hj
    rw [vls_get ps j hj, h.val _ (getD_memD ps (0, 0) j hj)]
    exact valN_bd _ _ _
  have hrq : restP qs := by
    refine ⟨by rw [qa]; exact hrp.1, ?_⟩
    intro j hj
    rw [vls_len, ql] at hj
    rw [qv j hj]
    split
    · unfold expP; omega
    · exact hrp.2 j (by rw [vls_len]; exact hj)
  refine ⟨sumF (rterm qs) qs.length, by unfold restR; rw [if_pos hrq], ?_⟩
  have hback := deal_restored s ms ps hs (apart_of h.one h.ats_at) h1 (fun j hj => by rw [vls_get ps j hj, ats_get ps j hj]; exact h.val _ (getD_memD ps (0, 0) j hj))
  have hap := h.at_ p (by rw [hp]; exact getD_memD ps (0, 0) i hi)
  have hai : (ats ps).getD i 0 = p.1 := by rw [ats_get ps i hi, hp]
  have hvi : (vls ps).getD i 0 = p.2 := by rw [vls_get ps i hi, hp]
  have hu := lam_unit (ats ps) p.1 hap h.ats_at
  have ht := sumF_turned (fun j => if j < ps.length then rterm ps j else 0) (fun j => if j < ps.length then rterm qs j else 0) i (lamL (ats ps) p.1 * (1 + b))
    (fun j hj => by
      show (if j < ps.length then rterm qs j else 0) = (if j < ps.length then rterm ps j else 0)
      split
      · rename_i hjl
        unfold rterm
        rw [qa, qv j hjl, if_neg hj]
      · rfl)
    (by
      show Cg QI (if i < ps.length then rterm qs i else 0) ((if i < ps.length then rterm ps i else 0) + _)
      rw [if_pos hi, if_pos hi]
      unfold rterm
      rw [qa, qv i hi, if_pos rfl, hai, hvi]
      refine (cg_mod _).trans ?_
      refine Cg.trans (Cg.mul Cg.rfl' (cg_mod _)) ?_
      refine Cg.trans (Cg.of_eq ?_) ((cg_mod _).add Cg.rfl').symm
      grind) ps.length
  rw [if_pos hi] at ht
  have e1 : sumF (fun j => if j < ps.length then rterm qs j else 0) ps.length = sumF (rterm qs) ps.length := sumF_congr _ _ _ (fun j hj => by simp [hj])
  have e2 : sumF (fun j => if j < ps.length then rterm ps j else 0) ps.length = sumF (rterm ps) ps.length := sumF_congr _ _ _ (fun j hj => by simp [hj])
  rw [e1, e2, hback] at ht
  rw [ql]
  intro hc
  rw [hc] at ht
  have h0 : Cg QI (lamL (ats ps) p.1 * (1 + b)) 0 := by
    obtain ⟨k, hk⟩ := ht
    exact ⟨-k, by grind⟩
  exact (hu.mul (unit_of (not_dvd (show (1 + b) ≠ 0 by omega) (by omega) (by omega)))).not_zero h0
/-- Two shares put in each other's place. -/
theorem swapped (ps : List (Int × Int)) (i k : Nat) (hi : i < ps.length) (hk : k < ps.length) : ((ps.set k (ps.getD i (0, 0))).set i (ps.getD k (0, 0))).Perm ps := by
  have e1 : ps.getD i (0, 0) = ps[i] := by simp [hi]
  have e2 : ps.getD k (0, 0) = ps[k] := by simp [hk]
  rw [e1, e2]
  exact List.set_set_perm hk hi

end Go.Proofs.Ytjechndhgkkpeaa
