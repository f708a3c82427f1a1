import Derived.Test.YtlcojjcgaibbiaaRJ
set_option linter.unusedVariables false
namespace Go.Proofs.Ytlcojjcgaibbiaa
open Go.RowKit

section
variable {P : Program} {Q : Exit → Act → World → Prop}
def StepsG (P : Program) (Q : Exit → Act → World → Prop) (I : (Nat → Bool) → Act → World → Prop) (i : Nat) (os : List Oper) : Prop :=
  ∀ k o, os[k]? = some o → ∀ (l : Nat → Bool) (a : Act) (w : World), I l a w → l (i + k) = false → (∀ e ∈ o.after, Region.binds .any e = true → l e.on = true) → ∀ K' : Act → World → Prop, Hid (∀ a w, I (upd l (i + k)) a w → K' a w) → o.wp P a w K' Q
theorem StepsG.nil {I : (Nat → Bool) → Act → World → Prop} {i : Nat} : StepsG P Q I i [] := fun k o h => by simp at h
theorem StepsG.cons {I : (Nat → Bool) → Act → World → Prop} {i : Nat} {o : Oper} {os : List Oper}
    (h : ∀ (l : Nat → Bool) (a : Act) (w : World), I l a w → l i = false → (∀ e ∈ o.after, Region.binds .any e = true → l e.on = true) → ∀ K' : Act → World → Prop, Hid (∀ a w, I (upd l i) a w → K' a w) → o.wp P a w K' Q)
    (hs : StepsG P Q I (i + 1) os) : StepsG P Q I i (o :: os) := fun k o' hk => by
  cases k with
  | zero =>
    simp only [List.getElem?_cons_zero, Option.some.injEq] at hk
    subst hk
    exact h
  | succ k =>
    simp only [List.getElem?_cons_succ] at hk
    have := hs k o' hk
    rwa [Nat.add_right_comm] at this
theorem wpAny_gi {ops : Array Oper} {I : (Nat → Bool) → Act → World → Prop} (he : edgesBack ops = true) (hs : StepsG P Q I 0 ops.toList)
    (hend : ∀ l a w, I l a w → (∀ k, l k = true) → Q .normal a w) :
    ∀ (fuel : Nat) (listed : Array Bool) (a : Act) (w : World), listed.size = ops.size → listed.toList.count false ≤ fuel → I (fun k => listed.getD k true) a w → wpAny P .any ops Q fuel listed a w := by
  have full : ∀ listed : Array Bool, listed.size = ops.size → (∀ k, k < ops.size → listed.getD k false = true) → ∀ k, listed.getD k true = true := fun listed hz h k => by
    by_cases hk : k < listed.size
    · have := h k (hz ▸ hk)
      simp [hk] at this ⊢
      exact this
    · simp [Array.getElem?_eq_none (Nat.le_of_not_lt hk)]
  intro fuel
  induction fuel with
  | zero =>
    intro listed a w hz hc hI
    have hall : ∀ k, k < ops.size → listed.getD k false = true := fun k hk => by
      have hk' : k < listed.size := hz ▸ hk
      have h0 : listed.toList.count false = 0 := Nat.le_zero.1 hc
      have := List.count_eq_zero.1 h0
      cases hv : listed[k] with
      | true => simp [hk', hv]
      | false => exact absurd (by rw [← hv]; exact Array.mem_toList_iff.2 (Array.getElem_mem hk')) this
    have hr : Region.ready .any ops listed = [] := by
      refine List.eq_nil_iff_forall_not_mem.2 (fun i hi => ?_)
      obtain ⟨h1, o, ho, _⟩ := mem_ready.1 hi
      have hi' : i < ops.size := (Array.getElem?_eq_some_iff.1 ho).1
      have h2 := hall i hi'
      have hi2 : i < listed.size := hz ▸ hi'
      simp [hi2] at h1 h2
      rw [h1] at h2
      cases h2
    exact ⟨hr, hend _ _ _ hI (full _ hz hall)⟩
  | succ fuel ih =>
    intro listed a w hz hc hI
    refine ⟨fun hr => hend _ _ _ hI (full _ hz (all_listed he hz hr)), fun i hi => ?_⟩
    obtain ⟨h1, o, ho, hed⟩ := mem_ready.1 hi
    have hi' : i < ops.size := (Array.getElem?_eq_some_iff.1 ho).1
    have hi2 : i < listed.size := hz ▸ hi'
    have hf : listed[i] = false := by simpa [hi2] using h1
    refine wpOp_step ho (fun K' hK => ?_)
    have hgd := (edgesBack_of he ho).1
    have hw : Region.wanted o (yielded ops a.tmps) = true := by simp [Region.wanted, hgd]
    rw [if_pos hw]
    refine hs i o (by simpa using ho) _ a w hI (by simp [hi2, hf]) (fun e hee hb => ?_) K' (fun a' w' hI' => hK a' w' (ih _ a' w' (by simpa using hz) ?_ ?_))
    · have h3 := hed e hee hb
      by_cases hk : e.on < listed.size
      · simp [hk] at h3 ⊢
        exact h3
      · simp [Array.getElem?_eq_none (Nat.le_of_not_lt hk)]
    · have hcs : (listed.setIfInBounds i true).toList.count false + 1 = listed.toList.count false := by
        have hm : 0 < listed.toList.count false := List.count_pos_iff.2 (by rw [← hf]; exact Array.mem_toList_iff.2 (Array.getElem_mem hi2))
        have e1 : (listed.toList[i] == false) = true := by simp [hf]
        have e2 : ¬ ((true == false) = true) := by decide
        rw [Array.toList_setIfInBounds, List.count_set (by simpa using hi2), if_pos e1, if_neg e2]
        omega
      omega
    · have : (fun k => (listed.setIfInBounds i true).getD k true) = upd (fun k => listed.getD k true) (0 + i) := by
        funext k
        by_cases e : k = i
        · subst e
          simp [upd, hi2]
        · simp [upd, e, Array.getElem?_setIfInBounds_ne (Ne.symm e)]
      rw [this]
      exact hI'

/-- **A region whose operations may come up in whatever order, over an invariant.** -/
theorem wp_region_gi {id : Nat} {ops : Array Oper} {a : Act} {w : World} (I : (Nat → Bool) → Act → World → Prop) (hm : P.follows .mixedOrders = true) (he : edgesBack ops = true)
    (h0 : ∀ l : Nat → Bool, (∀ k, k < ops.size → l k = false) → (∀ k, ops.size ≤ k → l k = true) → I l a w.drew)
    (hs : StepsG P Q I 0 ops.toList)
    (hend : ∀ l a' w', I l a' w' → (∀ k, l k = true) → Q .normal a' w') : (Code.region id ops true).wp P Q a w := by
  refine wp_region_any hm (wpAny_gi he hs hend ops.size _ a _ (by simp) (by simp) (h0 _ (fun k hk => by simp [hk]) (fun k hk => ?_)))
  simp [Array.getElem?_eq_none (show (Array.replicate ops.size false).size ≤ k by simpa using hk)]
theorem wp_region_gj {id : Nat} {ops : Array Oper} {a : Act} {w : World} (I : Act → (Nat → Bool) → Act → World → Prop) (G : Act → Prop) (hm : P.follows .mixedOrders = true) (he : edgesBack ops = true) (hG : G a)
    (h0 : ∀ a0, G a0 → ∀ l : Nat → Bool, (∀ k, k < ops.size → l k = false) → (∀ k, ops.size ≤ k → l k = true) → I a0 l a0 w.drew)
    (hs : ∀ a0, G a0 → StepsG P Q (I a0) 0 ops.toList)
    (hend : ∀ l a' w', I a l a' w' → (∀ k, l k = true) → Q .normal a' w') : (Code.region id ops true).wp P Q a w :=
  wp_region_gi (I a) hm he (h0 a hG) (hs a hG) hend
end

theorem RI.putq {S : RSpec} {D : List Nat} {B : Nat} {w0 : World} {a0 : Act} {l : Nat → Bool} {a : Act} {w : World} (h : RI S D B w0 a0 l a w) (i d : Nat) {v : Value} {w' : World} (hpre : ∀ j ∈ S.pre i, l j = true)
    (hd : D.contains d = true) (hs : d < a0.tmps.size) (hsl : S.slot i = d) (hli : l i = false) (hne : S.free i d = true) (hB : B ≤ w0.heap.size)
    (hst : ∀ k, k < S.n → StB (S.fact k)) (hb : Below w.heap.size w w') (hf : S.fact i v w') : RI S D B w0 a0 (upd l i) (a.put (some d) v) w' := by
  refine ⟨h.fr.put (List.contains_iff_mem.1 hd) v, h.bel.trans (hb.mono (Nat.le_trans hB h.bel.size)), fun k hk => upd_mono (h.vt k hk), fun k hk hl j hj => ?_, fun k hk hl hkill => ?_⟩
  · by_cases e : k = i
    · subst e
      exact upd_mono (hpre j hj)
    · rw [upd_ne e] at hl
      exact upd_mono (h.cl k hk hl j hj)
  · by_cases e : k = i
    · subst e
      rw [hsl, aT_put_eq (by rw [h.fr.size]; exact hs)]
      exact hf
    · rw [upd_ne e] at hl
      have hsk : S.slot k ≠ d := fun e2 => by
        have := h.cl k hk hl i (S.free_of hne hk e e2)
        rw [hli] at this
        cases this
      rw [aT_put_ne (Ne.symm hsk)]
      exact hst k hk _ _ _ (h.fact k hk hl (fun j hj => of_upd (hkill j hj))) hb

end Go.Proofs.Ytlcojjcgaibbiaa
