import Derived.Test.YtbfjkmlmnhphoaaDoorRJ
set_option linter.unusedVariables false
namespace Go.Proofs.YtbfjkmlmnhphoaaDoor
open Go.RowKit

section
variable {P : Program} {Q : Exit → Act → World → Prop}
def StepsRK (P : Program) (Q : Exit → Act → World → Prop) (ops : Array Oper) (S : RSpec) (D : List Nat) (B : Nat) (w0 : World) (a0 : Act) (i : Nat) (os : List Oper) : Prop :=
  ∀ k o, os[k]? = some o → ∀ (l : Nat → Bool) (a : Act) (w : World), RI S D B w0 a0 l a w → l (i + k) = false → (∀ e ∈ o.after, Region.binds .any e = true → l e.on = true) → ∀ K' : Act → World → Prop, Hid (∀ a w, RI S D B w0 a0 (upd l (i + k)) a w → K' a w) → if Region.wanted o (yielded ops a.tmps) = true then o.wp P a w K' Q else K' (a.put o.dst undef) w
theorem StepsRK.nil {ops : Array Oper} {S : RSpec} {D : List Nat} {B : Nat} {w0 : World} {a0 : Act} {i : Nat} : StepsRK P Q ops S D B w0 a0 i [] := fun k o h => by simp at h
theorem StepsRK.cons {ops : Array Oper} {S : RSpec} {D : List Nat} {B : Nat} {w0 : World} {a0 : Act} {i : Nat} {o : Oper} {os : List Oper}
    (h : ∀ (l : Nat → Bool) (a : Act) (w : World), RI S D B w0 a0 l a w → l i = false → (∀ e ∈ o.after, Region.binds .any e = true → l e.on = true) → ∀ K' : Act → World → Prop, Hid (∀ a w, RI S D B w0 a0 (upd l i) a w → K' a w) → if Region.wanted o (yielded ops a.tmps) = true then o.wp P a w K' Q else K' (a.put o.dst undef) w)
    (hs : StepsRK P Q ops S D B w0 a0 (i + 1) os) : StepsRK P Q ops S D B w0 a0 i (o :: os) := fun k o' hk => by
  cases k with
  | zero =>
    simp only [List.getElem?_cons_zero, Option.some.injEq] at hk
    subst hk
    exact h
  | succ k =>
    simp only [List.getElem?_cons_succ] at hk
    have := hs k o' hk
    rwa [Nat.add_right_comm] at this
/-- The operation is not guarded. -/
theorem rk_plain {ops : Array Oper} {o : Oper} {a : Act} {w : World} {K : Act → World → Prop} (hg : o.guard = none) (h : o.wp P a w K Q) : if Region.wanted o (yielded ops a.tmps) = true then o.wp P a w K Q else K (a.put o.dst undef) w := by
  have hw : Region.wanted o (yielded ops a.tmps) = true := by simp [Region.wanted, hg]
  rw [if_pos hw]
  exact h
/-- What a guard reads of a value. -/
def yb : Value → Option Bool
  | .bool b => some b
  | _ => none
theorem yielded_of {ops : Array Oper} {a : Act} {j s : Nat} {v : Value} (hd : (ops[j]?).bind (·.dst) = some s) (hv : aT a s = v) : yielded ops a.tmps j = yb v := by
  unfold yielded
  rw [hd]
  subst hv
  unfold aT
  by_cases hs : s < a.tmps.size
  · simp only [Option.bind_some, Array.getElem?_eq_getElem hs, Array.getD_eq_getD_getElem?, Option.getD_some]
    generalize a.tmps[s] = v
    cases v <;> rfl
  · simp [Array.getElem?_eq_none (Nat.le_of_not_lt hs), undef, yb]
/-- Its guard says yes. -/
theorem rk_take {ops : Array Oper} {o : Oper} {a : Act} {w : World} {K : Act → World → Prop} (j : Nat) (want : Bool) (s : Nat) (hg : o.guard = some (j, want)) (hd : (ops[j]?).bind (·.dst) = some s) (hv : aT a s = .bool want) (h : o.wp P a w K Q) : if Region.wanted o (yielded ops a.tmps) = true then o.wp P a w K Q else K (a.put o.dst undef) w := by
  have hw : Region.wanted o (yielded ops a.tmps) = true := by simp [Region.wanted, hg, yielded_of hd hv, yb]
  rw [if_pos hw]
  exact h
/-- Its guard says no. -/
theorem rk_skip {ops : Array Oper} {o : Oper} {a : Act} {w : World} {K : Act → World → Prop} (j : Nat) (want : Bool) (s : Nat) (v : Value) (hg : o.guard = some (j, want)) (hd : (ops[j]?).bind (·.dst) = some s) (hv : aT a s = v) (hne : (yb v == some want) = false) (h : K (a.put o.dst undef) w) : if Region.wanted o (yielded ops a.tmps) = true then o.wp P a w K Q else K (a.put o.dst undef) w := by
  have hw : Region.wanted o (yielded ops a.tmps) = false := by
    simp only [Region.wanted, hg, yielded_of hd hv]
    exact hne
  rw [if_neg (by rw [hw]; decide)]
  exact h
theorem opw_pick_t {o : Oper} {a : Act} {w : World} {K : Act → World → Prop} (c : Nat) (x y : Operand) (ho : o.op = .pick (.tmp c) x y) (hc : aT a c = .bool true) (v : Value) (hx : a.eval x = v) (h : K (a.put o.dst v) w) : o.wp P a w K Q := by
  refine opw_value v ?_ h
  have hc' : a.eval (.tmp c) = .bool true := hc
  unfold execOp
  simp [ho, hc', hx, asBool]
theorem opw_pick_f {o : Oper} {a : Act} {w : World} {K : Act → World → Prop} (c : Nat) (x y : Operand) (ho : o.op = .pick (.tmp c) x y) (hc : aT a c = .bool false) (v : Value) (hy : a.eval y = v) (h : K (a.put o.dst v) w) : o.wp P a w K Q := by
  refine opw_value v ?_ h
  have hc' : a.eval (.tmp c) = .bool false := hc
  unfold execOp
  simp [ho, hc', hy, asBool]
theorem opw_eql {o : Oper} {a : Act} {w : World} {K : Act → World → Prop} (t t2 x y : Nat) (ho : o.op = .binOp .eql t (.tmp x) (.tmp y) t2) (k : IntKind) (p q : Int) (hx : aT a x = .int k p) (hy : aT a y = .int k q) (c : Bool) (hc : (p == q) = c) (h : K (a.put o.dst (.bool c)) w) : o.wp P a w K Q := by
  refine opw_value (.bool c) ?_ h
  have hx' : a.eval (.tmp x) = .int k p := hx
  have hy' : a.eval (.tmp y) = .int k q := hy
  unfold execOp
  subst hc
  simp only [ho, hx', hy']
  simp [go_sem]
theorem opw_neq {o : Oper} {a : Act} {w : World} {K : Act → World → Prop} (t t2 x y : Nat) (ho : o.op = .binOp .neq t (.tmp x) (.tmp y) t2) (k : IntKind) (p q : Int) (hx : aT a x = .int k p) (hy : aT a y = .int k q) (c : Bool) (hc : (p != q) = c) (h : K (a.put o.dst (.bool c)) w) : o.wp P a w K Q := by
  refine opw_value (.bool c) ?_ h
  have hx' : a.eval (.tmp x) = .int k p := hx
  have hy' : a.eval (.tmp y) = .int k q := hy
  unfold execOp
  subst hc
  simp only [ho, hx', hy']
  simp [go_sem]
/-- Every edge leads back (whatever guards there are). -/
def edgesBackK (ops : Array Oper) : Bool := (List.range ops.size).all fun i => ((ops[i]?).map fun o => o.after.all fun e => !Region.binds .any e || decide (e.on < i)).getD true
theorem edgesBackK_of {ops : Array Oper} (h : edgesBackK ops = true) {i : Nat} {o : Oper} (ho : ops[i]? = some o) : ∀ e ∈ o.after, Region.binds .any e = true → e.on < i := by
  have hi : i < ops.size := (Array.getElem?_eq_some_iff.1 ho).1
  have h1 := List.all_eq_true.1 h i (List.mem_range.2 hi)
  rw [ho] at h1
  simp only [Option.map_some, Option.getD_some] at h1
  refine fun e he hb => ?_
  obtain ⟨j, hj, rfl⟩ := Array.mem_iff_getElem.1 he
  have := (Array.all_eq_true.1 h1) j hj
  simpa [hb] using this
theorem all_listedK {ops : Array Oper} {listed : Array Bool} (he : edgesBackK ops = true) (hz : listed.size = ops.size) (h : Region.ready .any ops listed = []) : ∀ i, i < ops.size → listed.getD i false = true := by
  intro i
  induction i using Nat.strongRecOn with
  | ind i ih =>
    intro hi
    cases hl : listed.getD i false with
    | true => rfl
    | false =>
      exfalso
      have ho : ops[i]? = some ops[i] := by simp [hi]
      have hm : i ∈ Region.ready .any ops listed := mem_ready.2 ⟨by
        have : i < listed.size := hz ▸ hi
        simp [this] at hl ⊢
        exact hl, _, ho, fun e hee hb => ih _ ((edgesBackK_of he ho) e hee hb) (Nat.lt_trans ((edgesBackK_of he ho) e hee hb) hi)⟩
      rw [h] at hm
      cases hm
theorem wpAny_rk {ops : Array Oper} {S : RSpec} {D : List Nat} {B : Nat} {w0 : World} {a0 : Act} (he : edgesBackK ops = true) (hs : StepsRK P Q ops S D B w0 a0 0 ops.toList)
    (hend : ∀ l a w, RI S D B w0 a0 l a w → (∀ k, l k = true) → Q .normal a w) :
    ∀ (fuel : Nat) (listed : Array Bool) (a : Act) (w : World), listed.size = ops.size → listed.toList.count false ≤ fuel → RI S D B w0 a0 (fun k => listed.getD k true) a w → wpAny P .any ops Q fuel listed a w := by
  have full : ∀ listed : Array Bool, listed.size = ops.size → (∀ k, k < ops.size → listed.getD k false = true) → ∀ k, listed.getD k true = true := fun listed hz h k => by
    by_cases hk : k < listed.size
    · have := h k (hz ▸ hk)
      simp [hk] at this ⊢
      exact this
    · simp [Array.getElem?_eq_none (Nat.le_of_not_lt hk)]
  intro fuel
  induction fuel with
  | zero =>
    intro listed a w hz hc hI
    have hall : ∀ k, k < ops.size → listed.getD k false = true := fun k hk => by
      have hk' : k < listed.size := hz ▸ hk
      have h0 : listed.toList.count false = 0 := Nat.le_zero.1 hc
      have := List.count_eq_zero.1 h0
      cases hv : listed[k] with
      | true => simp [hk', hv]
      | false => exact absurd (by rw [← hv]; exact Array.mem_toList_iff.2 (Array.getElem_mem hk')) this
    have hr : Region.ready .any ops listed = [] := by
      refine List.eq_nil_iff_forall_not_mem.2 (fun i hi => ?_)
      obtain ⟨h1, o, ho, _⟩ := mem_ready.1 hi
      have hi' : i < ops.size := (Array.getElem?_eq_some_iff.1 ho).1
      have h2 := hall i hi'
      have hi2 : i < listed.size := hz ▸ hi'
      simp [hi2] at h1 h2
      rw [h1] at h2
      cases h2
    exact ⟨hr, hend _ _ _ hI (full _ hz hall)⟩
  | succ fuel ih =>
    intro listed a w hz hc hI
    refine ⟨fun hr => hend _ _ _ hI (full _ hz (all_listedK he hz hr)), fun i hi => ?_⟩
    obtain ⟨h1, o, ho, hed⟩ := mem_ready.1 hi
    have hi' : i < ops.size := (Array.getElem?_eq_some_iff.1 ho).1
    have hi2 : i < listed.size := hz ▸ hi'
    have hf : listed[i] = false := by simpa [hi2] using h1
    refine wpOp_step ho (fun K' hK => ?_)
    refine hs i o (by simpa using ho) _ a w hI (by simp [hi2, hf]) (fun e hee hb => ?_) K' (fun a' w' hI' => hK a' w' (ih _ a' w' (by simpa using hz) ?_ ?_))
    · have h3 := hed e hee hb
      by_cases hk : e.on < listed.size
      · simp [hk] at h3 ⊢
        exact h3
      · simp [Array.getElem?_eq_none (Nat.le_of_not_lt hk)]
    · have hcs : (listed.setIfInBounds i true).toList.count false + 1 = listed.toList.count false := by
        have hm : 0 < listed.toList.count false := List.count_pos_iff.2 (by rw [← hf]; exact Array.mem_toList_iff.2 (Array.getElem_mem hi2))
        have e1 : (listed.toList[i] == false) = true := by simp [hf]
        have e2 : ¬ ((true == false) = true) := by decide
        rw [Array.toList_setIfInBounds, List.count_set (by simpa using hi2), if_pos e1, if_neg e2]
        omega
      omega
    · have : (fun k => (listed.setIfInBounds i true).getD k true) = upd (fun k => listed.getD k true) (0 + i) := by
        funext k
        by_cases e : k = i
        · subst e
          simp [upd, hi2]
        · simp [upd, e, Array.getElem?_setIfInBounds_ne (Ne.symm e)]
      rw [this]
      exact hI'
/-- **A region whose operations may come up in whatever order: each is stepped once, over what is known of those ahead of it.** -/
theorem wp_region_rk {id : Nat} {ops : Array Oper} {a : Act} {w : World} (S : RSpec) (D : List Nat) (B : Nat) (G : Act → Prop) (hm : P.follows .mixedOrders = true) (hn : S.m = ops.size) (he : edgesBackK ops = true) (hp : (S.pres.drop S.m).all List.isEmpty = true) (hG : G a)
    (hst : ∀ k, k < S.n → StB (S.fact k)) (h0 : ∀ k, S.m ≤ k → k < S.n → S.fact k (aT a (S.slot k)) w)
    (hs : ∀ a0, G a0 → StepsRK P Q ops S D B w a0 0 ops.toList)
    (hend : ∀ a' w', Fr D a a' → Below B w w' → (∀ k, k < S.n → S.kill k = [] → S.fact k (aT a' (S.slot k)) w') → Q .normal a' w') : (Code.region id ops true).wp P Q a w := by
  refine wp_region_any hm (wpAny_rk he (hs a hG) (fun l a' w' hI hl => hend a' w' hI.fr hI.bel (fun k hk h0 => hI.fact k hk (hl k) (by simp [h0]))) ops.size _ a _ (by simp) (by simp) ?_)
  refine ri_start (Below.refl _ _).drew (fun k hl => ?_) (fun k hk => ?_) hp (fun k h1 h2 => hst k h2 _ _ _ (h0 k h1 h2) (Below.refl _ _).drew)
  · rw [hn]
    by_cases hk : k < ops.size
    · simp [hk] at hl
    · omega
  · rw [hn] at hk
    simp [Array.getElem?_eq_none (show (Array.replicate ops.size false).size ≤ k by simpa using hk)]
end

end Go.Proofs.YtbfjkmlmnhphoaaDoor
