import Derived.Test.YtbfjkmlmnhphoaaDoorRJ
import Derived.Test.YtbfjkmlmnhphoaaDoorBase
import Derived.Deep.RegionLaw
import Derived.Laws.AppendOwnNone
import Derived.Laws.CopyOwn
import Derived.Test.YtbfjkmlmnhphoaaDoorGW1W6
set_option linter.unusedVariables false
namespace Go.Proofs.YtbfjkmlmnhphoaaDoor
open Go.RowKit

section
variable {P : Program} {Q : Exit → Act → World → Prop}
def StepsG (P : Program) (Q : Exit → Act → World → Prop) (I : (Nat → Bool) → Act → World → Prop) (i : Nat) (os : List Oper) : Prop :=
  ∀ k o, os[k]? = some o → ∀ (l : Nat → Bool) (a : Act) (w : World), I l a w → l (i + k) = false → (∀ e ∈ o.after, Region.binds .any e = true → l e.on = true) → ∀ K' : Act → World → Prop, Hid (∀ a w, I (upd l (i + k)) a w → K' a w) → o.wp P a w K' Q
theorem StepsG.nil {I : (Nat → Bool) → Act → World → Prop} {i : Nat} : StepsG P Q I i [] := fun k o h => by simp at h
theorem StepsG.cons {I : (Nat → Bool) → Act → World → Prop} {i : Nat} {o : Oper} {os : List Oper}
    (h : ∀ (l : Nat → Bool) (a : Act) (w : World), I l a w → l i = false → (∀ e ∈ o.after, Region.binds .any e = true → l e.on = true) → ∀ K' : Act → World → Prop, Hid (∀ a w, I (upd l i) a w → K' a w) → o.wp P a w K' Q)
    (hs : StepsG P Q I (i + 1) os) : StepsG P Q I i (o :: os) := fun k o' hk => by
  cases k with
  | zero =>
    simp only [List.getElem?_cons_zero, Option.some.injEq] at hk
    subst hk
    exact h
  | succ k =>
    simp only [List.getElem?_cons_succ] at hk
    have := hs k o' hk
    rwa [Nat.add_right_comm] at this
theorem wpAny_gi {ops : Array Oper} {I : (Nat → Bool) → Act → World → Prop} (he : edgesBack ops = true) (hs : StepsG P Q I 0 ops.toList)
    (hend : ∀ l a w, I l a w → (∀ k, l k = true) → Q .normal a w) :
    ∀ (fuel : Nat) (listed : Array Bool) (a : Act) (w : World), listed.size = ops.size → listed.toList.count false ≤ fuel → I (fun k => listed.getD k true) a w → wpAny P .any ops Q fuel listed a w := by
  have full : ∀ listed : Array Bool, listed.size = ops.size → (∀ k, k < ops.size → listed.getD k false = true) → ∀ k, listed.getD k true = true := fun listed hz h k => by
    by_cases hk : k < listed.size
    · have := h k (hz ▸ hk)
      simp [hk] at this ⊢
      exact this
    · simp [Array.getElem?_eq_none (Nat.le_of_not_lt hk)]
  intro fuel
  induction fuel with
  | zero =>
    intro listed a w hz hc hI
    have hall : ∀ k, k < ops.size → listed.getD k false = true := fun k hk => by
      have hk' : k < listed.size := hz ▸ hk
      have h0 : listed.toList.count false = 0 := Nat.le_zero.1 hc
      have := List.count_eq_zero.1 h0
      cases hv : listed[k] with
      | true => simp [hk', hv]
      | false => exact absurd (by rw [← hv]; exact Array.mem_toList_iff.2 (Array.getElem_mem hk')) this
    have hr : Region.ready .any ops listed = [] := by
      refine List.eq_nil_iff_forall_not_mem.2 (fun i hi => ?_)
      obtain ⟨h1, o, ho, _⟩ := mem_ready.1 hi
      have hi' : i < ops.size := (Array.getElem?_eq_some_iff.1 ho).1
      have h2 := hall i hi'
      have hi2 : i < listed.size := hz ▸ hi'
      simp [hi2] at h1 h2
      rw [h1] at h2
      cases h2
    exact ⟨hr, hend _ _ _ hI (full _ hz hall)⟩
  | succ fuel ih =>
    intro listed a w hz hc hI
    refine ⟨fun hr => hend _ _ _ hI (full _ hz (all_listed he hz hr)), fun i hi => ?_⟩
    obtain ⟨h1, o, ho, hed⟩ := mem_ready.1 hi
    have hi' : i < ops.size := (Array.getElem?_eq_some_iff.1 ho).1
    have hi2 : i < listed.size := hz ▸ hi'
    have hf : listed[i] = false := by simpa [hi2] using h1
    refine wpOp_step ho (fun K' hK => ?_)
    have hgd := (edgesBack_of he ho).1
    have hw : Region.wanted o (yielded ops a.tmps) = true := by simp [Region.wanted, hgd]
    rw [if_pos hw]
    refine hs i o (by simpa using ho) _ a w hI (by simp [hi2, hf]) (fun e hee hb => ?_) K' (fun a' w' hI' => hK a' w' (ih _ a' w' (by simpa using hz) ?_ ?_))
    · have h3 := hed e hee hb
      by_cases hk : e.on < listed.size
      · simp [hk] at h3 ⊢
        exact h3
      · simp [Array.getElem?_eq_none (Nat.le_of_not_lt hk)]
    · have hcs : (listed.setIfInBounds i true).toList.count false + 1 = listed.toList.count false := by
        have hm : 0 < listed.toList.count false := List.count_pos_iff.2 (by rw [← hf]; exact Array.mem_toList_iff.2 (Array.getElem_mem hi2))
        have e1 : (listed.toList[i] == false) = true := by simp [hf]
        have e2 : ¬ ((true == false) = true) := by decide
        rw [Array.toList_setIfInBounds, List.count_set (by simpa using hi2), if_pos e1, if_neg e2]
        omega
      omega
    · have : (fun k => (listed.setIfInBounds i true).getD k true) = upd (fun k => listed.getD k true) (0 + i) := by
        funext k
        by_cases e : k = i
        · subst e
          simp [upd, hi2]
        · simp [upd, e, Array.getElem?_setIfInBounds_ne (Ne.symm e)]
      rw [this]
      exact hI'

/-- **A region whose operations may come up in whatever order, over an invariant.** -/
theorem wp_region_gi {id : Nat} {ops : Array Oper} {a : Act} {w : World} (I : (Nat → Bool) → Act → World → Prop) (hm : P.follows .mixedOrders = true) (he : edgesBack ops = true)
    (h0 : ∀ l : Nat → Bool, (∀ k, k < ops.size → l k = false) → (∀ k, ops.size ≤ k → l k = true) → I l a w.drew)
    (hs : StepsG P Q I 0 ops.toList)
    (hend : ∀ l a' w', I l a' w' → (∀ k, l k = true) → Q .normal a' w') : (Code.region id ops true).wp P Q a w := by
  refine wp_region_any hm (wpAny_gi he hs hend ops.size _ a _ (by simp) (by simp) (h0 _ (fun k hk => by simp [hk]) (fun k hk => ?_)))
  simp [Array.getElem?_eq_none (show (Array.replicate ops.size false).size ≤ k by simpa using hk)]
theorem wp_region_gj {id : Nat} {ops : Array Oper} {a : Act} {w : World} (I : Act → (Nat → Bool) → Act → World → Prop) (G : Act → Prop) (hm : P.follows .mixedOrders = true) (he : edgesBack ops = true) (hG : G a)
    (h0 : ∀ a0, G a0 → ∀ l : Nat → Bool, (∀ k, k < ops.size → l k = false) → (∀ k, ops.size ≤ k → l k = true) → I a0 l a0 w.drew)
    (hs : ∀ a0, G a0 → StepsG P Q (I a0) 0 ops.toList)
    (hend : ∀ l a' w', I a l a' w' → (∀ k, l k = true) → Q .normal a' w') : (Code.region id ops true).wp P Q a w :=
  wp_region_gi (I a) hm he (h0 a hG) (hs a hG) hend
end

theorem RI.putq {S : RSpec} {D : List Nat} {B : Nat} {w0 : World} {a0 : Act} {l : Nat → Bool} {a : Act} {w : World} (h : RI S D B w0 a0 l a w) (i d : Nat) {v : Value} {w' : World} (hpre : ∀ j ∈ S.pre i, l j = true)
    (hd : D.contains d = true) (hs : d < a0.tmps.size) (hsl : S.slot i = d) (hli : l i = false) (hne : S.free i d = true) (hB : B ≤ w0.heap.size)
    (hst : ∀ k, k < S.n → StB (S.fact k)) (hb : Below w.heap.size w w') (hf : S.fact i v w') : RI S D B w0 a0 (upd l i) (a.put (some d) v) w' := by
  refine ⟨h.fr.put (List.contains_iff_mem.1 hd) v, h.bel.trans (hb.mono (Nat.le_trans hB h.bel.size)), fun k hk => upd_mono (h.vt k hk), fun k hk hl j hj => ?_, fun k hk hl hkill => ?_⟩
  · by_cases e : k = i
    · subst e
      exact upd_mono (hpre j hj)
    · rw [upd_ne e] at hl
      exact upd_mono (h.cl k hk hl j hj)
  · by_cases e : k = i
    · subst e
      rw [hsl, aT_put_eq (by rw [h.fr.size]; exact hs)]
      exact hf
    · rw [upd_ne e] at hl
      have hsk : S.slot k ≠ d := fun e2 => by
        have := h.cl k hk hl i (S.free_of hne hk e e2)
        rw [hli] at this
        cases this
      rw [aT_put_ne (Ne.symm hsk)]
      exact hst k hk _ _ _ (h.fact k hk hl (fun j hj => of_upd (hkill j hj))) hb

end Go.Proofs.YtbfjkmlmnhphoaaDoor

namespace Go.Proofs.YtbfjkmlmnhphoaaDoor
open Go.RowKit

theorem row_cells {w : World} {ad : Addr} {m : Nat} {ys : List Int} (h : Row w (some ad) m ys) : ∀ j u, (ys.map (Value.int .u8))[j]? = some u → w.cell? (ad.add j) = some u := by
  intro j u hj
  have hjl : j < ys.length := by
    have := (List.getElem?_eq_some_iff.1 hj).1
    simpa using this
  obtain ⟨b, off, ha, _, hc⟩ := h.get j (by rw [← h.len]; exact hjl)
  simp only [Option.some.injEq] at ha
  subst ha
  rw [Addr.add_lit, hc]
  simp [hjl] at hj
  simp [hjl, hj]

theorem row_none {w : World} {m : Nat} {ys : List Int} (h : Row w none m ys) : m = 0 ∧ ys = [] := by
  rcases Nat.eq_zero_or_pos m with h0 | h0
  · exact ⟨h0, List.eq_nil_of_length_eq_zero (by rw [h.len]; exact h0)⟩
  · obtain ⟨b, off, ha, _⟩ := h.get 0 h0
    simp at ha

/-- append(out, ys...): out our own, ys whatever is read, nil too. -/
theorem wpList_append_row {P : Program} (w : World) {ops : Array Oper} {rest : List Oper} {o : Oper} {a : Act} {Q : Exit → Act → World → Prop}
    (hg : o.guard = none) (s x : Operand) (t : TypeId) (hop : o.op = Op.call { callee := Callee.builtin Builtin.append, args := #[s, x], argTypes := #[t, t] })
    (base : Nat) (i : TypeInfo) (h1 : P.underlying t = some (.slice 5)) (h2 : P.info? 5 = some i) (h3 : i.zero = some (.int .u8 0)) (h4 : i.size = 1) (h5 : i.bytes = 1)
    (v : Value) (n : Nat) (xs : List Value) (hs : a.eval s = v) (hown : w.ownsRow base 5 1 v n xs)
    (ao : Option Addr) (m c : Nat) (ys : List Int) (hx : a.eval x = .slice ao m c) (hrow : Row w ao m ys) (hnil : ao = none → c = 0)
    (b1 : n + m ≤ 140737488355328) (b3 : base ≤ w.heap.size)
    (hK : ∀ v' w', w'.ownsRow base 5 1 v' (n + m) (xs ++ ys.map (Value.int .u8)) → w.grownBy w' v.ownBlock → wpList P ops Q rest (a.put o.dst v') w') :
    wpList P ops Q (o :: rest) a w := by
  cases ao with
  | some ad =>
    refine wpList_append_own w hg s x t hop base 5 i (.int .u8 0) 1 1 h1 h2 h3 h4 h5 rfl (by decide) v n xs hs hown ad m c (ys.map (Value.int .u8)) hx (by rw [List.length_map, hrow.len, Nat.mul_one]) (row_cells hrow) (ints_oneCell _ _) (by unfold maxLen; omega) (by omega) b3 ?_
    intro v' w' r1 r2 _
    exact hK v' w' r1 r2
  | none =>
    obtain ⟨rfl, rfl⟩ := row_none hrow
    obtain rfl := hnil rfl
    refine wpList_append_own_none hg s x t hop base 5 i 1 h1 h2 v n xs hs hown hx ?_
    exact hK v w (by simpa using hown) (World.grownBy.refl _ _)

end Go.Proofs.YtbfjkmlmnhphoaaDoor

set_option linter.unusedVariables false
namespace Go.Proofs.YtbfjkmlmnhphoaaDoor
open Go.RowKit

theorem own_nilE (B : Nat) (w : World) : Own B w none 0 0 [] := ⟨World.ownsRow_nil w B 5 1, by simp⟩
theorem own_zeroE (B : Nat) (w : World) (g : Nat) (hg : w.heap.size = g) (h : B ≤ w.heap.size) : Own B (w.alloc (.cells #[] 5)) (some ⟨g, 0, none⟩) 0 0 [] := by
  subst hg
  exact ⟨World.ownsRow_lit w #[] 0 h (by decide) rfl, by simp⟩

set_option maxRecDepth 10000 in
set_option maxHeartbeats 1000000 in
theorem clone_any (a : Option Addr) (n cap : Nat) (bs : List Int) (w : World) (h : Row w a n bs) (hnil : a = none → cap = 0) (hn : n ≤ 1048576) :
    Calls Tryd.prog 97 #[.slice a n cap] w fun e w' => ∃ a' cap', e = .returned (.slice a' n cap') ∧ Own w.heap.size w' a' n cap' bs ∧ Below w.heap.size w w' := by
  obtain ⟨i0, hi, hz0, hz1, hz2⟩ := info_parts Tryd.info5
  cases a with
  | none =>
    obtain ⟨rfl, rfl⟩ := row_none h
    obtain rfl := hnil rfl
    clear h
    have he : ∀ w : World, (binOp .eql 26 (.slice none 0 0) (.slice none 0 0)).run Tryd.prog w = .ok (.bool true) w := fun _ => rfl
    go_enter Tryd.func97, Tryd.ntmps97
    go_wp2
    go_ret
    exact ⟨none, 0, rfl, own_nilE _ _, Below.refl _ _⟩
  | some ad =>
    have hB1 : Below w.heap.size w (w.alloc (.cells #[] 5)) := (Below.refl _ _).alloc (Nat.le_refl _) _
    have HO : Hid (Own w.heap.size (w.alloc (.cells #[] 5)) (some ⟨w.heap.size, 0, none⟩) 0 0 []) := own_zeroE _ _ _ rfl (Nat.le_refl _)
    have HR : Hid (Row w (some ad) n bs) := h
    clear h
    have he : ∀ w : World, (binOp .eql 26 (.slice (some ad) n cap) (.slice none 0 0)).run Tryd.prog w = .ok (.bool false) w := fun _ => rfl
    go_enter Tryd.func97, Tryd.ntmps97
    go_wp2_with (at_builtin; refine wpList_append_row _ rfl (.tmp 5) (.tmp 6) 26 rfl w.heap.size i0 Tryd.underlying26 hi hz0 hz1 hz2 _ _ _ rfl HO.out.row (some ad) n cap bs rfl (HR.out.kept hB1) hnil (by omega) hB1.size ?_; intro v1 w1 hv1 hg1; obtain ⟨a1, c1, rfl, ho1⟩ := own_appended (xs := []) (ys := bs) hv1 HO.out.byte HR.out.byte; have hb1 : Below w.heap.size w w1 := below_appended hB1 hB1.size HO.out.row hg1)
    go_ret
    have ho1' : Own w.heap.size w1 a1 n c1 bs := by simpa using ho1
    exact ⟨a1, c1, by simp [Array.getD], ho1', hb1⟩

end Go.Proofs.YtbfjkmlmnhphoaaDoor
