import Derived.Test.YtbfjkmlmnhphoaaDoorGTouchN1
import Derived.Laws.Rows
import Derived.Laws.Tables
import Derived.RegionTactic
import Derived.Tactics
namespace Go.Proofs.YtbfjkmlmnhphoaaDoor
open Go.RowKit

/-- What lies in a slot. -/
def aT (a : Act) (t : Nat) : Value := a.tmps.getD t undef
def upd (l : Nat → Bool) (i : Nat) : Nat → Bool := fun k => decide (k = i) || l k
theorem upd_same (l : Nat → Bool) (i : Nat) : upd l i i = true := by simp [upd]
theorem upd_ne {l : Nat → Bool} {i k : Nat} (h : k ≠ i) : upd l i k = l k := by simp [upd, h]
theorem upd_mono {l : Nat → Bool} {i k : Nat} (h : l k = true) : upd l i k = true := by simp [upd, h]
theorem of_upd {l : Nat → Bool} {i k : Nat} (h : upd l i k = false) : l k = false := by
  simp [upd] at h
  exact h.2

/-- All slots but those of D are as they were. -/
structure Fr (D : List Nat) (a0 a : Act) : Prop where
  size : a.tmps.size = a0.tmps.size
  defers : a.defers = a0.defers
  same : ∀ t, t ∉ D → aT a t = aT a0 t
theorem Fr.refl (D : List Nat) (a : Act) : Fr D a a := ⟨rfl, rfl, fun _ _ => rfl⟩
theorem aT_put_ne {a : Act} {d t : Nat} {v : Value} (h : d ≠ t) : aT (a.put (some d) v) t = aT a t := by
  simp [aT, Act.put, Array.getElem?_setIfInBounds_ne h]
theorem aT_put_eq {a : Act} {d : Nat} {v : Value} (h : d < a.tmps.size) : aT (a.put (some d) v) d = v := by
  simp [aT, Act.put, h]
theorem Fr.put {D : List Nat} {a0 a : Act} {d : Nat} (h : Fr D a0 a) (hd : d ∈ D) (v : Value) : Fr D a0 (a.put (some d) v) :=
  ⟨by simp [Act.put, h.size], h.defers, fun t ht => (aT_put_ne (fun e => ht (by rw [← e]; exact hd))).trans (h.same t ht)⟩

def puts (f : Nat → Value) : List Nat → Act → Act
  | [], a => a
  | d :: D, a => puts f D (a.put (some d) (f d))
theorem puts_size (f : Nat → Value) : ∀ (D : List Nat) (a : Act), (puts f D a).tmps.size = a.tmps.size
  | [], _ => rfl
  | d :: D, a => by rw [puts, puts_size f D]; simp [Act.put]
theorem puts_defers (f : Nat → Value) : ∀ (D : List Nat) (a : Act), (puts f D a).defers = a.defers
  | [], _ => rfl
  | d :: D, a => by rw [puts, puts_defers f D]; rfl
theorem puts_at (f : Nat → Value) : ∀ (D : List Nat) (a : Act) (t : Nat), t < a.tmps.size → aT (puts f D a) t = if t ∈ D then f t else aT a t
  | [], _, _, _ => by simp [puts]
  | d :: D, a, t, ht => by
    rw [puts, puts_at f D _ t (by simpa [Act.put] using ht)]
    by_cases h : t ∈ D
    · simp [h]
    · by_cases h2 : t = d
      · subst h2
        simp [h, aT_put_eq ht]
      · simp [h, h2, aT_put_ne (Ne.symm h2)]
theorem act_ext {a b : Act} (hs : a.tmps.size = b.tmps.size) (hd : a.defers = b.defers) (h : ∀ t, t < a.tmps.size → aT a t = aT b t) : a = b := by
  obtain ⟨x, dx⟩ := a
  obtain ⟨y, dy⟩ := b
  simp only at hd hs
  subst hd
  congr 1
  refine Array.ext hs (fun i h1 h2 => ?_)
  have := h i h1
  simpa [aT, h1, h2] using this
/-- A frame of which only the slots of D have turned, written out. -/
theorem Fr.eq {D : List Nat} {a0 a : Act} (h : Fr D a0 a) : a = puts (aT a) D a0 := by
  refine act_ext (h.size.trans (puts_size _ _ _).symm) (h.defers.trans (puts_defers _ _ _).symm) (fun t ht => ?_)
  rw [puts_at _ _ _ _ (h.size ▸ ht)]
  by_cases hd : t ∈ D
  · simp [hd]
  · simp [hd, h.same t hd]

/-- What is known of a region while its operations come up: of each, once it has come up, one fact on its slot and the world, till another one drops it. -/
structure RSpec where
  m : Nat
  n : Nat
  slots : List Nat
  fact : Nat → Value → World → Prop
  kills : List (List Nat)
  pres : List (List Nat)
def RSpec.slot (S : RSpec) (k : Nat) : Nat := S.slots.getD k 0
def RSpec.kill (S : RSpec) (k : Nat) : List Nat := S.kills.getD k []
def RSpec.pre (S : RSpec) (k : Nat) : List Nat := S.pres.getD k []
structure RI (S : RSpec) (D : List Nat) (B : Nat) (w0 : World) (a0 : Act) (l : Nat → Bool) (a : Act) (w : World) : Prop where
  fr : Fr D a0 a
  bel : Below B w0 w
  vt : ∀ k, S.m ≤ k → l k = true
  cl : ∀ k, k < S.n → l k = true → ∀ j ∈ S.pre k, l j = true
  fact : ∀ k, k < S.n → l k = true → (∀ j ∈ S.kill k, l j = false) → S.fact k (aT a (S.slot k)) w
def StB (p : Value → World → Prop) : Prop := ∀ v w w', p v w → Below w.heap.size w w' → p v w'
theorem StB.val (q : Value → Prop) : StB (fun v _ => q v) := fun _ _ _ h _ => h
/-- The slot d of the operation i is nobody else's, but of those that wait for i. -/
def RSpec.free (S : RSpec) (i d : Nat) : Bool := (List.range S.n).all fun k => k == i || S.slot k != d || (S.pre k).contains i
theorem RSpec.free_of {S : RSpec} {i d : Nat} (h : S.free i d = true) {k : Nat} (hk : k < S.n) (hne : k ≠ i) (hs : S.slot k = d) : i ∈ S.pre k := by
  have := List.all_eq_true.1 h k (List.mem_range.2 hk)
  simpa [hne, hs] using this
theorem RI.put {S : RSpec} {D : List Nat} {B : Nat} {w0 : World} {a0 : Act} {l : Nat → Bool} {a : Act} {w : World} (h : RI S D B w0 a0 l a w) (i d : Nat) {v : Value} {w' : World} (hpre : S.pre i = [])
    (hd : D.contains d = true) (hs : d < a0.tmps.size) (hsl : S.slot i = d) (hli : l i = false) (hne : S.free i d = true) (hB : B ≤ w0.heap.size)
    (hst : ∀ k, k < S.n → StB (S.fact k)) (hb : Below w.heap.size w w') (hf : S.fact i v w') : RI S D B w0 a0 (upd l i) (a.put (some d) v) w' := by
  refine ⟨h.fr.put (List.contains_iff_mem.1 hd) v, h.bel.trans (hb.mono (Nat.le_trans hB h.bel.size)), fun k hk => upd_mono (h.vt k hk), fun k hk hl j hj => ?_, fun k hk hl hkill => ?_⟩
  · by_cases e : k = i
    · subst e
      rw [hpre] at hj
      cases hj
    · rw [upd_ne e] at hl
      exact upd_mono (h.cl k hk hl j hj)
  · by_cases e : k = i
    · subst e
      rw [hsl, aT_put_eq (by rw [h.fr.size]; exact hs)]
      exact hf
    · rw [upd_ne e] at hl
      have hsk : S.slot k ≠ d := fun e2 => by
        have := h.cl k hk hl i (S.free_of hne hk e e2)
        rw [hli] at this
        cases this
      rw [aT_put_ne (Ne.symm hsk)]
      exact hst k hk _ _ _ (h.fact k hk hl (fun j hj => of_upd (hkill j hj))) hb
/-- A store: nothing is put; what is not dropped by it is shown to stay. -/
theorem RI.store {S : RSpec} {D : List Nat} {B : Nat} {w0 : World} {a0 : Act} {l : Nat → Bool} {a : Act} {w : World} (h : RI S D B w0 a0 l a w) (i : Nat) {w' : World} (hpre : ∀ j ∈ S.pre i, l j = true)
    (hb : Below B w0 w') (hst : ∀ k, k < S.n → k ≠ i → i ∉ S.kill k → ∀ v, S.fact k v w → S.fact k v w') (hf : S.fact i (aT a (S.slot i)) w') : RI S D B w0 a0 (upd l i) (a.put none undef) w' := by
  refine ⟨h.fr, hb, fun k hk => upd_mono (h.vt k hk), fun k hk hl j hj => ?_, fun k hk hl hkill => ?_⟩
  · by_cases e : k = i
    · subst e
      exact upd_mono (hpre j hj)
    · rw [upd_ne e] at hl
      exact upd_mono (h.cl k hk hl j hj)
  · by_cases e : k = i
    · subst e
      exact hf
    · rw [upd_ne e] at hl
      refine hst k hk e (fun hm => ?_) _ (h.fact k hk hl (fun j hj => of_upd (hkill j hj)))
      have := hkill i hm
      rw [upd_same] at this
      cases this
/-- A fact that is there from the start. -/
theorem RI.vot {S : RSpec} {D : List Nat} {B : Nat} {w0 : World} {a0 : Act} {l : Nat → Bool} {a : Act} {w : World} (h : RI S D B w0 a0 l a w) (k : Nat) (hk : k < S.n) (hm : S.m ≤ k) (hkill : S.kill k = []) : S.fact k (aT a (S.slot k)) w := h.fact k hk (h.vt k hm) (by simp [hkill])
theorem RI.vot1 {S : RSpec} {D : List Nat} {B : Nat} {w0 : World} {a0 : Act} {l : Nat → Bool} {a : Act} {w : World} (h : RI S D B w0 a0 l a w) (k i : Nat) (hk : k < S.n) (hm : S.m ≤ k) (hli : l i = false) (hkill : S.kill k = [i]) : S.fact k (aT a (S.slot k)) w := h.fact k hk (h.vt k hm) (by simp [hkill, hli])
/-- The fact of one that has come up, and that nobody drops. -/
theorem RI.got {S : RSpec} {D : List Nat} {B : Nat} {w0 : World} {a0 : Act} {l : Nat → Bool} {a : Act} {w : World} (h : RI S D B w0 a0 l a w) (k : Nat) (hk : k < S.n) (hl : l k = true) (hkill : S.kill k = []) : S.fact k (aT a (S.slot k)) w := h.fact k hk hl (by simp [hkill])
/-- .. and that i alone drops, which has not come up. -/
theorem RI.got1 {S : RSpec} {D : List Nat} {B : Nat} {w0 : World} {a0 : Act} {l : Nat → Bool} {a : Act} {w : World} (h : RI S D B w0 a0 l a w) (k i : Nat) (hk : k < S.n) (hl : l k = true) (hli : l i = false) (hkill : S.kill k = [i]) : S.fact k (aT a (S.slot k)) w := h.fact k hk hl (by simp [hkill, hli])
theorem edge {l : Nat → Bool} {o : Oper} (he : ∀ e ∈ o.after, Region.binds .any e = true → l e.on = true) (j : Nat) (h : (o.after.toList.any fun e => Region.binds .any e && (e.on == j)) = true) : l j = true := by
  obtain ⟨e, hm, h2⟩ := List.any_eq_true.1 h
  simp only [Bool.and_eq_true, beq_iff_eq] at h2
  rw [← h2.2]
  exact he e (Array.mem_toList_iff.1 hm) h2.1
/-- A row of our own is not in a box of another type. -/
theorem ownsRow_box {B e k n g t : Nat} {w w' : World} {v : Value} {xs : List Value} {cs : Array Value} {fr : Nat × Nat} (h : w.ownsRow B e k v n xs) (hg : w.heap[g]? = some (.cells cs t fr)) (hne : t ≠ e) (ht : Touch g (g + 1) w w') : w'.ownsRow B e k v n xs := by
  refine ⟨h.1, ?_⟩
  rcases h.2 with h0 | ⟨g', cap, cur, hv, hb, hh, rest⟩
  · exact .inl h0
  · have : g' ≠ g := fun e2 => by
      subst e2
      rw [hg] at hh
      simp only [Option.some.injEq, Obj.cells.injEq] at hh
      exact hne hh.2.1
    exact .inr ⟨g', cap, cur, hv, hb, (ht.block g' (Array.getElem?_eq_some_iff.1 hh).1 (by omega)).trans hh, rest⟩
theorem box_box {g g' t t' : Nat} {w w' : World} {cs cs' : Array Value} {fr fr' : Nat × Nat} (h : w.heap[g']? = some (.cells cs' t' fr')) (hg : w.heap[g]? = some (.cells cs t fr)) (hne : t ≠ t') (ht : Touch g (g + 1) w w') : w'.heap[g']? = some (.cells cs' t' fr') := by
  have : g' ≠ g := fun e2 => by
    subst e2
    rw [hg] at h
    simp only [Option.some.injEq, Obj.cells.injEq] at h
    exact hne h.2.1
  exact (ht.block g' (Array.getElem?_eq_some_iff.1 h).1 (by omega)).trans h
theorem setRow_touch (w : World) (g : Nat) (cs : Array Value) : Touch g (g + 1) w (w.setRow g cs) :=
  ⟨rfl, rfl, rfl, by simp [World.setRow], fun k hk ho => by
    simp only [World.setRow]
    rw [Array.getElem?_modify, if_neg (by omega)]⟩
theorem below_kept {w w' : World} {g : Nat} {o : Obj} (h : w.heap[g]? = some o) (hb : Below w.heap.size w w') : w'.heap[g]? = some o := (hb.block g (Array.getElem?_eq_some_iff.1 h).1).trans h

section
variable {P : Program} {Q : Exit → Act → World → Prop}
def StepsRI (P : Program) (Q : Exit → Act → World → Prop) (S : RSpec) (D : List Nat) (B : Nat) (w0 : World) (a0 : Act) (i : Nat) (os : List Oper) : Prop :=
  ∀ k o, os[k]? = some o → ∀ (l : Nat → Bool) (a : Act) (w : World), RI S D B w0 a0 l a w → l (i + k) = false → (∀ e ∈ o.after, Region.binds .any e = true → l e.on = true) → ∀ K' : Act → World → Prop, Hid (∀ a w, RI S D B w0 a0 (upd l (i + k)) a w → K' a w) → o.wp P a w K' Q
theorem StepsRI.nil {S : RSpec} {D : List Nat} {B : Nat} {w0 : World} {a0 : Act} {i : Nat} : StepsRI P Q S D B w0 a0 i [] := fun k o h => by simp at h
theorem StepsRI.cons {S : RSpec} {D : List Nat} {B : Nat} {w0 : World} {a0 : Act} {i : Nat} {o : Oper} {os : List Oper}
    (h : ∀ (l : Nat → Bool) (a : Act) (w : World), RI S D B w0 a0 l a w → l i = false → (∀ e ∈ o.after, Region.binds .any e = true → l e.on = true) → ∀ K' : Act → World → Prop, Hid (∀ a w, RI S D B w0 a0 (upd l i) a w → K' a w) → o.wp P a w K' Q)
    (hs : StepsRI P Q S D B w0 a0 (i + 1) os) : StepsRI P Q S D B w0 a0 i (o :: os) := fun k o' hk => by
  cases k with
  | zero =>
    simp only [List.getElem?_cons_zero, Option.some.injEq] at hk
    subst hk
    exact h
  | succ k =>
    simp only [List.getElem?_cons_succ] at hk
    have := hs k o' hk
    rwa [Nat.add_right_comm] at this
/-- Every edge leads back. -/
def edgesBack (ops : Array Oper) : Bool := (List.range ops.size).all fun i => ((ops[i]?).map fun o => o.guard.isNone && o.after.all fun e => !Region.binds .any e || decide (e.on < i)).getD true
theorem edgesBack_of {ops : Array Oper} (h : edgesBack ops = true) {i : Nat} {o : Oper} (ho : ops[i]? = some o) : o.guard = none ∧ ∀ e ∈ o.after, Region.binds .any e = true → e.on < i := by
  have hi : i < ops.size := (Array.getElem?_eq_some_iff.1 ho).1
  have h1 := List.all_eq_true.1 h i (List.mem_range.2 hi)
  rw [ho] at h1
  simp only [Option.map_some, Option.getD_some, Bool.and_eq_true, Option.isNone_iff_eq_none] at h1
  refine ⟨h1.1, fun e he hb => ?_⟩
  obtain ⟨j, hj, rfl⟩ := Array.mem_iff_getElem.1 he
  have := (Array.all_eq_true.1 h1.2) j hj
  simpa [hb] using this
theorem all_listed {ops : Array Oper} {listed : Array Bool} (he : edgesBack ops = true) (hz : listed.size = ops.size) (h : Region.ready .any ops listed = []) : ∀ i, i < ops.size → listed.getD i false = true := by
  intro i
  induction i using Nat.strongRecOn with
  | ind i ih =>
    intro hi
    cases hl : listed.getD i false with
    | true => rfl
    | false =>
      exfalso
      have ho : ops[i]? = some ops[i] := by simp [hi]
      have hm : i ∈ Region.ready .any ops listed := mem_ready.2 ⟨by
        have : i < listed.size := hz ▸ hi
        simp [this] at hl ⊢
        exact hl, _, ho, fun e hee hb => ih _ ((edgesBack_of he ho).2 e hee hb) (Nat.lt_trans ((edgesBack_of he ho).2 e hee hb) hi)⟩
      rw [h] at hm
      cases hm
theorem wpAny_ri {ops : Array Oper} {S : RSpec} {D : List Nat} {B : Nat} {w0 : World} {a0 : Act} (he : edgesBack ops = true) (hs : StepsRI P Q S D B w0 a0 0 ops.toList)
    (hend : ∀ l a w, RI S D B w0 a0 l a w → (∀ k, l k = true) → Q .normal a w) :
    ∀ (fuel : Nat) (listed : Array Bool) (a : Act) (w : World), listed.size = ops.size → listed.toList.count false ≤ fuel → RI S D B w0 a0 (fun k => listed.getD k true) a w → wpAny P .any ops Q fuel listed a w := by
  have full : ∀ listed : Array Bool, listed.size = ops.size → (∀ k, k < ops.size → listed.getD k false = true) → ∀ k, listed.getD k true = true := fun listed hz h k => by
    by_cases hk : k < listed.size
    · have := h k (hz ▸ hk)
      simp [hk] at this ⊢
      exact this
    · simp [Array.getElem?_eq_none (Nat.le_of_not_lt hk)]
  intro fuel
  induction fuel with
  | zero =>
    intro listed a w hz hc hI
    have hall : ∀ k, k < ops.size → listed.getD k false = true := fun k hk => by
      have hk' : k < listed.size := hz ▸ hk
      have h0 : listed.toList.count false = 0 := Nat.le_zero.1 hc
      have := List.count_eq_zero.1 h0
      cases hv : listed[k] with
      | true => simp [hk', hv]
      | false => exact absurd (by rw [← hv]; exact Array.mem_toList_iff.2 (Array.getElem_mem hk')) this
    have hr : Region.ready .any ops listed = [] := by
      refine List.eq_nil_iff_forall_not_mem.2 (fun i hi => ?_)
      obtain ⟨h1, o, ho, _⟩ := mem_ready.1 hi
      have hi' : i < ops.size := (Array.getElem?_eq_some_iff.1 ho).1
      have h2 := hall i hi'
      have hi2 : i < listed.size := hz ▸ hi'
      simp [hi2] at h1 h2
      rw [h1] at h2
      cases h2
    exact ⟨hr, hend _ _ _ hI (full _ hz hall)⟩
  | succ fuel ih =>
    intro listed a w hz hc hI
    refine ⟨fun hr => hend _ _ _ hI (full _ hz (all_listed he hz hr)), fun i hi => ?_⟩
    obtain ⟨h1, o, ho, hed⟩ := mem_ready.1 hi
    have hi' : i < ops.size := (Array.getElem?_eq_some_iff.1 ho).1
    have hi2 : i < listed.size := hz ▸ hi'
    have hf : listed[i] = false := by simpa [hi2] using h1
    refine wpOp_step ho (fun K' hK => ?_)
    have hgd := (edgesBack_of he ho).1
    have hw : Region.wanted o (yielded ops a.tmps) = true := by simp [Region.wanted, hgd]
    rw [if_pos hw]
    refine hs i o (by simpa using ho) _ a w hI (by simp [hi2, hf]) (fun e hee hb => ?_) K' (fun a' w' hI' => hK a' w' (ih _ a' w' (by simpa using hz) ?_ ?_))
    · have h3 := hed e hee hb
      by_cases hk : e.on < listed.size
      · simp [hk] at h3 ⊢
        exact h3
      · simp [Array.getElem?_eq_none (Nat.le_of_not_lt hk)]
    · have hcs : (listed.setIfInBounds i true).toList.count false + 1 = listed.toList.count false := by
        have hm : 0 < listed.toList.count false := List.count_pos_iff.2 (by rw [← hf]; exact Array.mem_toList_iff.2 (Array.getElem_mem hi2))
        have e1 : (listed.toList[i] == false) = true := by simp [hf]
        have e2 : ¬ ((true == false) = true) := by decide
        rw [Array.toList_setIfInBounds, List.count_set (by simpa using hi2), if_pos e1, if_neg e2]
        omega
      omega
    · have : (fun k => (listed.setIfInBounds i true).getD k true) = upd (fun k => listed.getD k true) (0 + i) := by
        funext k
        by_cases e : k = i
        · subst e
          simp [upd, hi2]
        · simp [upd, e, Array.getElem?_setIfInBounds_ne (Ne.symm e)]
      rw [this]
      exact hI'
theorem ri_start {S : RSpec} {D : List Nat} {B : Nat} {a : Act} {w w' : World} {l : Nat → Bool} (hb : Below B w w') (hl0 : ∀ k, l k = true → S.m ≤ k) (hl1 : ∀ k, S.m ≤ k → l k = true) (hp : (S.pres.drop S.m).all List.isEmpty = true)
    (h0 : ∀ k, S.m ≤ k → k < S.n → S.fact k (aT a (S.slot k)) w') : RI S D B w a l a w' := by
  refine ⟨Fr.refl _ _, hb, hl1, fun k hk hl j hj => ?_, fun k hk hl _ => h0 k (hl0 k hl) hk⟩
  have hm := hl0 k hl
  have : S.pre k = [] := by
    unfold RSpec.pre
    rw [List.getD_eq_getElem?_getD]
    cases hg : S.pres[k]? with
    | none => rfl
    | some x =>
      have hx : x ∈ S.pres.drop S.m := List.mem_iff_getElem?.2 ⟨k - S.m, by rw [List.getElem?_drop, Nat.add_sub_cancel' hm, hg]⟩
      have := List.all_eq_true.1 hp x hx
      simpa using this
  rw [this] at hj
  cases hj
/-- **A region whose operations may come up in whatever order: each is stepped once, over what is known of those ahead of it.** -/
theorem wp_region_ri {id : Nat} {ops : Array Oper} {a : Act} {w : World} (S : RSpec) (D : List Nat) (B : Nat) (G : Act → Prop) (hm : P.follows .mixedOrders = true) (hn : S.m = ops.size) (he : edgesBack ops = true) (hp : (S.pres.drop S.m).all List.isEmpty = true) (hG : G a)
    (hst : ∀ k, k < S.n → StB (S.fact k)) (h0 : ∀ k, S.m ≤ k → k < S.n → S.fact k (aT a (S.slot k)) w)
    (hs : ∀ a0, G a0 → StepsRI P Q S D B w a0 0 ops.toList)
    (hend : ∀ a' w', Fr D a a' → Below B w w' → (∀ k, k < S.n → S.kill k = [] → S.fact k (aT a' (S.slot k)) w') → Q .normal a' w') : (Code.region id ops true).wp P Q a w := by
  refine wp_region_any hm (wpAny_ri he (hs a hG) (fun l a' w' hI hl => hend a' w' hI.fr hI.bel (fun k hk h0 => hI.fact k hk (hl k) (by simp [h0]))) ops.size _ a _ (by simp) (by simp) ?_)
  refine ri_start (Below.refl _ _).drew (fun k hl => ?_) (fun k hk => ?_) hp (fun k h1 h2 => hst k h2 _ _ _ (h0 k h1 h2) (Below.refl _ _).drew)
  · rw [hn]
    by_cases hk : k < ops.size
    · simp [hk] at hl
    · omega
  · rw [hn] at hk
    simp [Array.getElem?_eq_none (show (Array.replicate ops.size false).size ≤ k by simpa using hk)]
theorem wpList_rp {ops : Array Oper} {S : RSpec} {D : List Nat} {B : Nat} {w0 : World} {a0 : Act} (he : edgesBack ops = true) (hs : StepsRI P Q S D B w0 a0 0 ops.toList)
    (hend : ∀ l a w, RI S D B w0 a0 l a w → (∀ k, l k = true) → Q .normal a w) :
    ∀ (rest : List Oper) (k : Nat) (a : Act) (w : World), ops.toList.drop k = rest → k ≤ ops.size → RI S D B w0 a0 (fun j => decide (j < k ∨ ops.size ≤ j)) a w → wpList P ops Q rest a w := by
  intro rest
  induction rest with
  | nil =>
    intro k a w hd hk hI
    have hl : ops.size ≤ k := by
      have := congrArg List.length hd
      simp at this
      omega
    exact wpList_nil (hend _ _ _ hI (fun j => by simp; omega))
  | cons o rest ih =>
    intro k a w hd hk hI
    have ho : ops.toList[k]? = some o := by
      have := congrArg (fun l => l[0]?) hd
      simpa using this
    have ho' : ops[k]? = some o := by simpa using ho
    have hlt : k < ops.size := (Array.getElem?_eq_some_iff.1 ho').1
    refine wpList_plain (edgesBack_of he ho').1 (fun K hK => ?_)
    refine hs k o ho _ a w hI (by simp; omega) (fun e hee hb => by have := (edgesBack_of he ho').2 e hee hb; simp; omega) K (fun a' w' hI' => hK a' w' (ih (k + 1) a' w' ?_ hlt ?_))
    · have := congrArg (List.drop 1) hd
      simpa [List.drop_drop, Nat.add_comm] using this
    · have : (fun j => decide (j < k + 1 ∨ ops.size ≤ j)) = upd (fun j => decide (j < k ∨ ops.size ≤ j)) (0 + k) := by
        funext j
        simp only [upd, Nat.zero_add]
        by_cases e : j = k
        · subst e
          simp
        · have : (j < k + 1 ∨ ops.size ≤ j) ↔ (j < k ∨ ops.size ≤ j) := by omega
          simp only [e, this, decide_false, Bool.false_or]
      rw [this]
      exact hI'
/-- The same for a region that does not draw. -/
theorem wp_region_rp {id : Nat} {os : List Oper} {a : Act} {w : World} (S : RSpec) (D : List Nat) (B : Nat) (G : Act → Prop) (hn : S.m = os.length) (he : edgesBack os.toArray = true) (hp : (S.pres.drop S.m).all List.isEmpty = true) (hG : G a)
    (_ : ∀ k, k < S.n → StB (S.fact k)) (h0 : ∀ k, S.m ≤ k → k < S.n → S.fact k (aT a (S.slot k)) w)
    (hs : ∀ a0, G a0 → StepsRI P Q S D B w a0 0 os)
    (hend : ∀ a' w', Fr D a a' → Below B w w' → (∀ k, k < S.n → S.kill k = [] → S.fact k (aT a' (S.slot k)) w') → Q .normal a' w') : (Code.region id os.toArray false).wp P Q a w := by
  refine wp_region_lit (wpList_rp he (hs a hG) (fun l a' w' hI hl => hend a' w' hI.fr hI.bel (fun k hk h0 => hI.fact k hk (hl k) (by simp [h0]))) os 0 a w (by simp) (by simp) ?_)
  refine ri_start (Below.refl _ _) (fun k hl => ?_) (fun k hk => ?_) hp h0
  · rw [hn]
    simpa using hl
  · rw [hn] at hk
    simpa using hk
/-- An operation that yields a value. -/
theorem opw_value {o : Oper} {a : Act} {w w' : World} {K : Act → World → Prop} (v : Value) (hr : (execOp a.eval o).run P w = .ok (.value v) w') (h : K (a.put o.dst v) w') : o.wp P a w K Q := by
  unfold Oper.wp
  rw [hr]
  exact h
theorem opw_move {o : Oper} {a : Act} {w : World} {K : Act → World → Prop} (x : Nat) (ho : o.op = .move (.tmp x)) (h : K (a.put o.dst (aT a x)) w) : o.wp P a w K Q :=
  opw_value (aT a x) (by unfold execOp; rw [ho]; rfl) h
theorem opw_assign {o : Oper} {a : Act} {w : World} {K : Act → World → Prop} (x : Nat) (ho : o.op = .assign (.tmp x)) (h : K (a.put o.dst (aT a x)) w) : o.wp P a w K Q :=
  opw_value (aT a x) (by unfold execOp; rw [ho]; rfl) h
theorem opw_extract {o : Oper} {a : Act} {w : World} {K : Act → World → Prop} (x i : Nat) (ho : o.op = .extract (.tmp x) i) (vs : Array Value) (v : Value) (hx : aT a x = .tuple vs) (hv : vs[i]? = some v) (h : K (a.put o.dst v) w) : o.wp P a w K Q := by
  refine opw_value v ?_ h
  have hx' : a.eval (.tmp x) = .tuple vs := hx
  unfold execOp
  simp [ho, hx', Instr.extract, hv]
theorem opw_call {o : Oper} {a : Act} {w : World} {K : Act → World → Prop} (f : FuncId) (ar : Array Operand) (ats : Array TypeId) (fn : Func) (c : Code) (ho : o.op = .call { callee := .value (.func f), args := ar, argTypes := ats })
    (hf : P.funcs[f]? = some fn) (hname : (fn.name == "runtime.NumGoroutine") = false) (hb : fn.body = some c) (args : Array Value) (hargs : ar.map a.eval = args)
    (h : Calls P f args w fun e w' => ∃ v, e = .returned v ∧ K (a.put o.dst v) w') : o.wp P a w K Q := by
  have hn2 : ¬ fn.name = "runtime.NumGoroutine" := by simpa using hname
  have hr : (execOp a.eval o).run P w = .ok (.enter f args) w := by
    unfold execOp
    rw [ho]
    simp [resolve, hargs, Act.eval, Deferred.ofValue, invoke, callFunc, hf, hn2, hb]
  unfold Oper.wp
  rw [hr, Oper.upon_enter]
  refine h.mono fun e w' hh => ?_
  obtain ⟨v, rfl, hk⟩ := hh
  exact hk
/-- A structure put together. -/
theorem opw_build {o : Oper} {a : Act} {w : World} {K : Act → World → Prop} (t : TypeId) (parts : Array (Nat × Operand)) (ho : o.op = .build t parts) (vs : Array (Nat × Value)) (hvs : (parts.map fun p => (p.1, a.eval p.2)) = vs) (v : Value)
    (hr : (Instr.build t vs).run P w = .ok v w) (h : K (a.put o.dst v) w) : o.wp P a w K Q := by
  refine opw_value v ?_ h
  have hvs' : (parts.map fun x : Nat × Operand => match x with | (i, x) => (i, a.eval x)) = vs := hvs
  unfold execOp
  simp only [ho]
  rw [hvs']
  simp [hr]
/-- A constant. -/
theorem opw_const {o : Oper} {a : Act} {w : World} {K : Act → World → Prop} (v : Value) (ho : o.op = .assign (.const v)) (h : K (a.put o.dst v) w) : o.wp P a w K Q :=
  opw_value v (by unfold execOp; rw [ho]; rfl) h
theorem opw_field {o : Oper} {a : Act} {w : World} {K : Act → World → Prop} (s : TypeId) (x f : Nat) (ho : o.op = .fieldAddr s (.tmp x) f) (p : Value) (hx : aT a x = p) (v : Value) (hr : (Instr.fieldAt s p f).run P w = .ok v w) (h : K (a.put o.dst v) w) : o.wp P a w K Q := by
  refine opw_value v ?_ h
  have hx' : a.eval (.tmp x) = p := hx
  unfold execOp
  simp [ho, hx', hr]
/-- One cell loaded. -/
theorem opw_load1 {o : Oper} {a : Act} {w : World} {K : Act → World → Prop} (t : TypeId) (x : Nat) (ho : o.op = .load t (.tmp x)) (p : Value) (hx : aT a x = p) (v : Value) (hr : (Instr.loadAt t p).run P w = .ok v w) (h : K (a.put o.dst v) w) : o.wp P a w K Q := by
  refine opw_value v ?_ h
  have hx' : a.eval (.tmp x) = p := hx
  unfold execOp
  simp [ho, hx', hr]
theorem evc (a : Act) (v : Value) : a.eval (.const v) = v := rfl
theorem ev (a : Act) (t : Nat) : a.eval (.tmp t) = aT a t := rfl
end

end Go.Proofs.YtbfjkmlmnhphoaaDoor
