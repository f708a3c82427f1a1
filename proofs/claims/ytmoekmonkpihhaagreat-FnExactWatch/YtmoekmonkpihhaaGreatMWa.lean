import Derived.Test.YtmoekmonkpihhaaGreatTouch
import Derived.Laws.Rows
import Derived.Laws.Tables
import Derived.RegionTactic
import Derived.Tactics
import Derived.Test.YtmoekmonkpihhaaGreatSA4
import Derived.Test.YtmoekmonkpihhaaGreatMTG
import Derived.Test.YtmoekmonkpihhaaGreatMVw
import Derived.Deep.DeepCutAuto
import Derived.Test.YtmoekmonkpihhaaGreatMHw
import Derived.Test.YtmoekmonkpihhaaGreatMQw
namespace Go.Proofs.YtmoekmonkpihhaaGreat
open Go.RowKit

/-- What lies in a slot. -/
def aT (a : Act) (t : Nat) : Value := a.tmps.getD t undef
def upd (l : Nat → Bool) (i : Nat) : Nat → Bool := fun k => decide (k = i) || l k
theorem upd_same (l : Nat → Bool) (i : Nat) : upd l i i = true := by simp [upd]
theorem upd_ne {l : Nat → Bool} {i k : Nat} (h : k ≠ i) : upd l i k = l k := by simp [upd, h]
theorem upd_mono {l : Nat → Bool} {i k : Nat} (h : l k = true) : upd l i k = true := by simp [upd, h]
theorem of_upd {l : Nat → Bool} {i k : Nat} (h : upd l i k = false) : l k = false := by
  simp [upd] at h
  exact h.2

/-- All slots but those of D are as they were. -/
structure Fr (D : List Nat) (a0 a : Act) : Prop where
  size : a.tmps.size = a0.tmps.size
  defers : a.defers = a0.defers
  same : ∀ t, t ∉ D → aT a t = aT a0 t
theorem Fr.refl (D : List Nat) (a : Act) : Fr D a a := ⟨rfl, rfl, fun _ _ => rfl⟩
theorem aT_put_ne {a : Act} {d t : Nat} {v : Value} (h : d ≠ t) : aT (a.put (some d) v) t = aT a t := by
  simp [aT, Act.put, Array.getElem?_setIfInBounds_ne h]
theorem aT_put_eq {a : Act} {d : Nat} {v : Value} (h : d < a.tmps.size) : aT (a.put (some d) v) d = v := by
  simp [aT, Act.put, h]
theorem Fr.put {D : List Nat} {a0 a : Act} {d : Nat} (h : Fr D a0 a) (hd : d ∈ D) (v : Value) : Fr D a0 (a.put (some d) v) :=
  ⟨by simp [Act.put, h.size], h.defers, fun t ht => (aT_put_ne (fun e => ht (by rw [← e]; exact hd))).trans (h.same t ht)⟩

def puts (f : Nat → Value) : List Nat → Act → Act
  | [], a => a
  | d :: D, a => puts f D (a.put (some d) (f d))
theorem puts_size (f : Nat → Value) : ∀ (D : List Nat) (a : Act), (puts f D a).tmps.size = a.tmps.size
  | [], _ => rfl
  | d :: D, a => by rw [puts, puts_size f D]; simp [Act.put]
theorem puts_defers (f : Nat → Value) : ∀ (D : List Nat) (a : Act), (puts f D a).defers = a.defers
  | [], _ => rfl
  | d :: D, a => by rw [puts, puts_defers f D]; rfl
theorem puts_at (f : Nat → Value) : ∀ (D : List Nat) (a : Act) (t : Nat), t < a.tmps.size → aT (puts f D a) t = if t ∈ D then f t else aT a t
  | [], _, _, _ => by simp [puts]
  | d :: D, a, t, ht => by
    rw [puts, puts_at f D _ t (by simpa [Act.put] using ht)]
    by_cases h : t ∈ D
    · simp [h]
    · by_cases h2 : t = d
      · subst h2
        simp [h, aT_put_eq ht]
      · simp [h, h2, aT_put_ne (Ne.symm h2)]
theorem act_ext {a b : Act} (hs : a.tmps.size = b.tmps.size) (hd : a.defers = b.defers) (h : ∀ t, t < a.tmps.size → aT a t = aT b t) : a = b := by
  obtain ⟨x, dx⟩ := a
  obtain ⟨y, dy⟩ := b
  simp only at hd hs
  subst hd
  congr 1
  refine Array.ext hs (fun i h1 h2 => ?_)
  have := h i h1
  simpa [aT, h1, h2] using this
/-- A frame of which only the slots of D have turned, written out. -/
theorem Fr.eq {D : List Nat} {a0 a : Act} (h : Fr D a0 a) : a = puts (aT a) D a0 := by
  refine act_ext (h.size.trans (puts_size _ _ _).symm) (h.defers.trans (puts_defers _ _ _).symm) (fun t ht => ?_)
  rw [puts_at _ _ _ _ (h.size ▸ ht)]
  by_cases hd : t ∈ D
  · simp [hd]
  · simp [hd, h.same t hd]

/-- What is known of a region while its operations come up: of each, once it has come up, one fact on its slot and the world, till another one drops it. -/
structure RSpec where
  m : Nat
  n : Nat
  slots : List Nat
  fact : Nat → Value → World → Prop
  kills : List (List Nat)
  pres : List (List Nat)
def RSpec.slot (S : RSpec) (k : Nat) : Nat := S.slots.getD k 0
def RSpec.kill (S : RSpec) (k : Nat) : List Nat := S.kills.getD k []
def RSpec.pre (S : RSpec) (k : Nat) : List Nat := S.pres.getD k []
structure RI (S : RSpec) (D : List Nat) (B : Nat) (w0 : World) (a0 : Act) (l : Nat → Bool) (a : Act) (w : World) : Prop where
  fr : Fr D a0 a
  bel : Below B w0 w
  vt : ∀ k, S.m ≤ k → l k = true
  cl : ∀ k, k < S.n → l k = true → ∀ j ∈ S.pre k, l j = true
  fact : ∀ k, k < S.n → l k = true → (∀ j ∈ S.kill k, l j = false) → S.fact k (aT a (S.slot k)) w
def StB (p : Value → World → Prop) : Prop := ∀ v w w', p v w → Below w.heap.size w w' → p v w'
theorem StB.val (q : Value → Prop) : StB (fun v _ => q v) := fun _ _ _ h _ => h
/-- The slot d of the operation i is nobody else's, but of those that wait for i. -/
def RSpec.free (S : RSpec) (i d : Nat) : Bool := (List.range S.n).all fun k => k == i || S.slot k != d || (S.pre k).contains i
theorem RSpec.free_of {S : RSpec} {i d : Nat} (h : S.free i d = true) {k : Nat} (hk : k < S.n) (hne : k ≠ i) (hs : S.slot k = d) : i ∈ S.pre k := by
  have := List.all_eq_true.1 h k (List.mem_range.2 hk)
  simpa [hne, hs] using this
theorem RI.put {S : RSpec} {D : List Nat} {B : Nat} {w0 : World} {a0 : Act} {l : Nat → Bool} {a : Act} {w : World} (h : RI S D B w0 a0 l a w) (i d : Nat) {v : Value} {w' : World} (hpre : S.pre i = [])
    (hd : D.contains d = true) (hs : d < a0.tmps.size) (hsl : S.slot i = d) (hli : l i = false) (hne : S.free i d = true) (hB : B ≤ w0.heap.size)
    (hst : ∀ k, k < S.n → StB (S.fact k)) (hb : Below w.heap.size w w') (hf : S.fact i v w') : RI S D B w0 a0 (upd l i) (a.put (some d) v) w' := by
  refine ⟨h.fr.put (List.contains_iff_mem.1 hd) v, h.bel.trans (hb.mono (Nat.le_trans hB h.bel.size)), fun k hk => upd_mono (h.vt k hk), fun k hk hl j hj => ?_, fun k hk hl hkill => ?_⟩
  · by_cases e : k = i
    · subst e
      rw [hpre] at hj
      cases hj
    · rw [upd_ne e] at hl
      exact upd_mono (h.cl k hk hl j hj)
  · by_cases e : k = i
    · subst e
      rw [hsl, aT_put_eq (by rw [h.fr.size]; exact hs)]
      exact hf
    · rw [upd_ne e] at hl
      have hsk : S.slot k ≠ d := fun e2 => by
        have := h.cl k hk hl i (S.free_of hne hk e e2)
        rw [hli] at this
        cases this
      rw [aT_put_ne (Ne.symm hsk)]
      exact hst k hk _ _ _ (h.fact k hk hl (fun j hj => of_upd (hkill j hj))) hb
/-- A store: nothing is put; what is not dropped by it is shown to stay. -/
theorem RI.store {S : RSpec} {D : List Nat} {B : Nat} {w0 : World} {a0 : Act} {l : Nat → Bool} {a : Act} {w : World} (h : RI S D B w0 a0 l a w) (i : Nat) {w' : World} (hpre : ∀ j ∈ S.pre i, l j = true)
    (hb : Below B w0 w') (hst : ∀ k, k < S.n → k ≠ i → i ∉ S.kill k → ∀ v, S.fact k v w → S.fact k v w') (hf : S.fact i (aT a (S.slot i)) w') : RI S D B w0 a0 (upd l i) (a.put none undef) w' := by
  refine ⟨h.fr, hb, fun k hk => upd_mono (h.vt k hk), fun k hk hl j hj => ?_, fun k hk hl hkill => ?_⟩
  · by_cases e : k = i
    · subst e
      exact upd_mono (hpre j hj)
    · rw [upd_ne e] at hl
      exact upd_mono (h.cl k hk hl j hj)
  · by_cases e : k = i
    · subst e
      exact hf
    · rw [upd_ne e] at hl
      refine hst k hk e (fun hm => ?_) _ (h.fact k hk hl (fun j hj => of_upd (hkill j hj)))
      have := hkill i hm
      rw [upd_same] at this
      cases this
/-- A fact that is there from the start. -/
theorem RI.vot {S : RSpec} {D : List Nat} {B : Nat} {w0 : World} {a0 : Act} {l : Nat → Bool} {a : Act} {w : World} (h : RI S D B w0 a0 l a w) (k : Nat) (hk : k < S.n) (hm : S.m ≤ k) (hkill : S.kill k = []) : S.fact k (aT a (S.slot k)) w := h.fact k hk (h.vt k hm) (by simp [hkill])
theorem RI.vot1 {S : RSpec} {D : List Nat} {B : Nat} {w0 : World} {a0 : Act} {l : Nat → Bool} {a : Act} {w : World} (h : RI S D B w0 a0 l a w) (k i : Nat) (hk : k < S.n) (hm : S.m ≤ k) (hli : l i = false) (hkill : S.kill k = [i]) : S.fact k (aT a (S.slot k)) w := h.fact k hk (h.vt k hm) (by simp [hkill, hli])
/-- The fact of one that has come up, and that nobody drops. -/
theorem RI.got {S : RSpec} {D : List Nat} {B : Nat} {w0 : World} {a0 : Act} {l : Nat → Bool} {a : Act} {w : World} (h : RI S D B w0 a0 l a w) (k : Nat) (hk : k < S.n) (hl : l k = true) (hkill : S.kill k = []) : S.fact k (aT a (S.slot k)) w := h.fact k hk hl (by simp [hkill])
/-- .. and that i alone drops, which has not come up. -/
theorem RI.got1 {S : RSpec} {D : List Nat} {B : Nat} {w0 : World} {a0 : Act} {l : Nat → Bool} {a : Act} {w : World} (h : RI S D B w0 a0 l a w) (k i : Nat) (hk : k < S.n) (hl : l k = true) (hli : l i = false) (hkill : S.kill k = [i]) : S.fact k (aT a (S.slot k)) w := h.fact k hk hl (by simp [hkill, hli])
theorem edge {l : Nat → Bool} {o : Oper} (he : ∀ e ∈ o.after, Region.binds .any e = true → l e.on = true) (j : Nat) (h : (o.after.toList.any fun e => Region.binds .any e && (e.on == j)) = true) : l j = true := by
  obtain ⟨e, hm, h2⟩ := List.any_eq_true.1 h
  simp only [Bool.and_eq_true, beq_iff_eq] at h2
  rw [← h2.2]
  exact he e (Array.mem_toList_iff.1 hm) h2.1
/-- A row of our own is not in a box of another type. -/
theorem ownsRow_box {B e k n g t : Nat} {w w' : World} {v : Value} {xs : List Value} {cs : Array Value} {fr : Nat × Nat} (h : w.ownsRow B e k v n xs) (hg : w.heap[g]? = some (.cells cs t fr)) (hne : t ≠ e) (ht : Touch g (g + 1) w w') : w'.ownsRow B e k v n xs := by
  refine ⟨h.1, ?_⟩
  rcases h.2 with h0 | ⟨g', cap, cur, hv, hb, hh, rest⟩
  · exact .inl h0
  · have : g' ≠ g := fun e2 => by
      subst e2
      rw [hg] at hh
      simp only [Option.some.injEq, Obj.cells.injEq] at hh
      exact hne hh.2.1
    exact .inr ⟨g', cap, cur, hv, hb, (ht.block g' (Array.getElem?_eq_some_iff.1 hh).1 (by omega)).trans hh, rest⟩
theorem box_box {g g' t t' : Nat} {w w' : World} {cs cs' : Array Value} {fr fr' : Nat × Nat} (h : w.heap[g']? = some (.cells cs' t' fr')) (hg : w.heap[g]? = some (.cells cs t fr)) (hne : t ≠ t') (ht : Touch g (g + 1) w w') : w'.heap[g']? = some (.cells cs' t' fr') := by
  have : g' ≠ g := fun e2 => by
    subst e2
    rw [hg] at h
    simp only [Option.some.injEq, Obj.cells.injEq] at h
    exact hne h.2.1
  exact (ht.block g' (Array.getElem?_eq_some_iff.1 h).1 (by omega)).trans h
theorem setRow_touch (w : World) (g : Nat) (cs : Array Value) : Touch g (g + 1) w (w.setRow g cs) :=
  ⟨rfl, rfl, rfl, by simp [World.setRow], fun k hk ho => by
    simp only [World.setRow]
    rw [Array.getElem?_modify, if_neg (by omega)]⟩
theorem below_kept {w w' : World} {g : Nat} {o : Obj} (h : w.heap[g]? = some o) (hb : Below w.heap.size w w') : w'.heap[g]? = some o := (hb.block g (Array.getElem?_eq_some_iff.1 h).1).trans h

section
variable {P : Program} {Q : Exit → Act → World → Prop}
def StepsRI (P : Program) (Q : Exit → Act → World → Prop) (S : RSpec) (D : List Nat) (B : Nat) (w0 : World) (a0 : Act) (i : Nat) (os : List Oper) : Prop :=
  ∀ k o, os[k]? = some o → ∀ (l : Nat → Bool) (a : Act) (w : World), RI S D B w0 a0 l a w → l (i + k) = false → (∀ e ∈ o.after, Region.binds .any e = true → l e.on = true) → ∀ K' : Act → World → Prop, Hid (∀ a w, RI S D B w0 a0 (upd l (i + k)) a w → K' a w) → o.wp P a w K' Q
theorem StepsRI.nil {S : RSpec} {D : List Nat} {B : Nat} {w0 : World} {a0 : Act} {i : Nat} : StepsRI P Q S D B w0 a0 i [] := fun k o h => by simp at h
theorem StepsRI.cons {S : RSpec} {D : List Nat} {B : Nat} {w0 : World} {a0 : Act} {i : Nat} {o : Oper} {os : List Oper}
    (h : ∀ (l : Nat → Bool) (a : Act) (w : World), RI S D B w0 a0 l a w → l i = false → (∀ e ∈ o.after, Region.binds .any e = true → l e.on = true) → ∀ K' : Act → World → Prop, Hid (∀ a w, RI S D B w0 a0 (upd l i) a w → K' a w) → o.wp P a w K' Q)
    (hs : StepsRI P Q S D B w0 a0 (i + 1) os) : StepsRI P Q S D B w0 a0 i (o :: os) := fun k o' hk => by
  cases k with
  | zero =>
    simp only [List.getElem?_cons_zero, Option.some.injEq] at hk
    subst hk
    exact h
  | succ k =>
    simp only [List.getElem?_cons_succ] at hk
    have := hs k o' hk
    rwa [Nat.add_right_comm] at this
/-- Every edge leads back. -/
def edgesBack (ops : Array Oper) : Bool := (List.range ops.size).all fun i => ((ops[i]?).map fun o => o.guard.isNone && o.after.all fun e => !Region.binds .any e || decide (e.on < i)).getD true
theorem edgesBack_of {ops : Array Oper} (h : edgesBack ops = true) {i : Nat} {o : Oper} (ho : ops[i]? = some o) : o.guard = none ∧ ∀ e ∈ o.after, Region.binds .any e = true → e.on < i := by
  have hi : i < ops.size := (Array.getElem?_eq_some_iff.1 ho).1
  have h1 := List.all_eq_true.1 h i (List.mem_range.2 hi)
  rw [ho] at h1
  simp only [Option.map_some, Option.getD_some, Bool.and_eq_true, Option.isNone_iff_eq_none] at h1
  refine ⟨h1.1, fun e he hb => ?_⟩
  obtain ⟨j, hj, rfl⟩ := Array.mem_iff_getElem.1 he
  have := (Array.all_eq_true.1 h1.2) j hj
  simpa [hb] using this
theorem all_listed {ops : Array Oper} {listed : Array Bool} (he : edgesBack ops = true) (hz : listed.size = ops.size) (h : Region.ready .any ops listed = []) : ∀ i, i < ops.size → listed.getD i false = true := by
  intro i
  induction i using Nat.strongRecOn with
  | ind i ih =>
    intro hi
    cases hl : listed.getD i false with
    | true => rfl
    | false =>
      exfalso
      have ho : ops[i]? = some ops[i] := by simp [hi]
      have hm : i ∈ Region.ready .any ops listed := mem_ready.2 ⟨by
        have : i < listed.size := hz ▸ hi
        simp [this] at hl ⊢
        exact hl, _, ho, fun e hee hb => ih _ ((edgesBack_of he ho).2 e hee hb) (Nat.lt_trans ((edgesBack_of he ho).2 e hee hb) hi)⟩
      rw [h] at hm
      cases hm
theorem wpAny_ri {ops : Array Oper} {S : RSpec} {D : List Nat} {B : Nat} {w0 : World} {a0 : Act} (he : edgesBack ops = true) (hs : StepsRI P Q S D B w0 a0 0 ops.toList)
    (hend : ∀ l a w, RI S D B w0 a0 l a w → (∀ k, l k = true) → Q .normal a w) :
    ∀ (fuel : Nat) (listed : Array Bool) (a : Act) (w : World), listed.size = ops.size → listed.toList.count false ≤ fuel → RI S D B w0 a0 (fun k => listed.getD k true) a w → wpAny P .any ops Q fuel listed a w := by
  have full : ∀ listed : Array Bool, listed.size = ops.size → (∀ k, k < ops.size → listed.getD k false = true) → ∀ k, listed.getD k true = true := fun listed hz h k => by
    by_cases hk : k < listed.size
    · have := h k (hz ▸ hk)
      simp [hk] at this ⊢
      exact this
    · simp [Array.getElem?_eq_none (Nat.le_of_not_lt hk)]
  intro fuel
  induction fuel with
  | zero =>
    intro listed a w hz hc hI
    have hall : ∀ k, k < ops.size → listed.getD k false = true := fun k hk => by
      have hk' : k < listed.size := hz ▸ hk
      have h0 : listed.toList.count false = 0 := Nat.le_zero.1 hc
      have := List.count_eq_zero.1 h0
      cases hv : listed[k] with
      | true => simp [hk', hv]
      | false => exact absurd (by rw [← hv]; exact Array.mem_toList_iff.2 (Array.getElem_mem hk')) this
    have hr : Region.ready .any ops listed = [] := by
      refine List.eq_nil_iff_forall_not_mem.2 (fun i hi => ?_)
      obtain ⟨h1, o, ho, _⟩ := mem_ready.1 hi
      have hi' : i < ops.size := (Array.getElem?_eq_some_iff.1 ho).1
      have h2 := hall i hi'
      have hi2 : i < listed.size := hz ▸ hi'
      simp [hi2] at h1 h2
      rw [h1] at h2
      cases h2
    exact ⟨hr, hend _ _ _ hI (full _ hz hall)⟩
  | succ fuel ih =>
    intro listed a w hz hc hI
    refine ⟨fun hr => hend _ _ _ hI (full _ hz (all_listed he hz hr)), fun i hi => ?_⟩
    obtain ⟨h1, o, ho, hed⟩ := mem_ready.1 hi
    have hi' : i < ops.size := (Array.getElem?_eq_some_iff.1 ho).1
    have hi2 : i < listed.size := hz ▸ hi'
    have hf : listed[i] = false := by simpa [hi2] using h1
    refine wpOp_step ho (fun K' hK => ?_)
    have hgd := (edgesBack_of he ho).1
    have hw : Region.wanted o (yielded ops a.tmps) = true := by simp [Region.wanted, hgd]
    rw [if_pos hw]
    refine hs i o (by simpa using ho) _ a w hI (by simp [hi2, hf]) (fun e hee hb => ?_) K' (fun a' w' hI' => hK a' w' (ih _ a' w' (by simpa using hz) ?_ ?_))
    · have h3 := hed e hee hb
      by_cases hk : e.on < listed.size
      · simp [hk] at h3 ⊢
        exact h3
      · simp [Array.getElem?_eq_none (Nat.le_of_not_lt hk)]
    · have hcs : (listed.setIfInBounds i true).toList.count false + 1 = listed.toList.count false := by
        have hm : 0 < listed.toList.count false := List.count_pos_iff.2 (by rw [← hf]; exact Array.mem_toList_iff.2 (Array.getElem_mem hi2))
        have e1 : (listed.toList[i] == false) = true := by simp [hf]
        have e2 : ¬ ((true == false) = true) := by decide
        rw [Array.toList_setIfInBounds, List.count_set (by simpa using hi2), if_pos e1, if_neg e2]
        omega
      omega
    · have : (fun k => (listed.setIfInBounds i true).getD k true) = upd (fun k => listed.getD k true) (0 + i) := by
        funext k
        by_cases e : k = i
        · subst e
          simp [upd, hi2]
        · simp [upd, e, Array.getElem?_setIfInBounds_ne (Ne.symm e)]
      rw [this]
      exact hI'
theorem ri_start {S : RSpec} {D : List Nat} {B : Nat} {a : Act} {w w' : World} {l : Nat → Bool} (hb : Below B w w') (hl0 : ∀ k, l k = true → S.m ≤ k) (hl1 : ∀ k, S.m ≤ k → l k = true) (hp : (S.pres.drop S.m).all List.isEmpty = true)
    (h0 : ∀ k, S.m ≤ k → k < S.n → S.fact k (aT a (S.slot k)) w') : RI S D B w a l a w' := by
  refine ⟨Fr.refl _ _, hb, hl1, fun k hk hl j hj => ?_, fun k hk hl _ => h0 k (hl0 k hl) hk⟩
  have hm := hl0 k hl
  have : S.pre k = [] := by
    unfold RSpec.pre
    rw [List.getD_eq_getElem?_getD]
    cases hg : S.pres[k]? with
    | none => rfl
    | some x =>
      have hx : x ∈ S.pres.drop S.m := List.mem_iff_getElem?.2 ⟨k - S.m, by rw [List.getElem?_drop, Nat.add_sub_cancel' hm, hg]⟩
      have := List.all_eq_true.1 hp x hx
      simpa using this
  rw [this] at hj
  cases hj
/-- **A region whose operations may come up in whatever order: each is stepped once, over what is known of those ahead of it.** -/
theorem wp_region_ri {id : Nat} {ops : Array Oper} {a : Act} {w : World} (S : RSpec) (D : List Nat) (B : Nat) (G : Act → Prop) (hm : P.follows .mixedOrders = true) (hn : S.m = ops.size) (he : edgesBack ops = true) (hp : (S.pres.drop S.m).all List.isEmpty = true) (hG : G a)
    (hst : ∀ k, k < S.n → StB (S.fact k)) (h0 : ∀ k, S.m ≤ k → k < S.n → S.fact k (aT a (S.slot k)) w)
    (hs : ∀ a0, G a0 → StepsRI P Q S D B w a0 0 ops.toList)
    (hend : ∀ a' w', Fr D a a' → Below B w w' → (∀ k, k < S.n → S.kill k = [] → S.fact k (aT a' (S.slot k)) w') → Q .normal a' w') : (Code.region id ops true).wp P Q a w := by
  refine wp_region_any hm (wpAny_ri he (hs a hG) (fun l a' w' hI hl => hend a' w' hI.fr hI.bel (fun k hk h0 => hI.fact k hk (hl k) (by simp [h0]))) ops.size _ a _ (by simp) (by simp) ?_)
  refine ri_start (Below.refl _ _).drew (fun k hl => ?_) (fun k hk => ?_) hp (fun k h1 h2 => hst k h2 _ _ _ (h0 k h1 h2) (Below.refl _ _).drew)
  · rw [hn]
    by_cases hk : k < ops.size
    · simp [hk] at hl
    · omega
  · rw [hn] at hk
    simp [Array.getElem?_eq_none (show (Array.replicate ops.size false).size ≤ k by simpa using hk)]
theorem wpList_rp {ops : Array Oper} {S : RSpec} {D : List Nat} {B : Nat} {w0 : World} {a0 : Act} (he : edgesBack ops = true) (hs : StepsRI P Q S D B w0 a0 0 ops.toList)
    (hend : ∀ l a w, RI S D B w0 a0 l a w → (∀ k, l k = true) → Q .normal a w) :
    ∀ (rest : List Oper) (k : Nat) (a : Act) (w : World), ops.toList.drop k = rest → k ≤ ops.size → RI S D B w0 a0 (fun j => decide (j < k ∨ ops.size ≤ j)) a w → wpList P ops Q rest a w := by
  intro rest
  induction rest with
  | nil =>
    intro k a w hd hk hI
    have hl : ops.size ≤ k := by
      have := congrArg List.length hd
      simp at this
      omega
    exact wpList_nil (hend _ _ _ hI (fun j => by simp; omega))
  | cons o rest ih =>
    intro k a w hd hk hI
    have ho : ops.toList[k]? = some o := by
      have := congrArg (fun l => l[0]?) hd
      simpa using this
    have ho' : ops[k]? = some o := by simpa using ho
    have hlt : k < ops.size := (Array.getElem?_eq_some_iff.1 ho').1
    refine wpList_plain (edgesBack_of he ho').1 (fun K hK => ?_)
    refine hs k o ho _ a w hI (by simp; omega) (fun e hee hb => by have := (edgesBack_of he ho').2 e hee hb; simp; omega) K (fun a' w' hI' => hK a' w' (ih (k + 1) a' w' ?_ hlt ?_))
    · have := congrArg (List.drop 1) hd
      simpa [List.drop_drop, Nat.add_comm] using this
    · have : (fun j => decide (j < k + 1 ∨ ops.size ≤ j)) = upd (fun j => decide (j < k ∨ ops.size ≤ j)) (0 + k) := by
        funext j
        simp only [upd, Nat.zero_add]
        by_cases e : j = k
        · subst e
          simp
        · have : (j < k + 1 ∨ ops.size ≤ j) ↔ (j < k ∨ ops.size ≤ j) := by omega
          simp only [e, this, decide_false, Bool.false_or]
      rw [this]
      exact hI'
/-- The same for a region that does not draw. -/
theorem wp_region_rp {id : Nat} {os : List Oper} {a : Act} {w : World} (S : RSpec) (D : List Nat) (B : Nat) (G : Act → Prop) (hn : S.m = os.length) (he : edgesBack os.toArray = true) (hp : (S.pres.drop S.m).all List.isEmpty = true) (hG : G a)
    (_ : ∀ k, k < S.n → StB (S.fact k)) (h0 : ∀ k, S.m ≤ k → k < S.n → S.fact k (aT a (S.slot k)) w)
    (hs : ∀ a0, G a0 → StepsRI P Q S D B w a0 0 os)
    (hend : ∀ a' w', Fr D a a' → Below B w w' → (∀ k, k < S.n → S.kill k = [] → S.fact k (aT a' (S.slot k)) w') → Q .normal a' w') : (Code.region id os.toArray false).wp P Q a w := by
  refine wp_region_lit (wpList_rp he (hs a hG) (fun l a' w' hI hl => hend a' w' hI.fr hI.bel (fun k hk h0 => hI.fact k hk (hl k) (by simp [h0]))) os 0 a w (by simp) (by simp) ?_)
  refine ri_start (Below.refl _ _) (fun k hl => ?_) (fun k hk => ?_) hp h0
  · rw [hn]
    simpa using hl
  · rw [hn] at hk
    simpa using hk
/-- An operation that yields a value. -/
theorem opw_value {o : Oper} {a : Act} {w w' : World} {K : Act → World → Prop} (v : Value) (hr : (execOp a.eval o).run P w = .ok (.value v) w') (h : K (a.put o.dst v) w') : o.wp P a w K Q := by
  unfold Oper.wp
  rw [hr]
  exact h
theorem opw_move {o : Oper} {a : Act} {w : World} {K : Act → World → Prop} (x : Nat) (ho : o.op = .move (.tmp x)) (h : K (a.put o.dst (aT a x)) w) : o.wp P a w K Q :=
  opw_value (aT a x) (by unfold execOp; rw [ho]; rfl) h
theorem opw_assign {o : Oper} {a : Act} {w : World} {K : Act → World → Prop} (x : Nat) (ho : o.op = .assign (.tmp x)) (h : K (a.put o.dst (aT a x)) w) : o.wp P a w K Q :=
  opw_value (aT a x) (by unfold execOp; rw [ho]; rfl) h
theorem opw_extract {o : Oper} {a : Act} {w : World} {K : Act → World → Prop} (x i : Nat) (ho : o.op = .extract (.tmp x) i) (vs : Array Value) (v : Value) (hx : aT a x = .tuple vs) (hv : vs[i]? = some v) (h : K (a.put o.dst v) w) : o.wp P a w K Q := by
  refine opw_value v ?_ h
  have hx' : a.eval (.tmp x) = .tuple vs := hx
  unfold execOp
  simp [ho, hx', Instr.extract, hv]
theorem opw_call {o : Oper} {a : Act} {w : World} {K : Act → World → Prop} (f : FuncId) (ar : Array Operand) (ats : Array TypeId) (fn : Func) (c : Code) (ho : o.op = .call { callee := .value (.func f), args := ar, argTypes := ats })
    (hf : P.funcs[f]? = some fn) (hname : (fn.name == "runtime.NumGoroutine") = false) (hb : fn.body = some c) (args : Array Value) (hargs : ar.map a.eval = args)
    (h : Calls P f args w fun e w' => ∃ v, e = .returned v ∧ K (a.put o.dst v) w') : o.wp P a w K Q := by
  have hn2 : ¬ fn.name = "runtime.NumGoroutine" := by simpa using hname
  have hr : (execOp a.eval o).run P w = .ok (.enter f args) w := by
    unfold execOp
    rw [ho]
    simp [resolve, hargs, Act.eval, Deferred.ofValue, invoke, callFunc, hf, hn2, hb]
  unfold Oper.wp
  rw [hr, Oper.upon_enter]
  refine h.mono fun e w' hh => ?_
  obtain ⟨v, rfl, hk⟩ := hh
  exact hk
/-- A structure put together. -/
theorem opw_build {o : Oper} {a : Act} {w : World} {K : Act → World → Prop} (t : TypeId) (parts : Array (Nat × Operand)) (ho : o.op = .build t parts) (vs : Array (Nat × Value)) (hvs : (parts.map fun p => (p.1, a.eval p.2)) = vs) (v : Value)
    (hr : (Instr.build t vs).run P w = .ok v w) (h : K (a.put o.dst v) w) : o.wp P a w K Q := by
  refine opw_value v ?_ h
  have hvs' : (parts.map fun x : Nat × Operand => match x with | (i, x) => (i, a.eval x)) = vs := hvs
  unfold execOp
  simp only [ho]
  rw [hvs']
  simp [hr]
/-- A constant. -/
theorem opw_const {o : Oper} {a : Act} {w : World} {K : Act → World → Prop} (v : Value) (ho : o.op = .assign (.const v)) (h : K (a.put o.dst v) w) : o.wp P a w K Q :=
  opw_value v (by unfold execOp; rw [ho]; rfl) h
theorem opw_field {o : Oper} {a : Act} {w : World} {K : Act → World → Prop} (s : TypeId) (x f : Nat) (ho : o.op = .fieldAddr s (.tmp x) f) (p : Value) (hx : aT a x = p) (v : Value) (hr : (Instr.fieldAt s p f).run P w = .ok v w) (h : K (a.put o.dst v) w) : o.wp P a w K Q := by
  refine opw_value v ?_ h
  have hx' : a.eval (.tmp x) = p := hx
  unfold execOp
  simp [ho, hx', hr]
/-- One cell loaded. -/
theorem opw_load1 {o : Oper} {a : Act} {w : World} {K : Act → World → Prop} (t : TypeId) (x : Nat) (ho : o.op = .load t (.tmp x)) (p : Value) (hx : aT a x = p) (v : Value) (hr : (Instr.loadAt t p).run P w = .ok v w) (h : K (a.put o.dst v) w) : o.wp P a w K Q := by
  refine opw_value v ?_ h
  have hx' : a.eval (.tmp x) = p := hx
  unfold execOp
  simp [ho, hx', hr]
theorem evc (a : Act) (v : Value) : a.eval (.const v) = v := rfl
theorem ev (a : Act) (t : Nat) : a.eval (.tmp t) = aT a t := rfl
end

end Go.Proofs.YtmoekmonkpihhaaGreat

namespace Go.Proofs.YtmoekmonkpihhaaGreat
open Go.RowKit

/-- What signAs answers. -/
structure AsV where
  k : Int
  sg : List Int
  t : Sc4
  cd : Int
def asV (sc x h n : Int) (ms : List Int) : AsV :=
  if (saV sc x h n ms).2.2 = 0 then ⟨kidN (pubR sc x h n).1.1 (pubR sc x h n).1.2.1 (pubR sc x h n).1.2.2, (saV sc x h n ms).1, (saV sc x h n ms).2.1, 0⟩ else ⟨0, [], (0, 0, 0, 0), 10 + (saV sc x h n ms).2.2⟩
theorem saV_cd (sc x h n : Int) (ms : List Int) : 0 ≤ (saV sc x h n ms).2.2 ∧ (saV sc x h n ms).2.2 ≤ 2 := by
  have k0 : (0 : Int) ≤ 0 ∧ (0 : Int) ≤ 2 := by omega
  have k1 : (0 : Int) ≤ 1 ∧ (1 : Int) ≤ 2 := by omega
  have k2 : (0 : Int) ≤ 2 ∧ (2 : Int) ≤ 2 := by omega
  unfold saV
  split
  · split
    · exact k0
    · unfold saT
      split
      · exact k2
      · exact k0
  · exact k1
theorem rootN_bdW (seed h : Int) : U64 (rootN seed h) := lev_bd _ (leavesN_bd _ _) _ _
theorem pubR_bdW (sc x h n : Int) : U64 (pubR sc x h n).1.2.1 ∧ (pubR sc x h n).1.1 ≤ 9223372036854775807 ∧ (pubR sc x h n).1.2.2 ≤ 9223372036854775807 := by
  have k0 : (0 : Int) ≤ 9223372036854775807 := by omega
  have k1 : (1 : Int) ≤ 9223372036854775807 := by omega
  have k2 : (2 : Int) ≤ 9223372036854775807 := by omega
  unfold pubR
  split
  · rename_i hs
    by_cases e : sc = 1
    · rw [if_pos e]
      have := keyOf_bd x
      exact ⟨⟨this.1, by show keyOf x ≤ _; omega⟩, k1, k0⟩
    · rw [if_neg e]
      refine ⟨rootN_bdW x h, k2, ?_⟩
      rcases hs with h1 | h1
      · exact absurd h1.1 e
      · have := h1.2.1.2
        show h ≤ _
        omega
  · exact ⟨⟨show (0 : Int) ≤ 0 by omega, show (0 : Int) ≤ 18446744073709551615 by omega⟩, k0, k0⟩
theorem results_as {fn : Func} {u v t z : Tmp} (h : fn.results = #[.tmp u, .tmp v, .cell t 37, .tmp z]) (tmps : Array Value) (g : Nat) (ht : tmps.getD t undef = .pointer (some ⟨g, 0, none⟩)) (x y q : Value) (hu : tmps.getD u undef = x) (hv : tmps.getD v undef = y) (hz : tmps.getD z undef = q) (w : World) (cs : Array Value)
    (hb : w.heap[g]? = some (.cells cs 37 (0, 0))) (hs : cs.size = 4) : (results fn tmps).run Tryz.prog w = .ok (.tuple #[x, y, .agg cs, q]) w := by
  have hi : (Tryz.prog.info? 37).map (·.size) = some cs.size := by rw [hs]; kernel_rfl
  have ht' : tmps[t]?.getD undef = .pointer (some ⟨g, 0, none⟩) := by rw [← ht]; simp
  have hu' : tmps[u]?.getD undef = x := by rw [← hu]; simp
  have hv' : tmps[v]?.getD undef = y := by rw [← hv]; simp
  have hz' : tmps[z]?.getD undef = q := by rw [← hz]; simp
  simp [results, h, ht', hu', hv', hz', asAddr, run_loadVar_row w g 37 37 cs (0, 0) _ hb Tryz.underlying37 rfl hi]

/-- What is known of a region (RJ). -/
def asSp (t : Sc4) (p : Int × Int × Int) (kd : Int) (sg : List Int) (ag : Option Addr) (cg gs gp gr : Nat) (B : Nat) : RSpec where
  m := 8
  n := 12
  slots := [30, 31, 32, 33, 4, 5, 100006, 7, 100008, 100009, 100010, 100011]
  kills := [[], [], [], [], [], [], [], [], [], [], [6], []]
  pres := [[], [], [], [], [], [], [], [], [], [], [], []]
  fact := fun k v w => match k with
    | 0 => v = .agg #[.int .i64 p.1, .int .u64 p.2.1, .int .i64 p.2.2]
    | 1 => v = .int .u64 kd
    | 2 => v = .slice ag sg.length cg
    | 3 => v = .agg #[.int .i64 t.1, .int .u64 t.2.1, .int .i64 t.2.2.1, .int .i64 t.2.2.2]
    | 4 => v = .int .u64 kd
    | 5 => v = .slice ag sg.length cg
    | 6 => w.heap[gr]? = some (.cells #[.int .i64 t.1, .int .u64 t.2.1, .int .i64 t.2.2.1, .int .i64 t.2.2.2] 37 (0, 0))
    | 7 => v = .int .i64 0
    | 8 => w.heap[gp]? = some (.cells #[.int .i64 p.1, .int .u64 p.2.1, .int .i64 p.2.2] 44 (0, 0))
    | 9 => w.heap[gs]? = some (.cells #[.int .i64 t.1, .int .u64 t.2.1, .int .i64 t.2.2.1, .int .i64 t.2.2.2] 37 (0, 0)) ∧ gs ≠ gr
    | 10 => w.heap[gr]? = some (.cells #[.int .i64 0, .int .u64 0, .int .i64 0, .int .i64 0] 37 (0, 0))
    | _ => Own B w ag sg.length cg sg
set_option linter.unusedVariables false in
theorem asSp_stb (t : Sc4) (p : Int × Int × Int) (kd : Int) (sg : List Int) (ag : Option Addr) (cg gs gp gr : Nat) (B : Nat) (k : Nat) (hk : k < 12) : StB ((asSp t p kd sg ag cg gs gp gr (B)).fact k) := by
  match k, hk with
  | 0, _ => exact fun _ _ _ h _ => h
  | 1, _ => exact fun _ _ _ h _ => h
  | 2, _ => exact fun _ _ _ h _ => h
  | 3, _ => exact fun _ _ _ h _ => h
  | 4, _ => exact fun _ _ _ h _ => h
  | 5, _ => exact fun _ _ _ h _ => h
  | 6, _ => exact fun _ _ _ q_0 hb => below_kept q_0 hb
  | 7, _ => exact fun _ _ _ h _ => h
  | 8, _ => exact fun _ _ _ q_0 hb => below_kept q_0 hb
  | 9, _ => exact fun _ _ _ ⟨q_0, q_1⟩ hb => ⟨below_kept q_0 hb, q_1⟩
  | 10, _ => exact fun _ _ _ q_0 hb => below_kept q_0 hb
  | 11, _ => exact fun _ _ _ q_0 hb => q_0.kept hb
  | k + 12, hk => omega
set_option linter.unusedVariables false in
theorem asSp_st6 (t : Sc4) (p : Int × Int × Int) (kd : Int) (sg : List Int) (ag : Option Addr) (cg gs gp gr : Nat) (B : Nat) {W W2 : World} {cs : Array Value} {fr : Nat × Nat} (hg : W.heap[gr]? = some (.cells cs 37 fr)) (ht : Touch (gr) (gr + 1) W W2) (k : Nat) (hk : k < 12) (hne : k ≠ 6) (hkill : 6 ∉ (asSp t p kd sg ag cg gs gp gr (B)).kill k) (v : Value) (hfact : (asSp t p kd sg ag cg gs gp gr (B)).fact k v W) : (asSp t p kd sg ag cg gs gp gr (B)).fact k v W2 := by
  match k, hk, hne, hkill, hfact with
  | 0, _, _, _, hq => exact hq
  | 1, _, _, _, hq => exact hq
  | 2, _, _, _, hq => exact hq
  | 3, _, _, _, hq => exact hq
  | 4, _, _, _, hq => exact hq
  | 5, _, _, _, hq => exact hq
  | 6, _, hne, _, _ => exact absurd rfl hne
  | 7, _, _, _, hq => exact hq
  | 8, _, _, _, q_0 => exact box_box q_0 hg (by decide) ht
  | 9, _, _, _, ⟨q_0, q_1⟩ => exact ⟨(ht.block _ (Array.getElem?_eq_some_iff.1 q_0).1 (by omega)).trans q_0, q_1⟩
  | 10, _, _, hkill, _ => exact absurd (List.Mem.head _) hkill
  | 11, _, _, _, q_0 => exact ⟨ownsRow_box q_0.row hg (by decide) ht, q_0.byte⟩
  | k + 12, hk, _, _, _ => omega

set_option maxRecDepth 10000 in
set_option maxHeartbeats 4000000 in
theorem signAs_any (sc x h n : Int) (am : Option Addr) (nn c : Nat) (ms : List Int) (w : World) (hx : U64 x) (hr : Row w am nn ms) (hn : nn ≤ 1048576) (hc : am = none → c = 0) :
    Calls Tryz.prog 32 #[.agg #[.int .i64 sc, .int .u64 x, .int .i64 h, .int .i64 n], .slice am nn c] w fun e w' => ∃ a cap, e = .returned (.tuple #[.int .u64 (asV sc x h n ms).k, .slice a (asV sc x h n ms).sg.length cap, .agg #[.int .i64 (asV sc x h n ms).t.1, .int .u64 (asV sc x h n ms).t.2.1, .int .i64 (asV sc x h n ms).t.2.2.1, .int .i64 (asV sc x h n ms).t.2.2.2], .int .i64 (asV sc x h n ms).cd]) ∧ Own w.heap.size w' a (asV sc x h n ms).sg.length cap (asV sc x h n ms).sg ∧ Below w.heap.size w w' := by
  obtain ⟨V, hV⟩ : ∃ V, V = asV sc x h n ms := ⟨_, rfl⟩
  obtain ⟨sg, hsg⟩ : ∃ sg, sg = (saV sc x h n ms).1 := ⟨_, rfl⟩
  obtain ⟨t, ht⟩ : ∃ t, t = (saV sc x h n ms).2.1 := ⟨_, rfl⟩
  obtain ⟨cd, hcd⟩ : ∃ cd, cd = (saV sc x h n ms).2.2 := ⟨_, rfl⟩
  obtain ⟨p, hp⟩ : ∃ p, p = (pubR sc x h n).1 := ⟨_, rfl⟩
  obtain ⟨pb, hpb⟩ : ∃ pb, pb = (pubR sc x h n).2 := ⟨_, rfl⟩
  obtain ⟨kd, hkd⟩ : ∃ kd, kd = kidN p.1 p.2.1 p.2.2 := ⟨_, rfl⟩
  have HV : Hid (V = if cd = 0 then ⟨kd, sg, t, 0⟩ else ⟨0, [], (0, 0, 0, 0), 10 + cd⟩) := by show _ = _; rw [hV]; unfold asV; rw [hkd, hp, hsg, ht, hcd]
  have hcb := saV_cd sc x h n ms
  have hpd := pubR_bdW sc x h n
  rw [← hcd] at hcb
  rw [← hp] at hpd
  rw [← hV]
  have HSA : Hid (∀ w, Row w am nn ms → Calls Tryz.prog 58 #[.agg #[.int .i64 sc, .int .u64 x, .int .i64 h, .int .i64 n], .slice am nn c] w fun e w' => ∃ a cap, e = .returned (.tuple #[.slice a sg.length cap, .agg #[.int .i64 t.1, .int .u64 t.2.1, .int .i64 t.2.2.1, .int .i64 t.2.2.2], .int .i64 cd]) ∧ Own w.heap.size w' a sg.length cap sg ∧ Below w.heap.size w w') := by
    intro w' h1
    have := implSignAny_any sc x h n am nn c ms w' hx h1 hn hc
    rw [← hsg, ← ht, ← hcd] at this
    exact this
  have HPU : Hid (∀ w, Calls Tryz.prog 59 #[.agg #[.int .i64 sc, .int .u64 x, .int .i64 h, .int .i64 n]] w fun e w' => e = .returned (.tuple #[.agg #[.int .i64 p.1, .int .u64 p.2.1, .int .i64 p.2.2], .bool pb]) ∧ Below w.heap.size w w') := by
    intro w'
    have := implPubOf_any sc x h n w' hx
    rw [← hp, ← hpb] at this
    exact this
  have HKI : Hid (∀ w, Calls Tryz.prog 60 #[.agg #[.int .i64 p.1, .int .u64 p.2.1, .int .i64 p.2.2]] w fun e w' => e = .returned (.int .u64 kd) ∧ Below w.heap.size w w') := by
    intro w'
    have := implKeyId_any p.1 p.2.1 p.2.2 w' hpd.1 hpd.2.1 hpd.2.2
    rw [← hkd] at this
    exact this
  clear hV hsg ht hcd hp hpb hkd hpd
  obtain ⟨w1, hw1⟩ : ∃ w1, w1 = (w.alloc (.cells #[.int .i64 sc, .int .u64 x, .int .i64 h, .int .i64 n] 37)).alloc (.cells #[.int .i64 0, .int .u64 0, .int .i64 0, .int .i64 0] 37) := ⟨_, rfl⟩
  have hbb : Below w.heap.size w w1 := by rw [hw1]; exact two_below w _ _
  have HB1 : Hid (w1.heap[w.heap.size]? = some (.cells #[.int .i64 sc, .int .u64 x, .int .i64 h, .int .i64 n] 37 (0, 0)) ∧ w1.heap[w.heap.size + 1]? = some (.cells #[.int .i64 0, .int .u64 0, .int .i64 0, .int .i64 0] 37 (0, 0))) := by show _ ∧ _; rw [hw1]; exact two_blocks w _ _
  have HR1 : Hid (Row w1 am nn ms) := hr.kept hbb
  have HW : Hid (_ = _) := hw1
  clear hw1 hr
  go_enter Tryz.func32, Tryz.ntmps32
  go_upto_region 1 with fail
  rw [← HW.out]
  clear HW
  obtain ⟨s0, s1, s2, s3⟩ := cells4 HB1.out.1
  go_wp2_with fail
  refine (HSA.out w1 HR1.out).mono ?_
  rintro e w2 ⟨ag, cg, rfl, ho, hb2⟩
  clear s0 s1 s2 s3
  obtain ⟨w3, hw3⟩ : ∃ w3, w3 = w2.alloc (.cells #[.int .i64 t.1, .int .u64 t.2.1, .int .i64 t.2.2.1, .int .i64 t.2.2.2] 37) := ⟨_, rfl⟩
  have hb3 : Below w2.heap.size w2 w3 := by rw [hw3]; exact (Below.refl _ _).alloc (Nat.le_refl _) _
  have hb13 := keepT hb2 hb3
  have HB3 : Hid (w3.heap[w.heap.size]? = some (.cells #[.int .i64 sc, .int .u64 x, .int .i64 h, .int .i64 n] 37 (0, 0)) ∧ w3.heap[w.heap.size + 1]? = some (.cells #[.int .i64 0, .int .u64 0, .int .i64 0, .int .i64 0] 37 (0, 0)) ∧ w3.heap[w2.heap.size]? = some (.cells #[.int .i64 t.1, .int .u64 t.2.1, .int .i64 t.2.2.1, .int .i64 t.2.2.2] 37 (0, 0))) := by
    refine ⟨below_kept HB1.out.1 hb13, below_kept HB1.out.2 hb13, ?_⟩
    rw [hw3]
    exact heap_alloc_new w2 _
  have HO3 : Hid (Own w1.heap.size w3 ag sg.length cg sg) := ho.kept hb3
  have hsz1 : w.heap.size + 2 ≤ w1.heap.size := by have := (Array.getElem?_eq_some_iff.1 HB1.out.2).1; omega
  have hsz2 := hb2.size
  have HBW : Hid (Below w.heap.size w w3) := keepT hbb hb13
  have HW : Hid (_ = _) := hw3
  clear hw3 ho
  go_upto_region 2 with fail
  rw [← HW.out]
  clear HW
  by_cases hc0 : cd = 0
  case neg =>
    have HV := (show Hid (V = ⟨0, [], (0, 0, 0, 0), 10 + cd⟩) by show _ = _; rw [HV.out, if_neg hc0])
    have z1 : (cd != 0) = true := by simp [hc0]
    have z2 : IntKind.i64.wrap (10 + cd) = 10 + cd := by
      have : cd = 1 ∨ cd = 2 := by omega
      rcases this with rfl | rfl <;> decide
    obtain ⟨r0, r1, r2, r3⟩ := cells4 HB3.out.2.1
    obtain ⟨f0, f1, f2, f3⟩ := frozen4 HB3.out.2.1
    clear hc0
    go_wp2
    try simp only [Exit.inBlock, Exit.then]
    have o1 := heap_set4 HB3.out.2.1 (.int .i64 0) (.int .u64 0) (.int .i64 0) (.int .i64 0)
    have o2 := below_set4 HBW.out (w.heap.size + 1) (by omega) (.int .i64 0) (.int .u64 0) (.int .i64 0) (.int .i64 0)
    unfold set4 at o1 o2
    exact bodyPost_ret (results_as rfl _ (w.heap.size + 1) rfl _ _ _ rfl rfl rfl _ _ o1 rfl) rfl ⟨none, 0, by rw [HV.out]; rfl, by rw [HV.out]; exact own_none _ _, o2⟩
  case pos =>
    have HV := (show Hid (V = ⟨kd, sg, t, 0⟩) by show _ = _; rw [HV.out, if_pos hc0])
    subst hc0
    obtain ⟨s0, s1, s2, s3⟩ := cells4 HB3.out.1
    go_wp2_with fail
    refine (HPU.out w3).mono ?_
    rintro e w4 ⟨rfl, hb4⟩
    clear s0 s1 s2 s3
    obtain ⟨w5, hw5⟩ : ∃ w5, w5 = w4.alloc (.cells #[.int .i64 p.1, .int .u64 p.2.1, .int .i64 p.2.2] 44) := ⟨_, rfl⟩
    have hb5 : Below w4.heap.size w4 w5 := by rw [hw5]; exact (Below.refl _ _).alloc (Nat.le_refl _) _
    have hb35 := keepT hb4 hb5
    have HP5 : Hid (w5.heap[w4.heap.size]? = some (.cells #[.int .i64 p.1, .int .u64 p.2.1, .int .i64 p.2.2] 44 (0, 0))) := by show _ = _; rw [hw5]; exact heap_alloc_new w4 _
    have HW : Hid (_ = _) := hw5
    clear hw5
    go_upto_region 5 with fail
    rw [← HW.out]
    clear HW
    have hs4 := hb4.size
    have hs3 := hb3.size
    have hs5 := hb5.size
    have HBB : w.heap.size ≤ w5.heap.size := by omega
    have HBW5 : Hid (Below w.heap.size w w5) := keepT HBW.out hb35
    have HO5 : Hid (Own w1.heap.size w5 ag sg.length cg sg) := HO3.out.kept hb35
    refine wp_region_ri (asSp t p kd sg ag cg w2.heap.size w4.heap.size (w.heap.size + 1) (w.heap.size)) [4, 5, 7, 30, 31, 32, 33] (w.heap.size) (fun a0 => a0.tmps.size = 34 ∧ aT a0 6 = .pointer (some ⟨(w.heap.size + 1), 0, none⟩) ∧ aT a0 8 = .slice ag sg.length cg ∧ aT a0 9 = .pointer (some ⟨w2.heap.size, 0, none⟩) ∧ aT a0 11 = .pointer (some ⟨w4.heap.size, 0, none⟩)) (by kernel_rfl) rfl (by kernel_rfl) rfl ⟨rfl, rfl, rfl, rfl, rfl⟩ (asSp_stb t p kd sg ag cg w2.heap.size w4.heap.size (w.heap.size + 1) (w.heap.size)) ?_ ?_ ?_
    · intro k hk hk2
      match k, hk, hk2 with
      | 8, _, _ => exact HP5.out
      | 9, _, _ => exact ⟨below_kept HB3.out.2.2 hb35, by omega⟩
      | 10, _, _ => exact below_kept HB3.out.2.1 hb35
      | 11, _, _ => exact (show Own w.heap.size w5 ag sg.length cg sg from HO5.out.mono (by omega))
      | 0, hk, _ => exact absurd hk (by show ¬ (8 ≤ 0); omega)
      | 1, hk, _ => exact absurd hk (by show ¬ (8 ≤ 1); omega)
      | 2, hk, _ => exact absurd hk (by show ¬ (8 ≤ 2); omega)
      | 3, hk, _ => exact absurd hk (by show ¬ (8 ≤ 3); omega)
      | 4, hk, _ => exact absurd hk (by show ¬ (8 ≤ 4); omega)
      | 5, hk, _ => exact absurd hk (by show ¬ (8 ≤ 5); omega)
      | 6, hk, _ => exact absurd hk (by show ¬ (8 ≤ 6); omega)
      | 7, hk, _ => exact absurd hk (by show ¬ (8 ≤ 7); omega)
      | k + 12, _, hk2 => exact absurd hk2 (by show ¬ (k + 12 < 12); omega)
    · rintro a0 ⟨hz, g6, g8, g9, g11⟩
      refine StepsRI.cons ?_ (StepsRI.cons ?_ (StepsRI.cons ?_ (StepsRI.cons ?_ (StepsRI.cons ?_ (StepsRI.cons ?_ (StepsRI.cons ?_ (StepsRI.cons ?_ (StepsRI.nil))))))))
      · intro lQ b W hI hUN hED KQ hKQ
        have hg := (hI.vot 8 (of_decide_eq_true rfl) (of_decide_eq_true rfl) rfl)
        refine wp_load_row 44 _ rfl (w4.heap.size) ((hI.fr.same 11 (by decide)).trans g11) 44 #[.int .i64 p.1, .int .u64 p.2.1, .int .i64 p.2.2] (0, 0) _ hg Tryz.underlying44 rfl (by kernel_rfl) ?_
        exact hKQ.out _ _ (hI.put 0 30 rfl rfl (by rw [hz]; decide) rfl hUN rfl HBB (asSp_stb t p kd sg ag cg w2.heap.size w4.heap.size (w.heap.size + 1) (w.heap.size)) (Below.refl _ _) rfl)
      · intro lQ b W hI hUN hED KQ hKQ
        have f0 := hI.got 0 (of_decide_eq_true rfl) (edge hED 0 (by kernel_rfl)) rfl
        replace f0 : aT b 30 = .agg #[.int .i64 p.1, .int .u64 p.2.1, .int .i64 p.2.2] := f0
        refine opw_call 60 #[.tmp 30] _ _ _ rfl Tryz.func60 (by kernel_rfl) rfl #[.agg #[.int .i64 p.1, .int .u64 p.2.1, .int .i64 p.2.2]] (by simp [ev, f0]) ?_
        refine (HKI.out W).mono ?_
        rintro e W2 ⟨rfl, hb⟩
        exact ⟨_, rfl, hKQ.out _ _ (hI.put 1 31 rfl rfl (by rw [hz]; decide) rfl hUN rfl HBB (asSp_stb t p kd sg ag cg w2.heap.size w4.heap.size (w.heap.size + 1) (w.heap.size)) hb rfl)⟩
      · intro lQ b W hI hUN hED KQ hKQ
        exact opw_move 8 rfl (hKQ.out _ _ (hI.put 2 32 rfl rfl (by rw [hz]; decide) rfl hUN rfl HBB (asSp_stb t p kd sg ag cg w2.heap.size w4.heap.size (w.heap.size + 1) (w.heap.size)) (Below.refl _ _) ((hI.fr.same 8 (by decide)).trans g8)))
      · intro lQ b W hI hUN hED KQ hKQ
        have hg := (hI.vot 9 (of_decide_eq_true rfl) (of_decide_eq_true rfl) rfl).1
        refine wp_load_row 37 _ rfl (w2.heap.size) ((hI.fr.same 9 (by decide)).trans g9) 37 #[.int .i64 t.1, .int .u64 t.2.1, .int .i64 t.2.2.1, .int .i64 t.2.2.2] (0, 0) _ hg Tryz.underlying37 rfl (by kernel_rfl) ?_
        exact hKQ.out _ _ (hI.put 3 33 rfl rfl (by rw [hz]; decide) rfl hUN rfl HBB (asSp_stb t p kd sg ag cg w2.heap.size w4.heap.size (w.heap.size + 1) (w.heap.size)) (Below.refl _ _) rfl)
      · intro lQ b W hI hUN hED KQ hKQ
        have f := hI.got 1 (of_decide_eq_true rfl) (edge hED 1 (by kernel_rfl)) rfl
        exact opw_assign 31 rfl (hKQ.out _ _ (hI.put 4 4 rfl rfl (by rw [hz]; decide) rfl hUN rfl HBB (asSp_stb t p kd sg ag cg w2.heap.size w4.heap.size (w.heap.size + 1) (w.heap.size)) (Below.refl _ _) f))
      · intro lQ b W hI hUN hED KQ hKQ
        have f := hI.got 2 (of_decide_eq_true rfl) (edge hED 2 (by kernel_rfl)) rfl
        exact opw_assign 32 rfl (hKQ.out _ _ (hI.put 5 5 rfl rfl (by rw [hz]; decide) rfl hUN rfl HBB (asSp_stb t p kd sg ag cg w2.heap.size w4.heap.size (w.heap.size + 1) (w.heap.size)) (Below.refl _ _) f))
      · intro lQ b W hI hUN hED KQ hKQ
        have hgb := (hI.vot1 10 6 (of_decide_eq_true rfl) (of_decide_eq_true rfl) hUN rfl)
        have fb := ((hI.fr.same 6 (by decide)).trans g6)
        have f := hI.got 3 (of_decide_eq_true rfl) (edge hED 3 (by kernel_rfl)) rfl
        refine wp_store_row 37 _ _ rfl ((w.heap.size + 1)) #[.int .i64 t.1, .int .u64 t.2.1, .int .i64 t.2.2.1, .int .i64 t.2.2.2] fb f 37 _ hgb (by kernel_rfl) rfl (by simp [Value.oneCell']) ?_
        have ht := setRow_touch W ((w.heap.size + 1)) #[.int .i64 t.1, .int .u64 t.2.1, .int .i64 t.2.2.1, .int .i64 t.2.2.2]
        exact hKQ.out _ _ (hI.store 6 (fun j hj => by cases hj) (hI.bel.trans (ht.below (by first | exact HGE6 | omega) (Nat.le_trans HBB hI.bel.size))) (asSp_st6 t p kd sg ag cg w2.heap.size w4.heap.size (w.heap.size + 1) (w.heap.size) hgb ht) (setRow_heap W ((w.heap.size + 1)) _ _ _ _ hgb))
      · intro lQ b W hI hUN hED KQ hKQ
        exact opw_const (.int .i64 0) rfl (hKQ.out _ _ (hI.put 7 7 rfl rfl (by rw [hz]; decide) rfl hUN rfl HBB (asSp_stb t p kd sg ag cg w2.heap.size w4.heap.size (w.heap.size + 1) (w.heap.size)) (Below.refl _ _) rfl))
    · intro b W hf hb F
      have e4 := F 4 (of_decide_eq_true rfl) rfl
      have e5 := F 5 (of_decide_eq_true rfl) rfl
      have e6 := F 6 (of_decide_eq_true rfl) rfl
      have e7 := F 7 (of_decide_eq_true rfl) rfl
      replace e4 : aT b 4 = _ := e4
      replace e5 : aT b 5 = _ := e5
      replace e7 : aT b 7 = _ := e7
      have e6b := hf.same 6 (by decide)
      have hO := F 11 (of_decide_eq_true rfl) rfl
      rw [hf.eq]
      simp only [puts, Act.put, List.setIfInBounds_toArray, List.set_cons_zero, List.set_cons_succ, e4, e5, e7]
      clear hf F
      go_wp2
      try simp only [Exit.inBlock, Exit.then]
      exact bodyPost_ret (results_as rfl _ (w.heap.size + 1) rfl _ _ _ rfl rfl rfl _ _ e6 rfl) rfl ⟨ag, cg, by rw [HV.out]; rfl, by rw [HV.out]; exact hO, HBW5.out.trans hb⟩

end Go.Proofs.YtmoekmonkpihhaaGreat

namespace Go.Proofs.YtmoekmonkpihhaaGreat
open Go.RowKit Go.Sort

def bodyOf (tag log sz root at2 : Int) : List Int := (enc 12 (hdI tag log sz root at2)).getD []
theorem bodyOf_enc (tag log sz root at2 : Int) (h0 : 1 ≤ tag) (h1 : tag ≤ 30) : enc 12 (hdI tag log sz root at2) = some (bodyOf tag log sz root at2) ∧ (bodyOf tag log sz root at2).length ≤ 1000 := by
  obtain ⟨l, hl, hll⟩ := hdI_enc tag log sz root at2 h0 h1
  unfold bodyOf
  rw [hl]
  exact ⟨rfl, hll⟩
/-- Why a witness does not sign. -/
def refC (wl ws wr hl hs hr ha : Int) (ss : List Int) (ps py ph : Int) (zs : List Int) (at2 : Int) : Int :=
  if seenP wl ws wr ∧ timP at2 then
    (if hsR hl hs hr ha ps py ph (bodyOf 6 hl hs hr ha) ss = true ∧ hl = wl then
      (if hs < ws then 3 else if 0 < ws ∧ cxP wr ws hr hs zs = false then 4 else 0)
    else 2)
  else 1
theorem cells3w {W : World} {g : Nat} {x y z : Value} {t : TypeId} (h : W.heap[g]? = some (.cells #[x, y, z] t (0, 0))) : W.cell? ⟨g, 0, none⟩ = some x ∧ W.cell? ⟨g, 1, none⟩ = some y ∧ W.cell? ⟨g, 2, none⟩ = some z :=
  ⟨(cell_of_row _ _ 0 _ t (0, 0) h).trans rfl, (cell_of_row _ _ 1 _ t (0, 0) h).trans rfl, (cell_of_row _ _ 2 _ t (0, 0) h).trans rfl⟩
theorem cells5w {W : World} {g : Nat} {x y z u v : Value} {t : TypeId} (h : W.heap[g]? = some (.cells #[x, y, z, u, v] t (0, 0))) : W.cell? ⟨g, 0, none⟩ = some x ∧ W.cell? ⟨g, 1, none⟩ = some y ∧ W.cell? ⟨g, 2, none⟩ = some z ∧ W.cell? ⟨g, 3, none⟩ = some u ∧ W.cell? ⟨g, 4, none⟩ = some v :=
  ⟨(cell_of_row _ _ 0 _ t (0, 0) h).trans rfl, (cell_of_row _ _ 1 _ t (0, 0) h).trans rfl, (cell_of_row _ _ 2 _ t (0, 0) h).trans rfl, (cell_of_row _ _ 3 _ t (0, 0) h).trans rfl, (cell_of_row _ _ 4 _ t (0, 0) h).trans rfl⟩
structure BxR (g : Nat) (wl ws wr hl hs hr ha : Int) (ag : Option Addr) (ng cg : Nat) (ps py ph : Int) (W : World) : Prop where
  w : W.heap[g]? = some (.cells #[.int .i64 wl, .int .i64 ws, .int .u64 wr] 34 (0, 0))
  h : W.heap[g + 1]? = some (.cells #[.int .i64 hl, .int .i64 hs, .int .u64 hr, .int .i64 ha, .slice ag ng cg] 41 (0, 0))
  p : W.heap[g + 1 + 1]? = some (.cells #[.int .i64 ps, .int .u64 py, .int .i64 ph] 44 (0, 0))
theorem BxR.kept {g : Nat} {wl ws wr hl hs hr ha : Int} {ag : Option Addr} {ng cg : Nat} {ps py ph : Int} {W W' : World} (b : BxR g wl ws wr hl hs hr ha ag ng cg ps py ph W) (hb : Below W.heap.size W W') : BxR g wl ws wr hl hs hr ha ag ng cg ps py ph W' :=
  ⟨below_kept b.w hb, below_kept b.h hb, below_kept b.p hb⟩
theorem bxr_new (w : World) (wl ws wr hl hs hr ha : Int) (ag : Option Addr) (ng cg : Nat) (ps py ph : Int) : BxR w.heap.size wl ws wr hl hs hr ha ag ng cg ps py ph (((w.alloc (.cells #[.int .i64 wl, .int .i64 ws, .int .u64 wr] 34)).alloc (.cells #[.int .i64 hl, .int .i64 hs, .int .u64 hr, .int .i64 ha, .slice ag ng cg] 41)).alloc (.cells #[.int .i64 ps, .int .u64 py, .int .i64 ph] 44)) := by
  have s2 : ((w.alloc (.cells #[.int .i64 wl, .int .i64 ws, .int .u64 wr] 34)).alloc (.cells #[.int .i64 hl, .int .i64 hs, .int .u64 hr, .int .i64 ha, .slice ag ng cg] 41)).heap.size = w.heap.size + 1 + 1 := by simp
  have h2 := two_blocks w (.cells #[.int .i64 wl, .int .i64 ws, .int .u64 wr] 34) (.cells #[.int .i64 hl, .int .i64 hs, .int .u64 hr, .int .i64 ha, .slice ag ng cg] 41)
  refine ⟨below_kept h2.1 ((Below.refl _ _).alloc (Nat.le_refl _) _), below_kept h2.2 ((Below.refl _ _).alloc (Nat.le_refl _) _), ?_⟩
  have := heap_alloc_new ((w.alloc (.cells #[.int .i64 wl, .int .i64 ws, .int .u64 wr] 34)).alloc (.cells #[.int .i64 hl, .int .i64 hs, .int .u64 hr, .int .i64 ha, .slice ag ng cg] 41)) (.cells #[.int .i64 ps, .int .u64 py, .int .i64 ph] 44)
  rwa [s2] at this

theorem watchRight_any (wl ws wr : Int) (w : World) : Calls Tryz.prog 54 #[.agg #[.int .i64 wl, .int .i64 ws, .int .u64 wr]] w fun e w' => e = .returned (.bool (decide (seenP wl ws wr))) ∧ Below w.heap.size w w' := by
  obtain ⟨w1, hw1⟩ : ∃ w1, w1 = w.alloc (.cells #[.int .i64 wl, .int .i64 ws, .int .u64 wr] 34) := ⟨_, rfl⟩
  have hb : Below w.heap.size w w1 := by rw [hw1]; exact (Below.refl _ _).alloc (Nat.le_refl _) _
  have hh : w1.heap[w.heap.size]? = some (.cells #[.int .i64 wl, .int .i64 ws, .int .u64 wr] 34 (0, 0)) := by rw [hw1]; exact heap_alloc_new w _
  obtain ⟨c0, c1, c2⟩ := cells3w hh
  have HW : Hid (_ = _) := hw1
  clear hw1 hh
  go_enter Tryz.func54, Tryz.ntmps54
  go_upto_region 1 with fail
  rw [← HW.out]
  clear HW
  go_wp2_with fail
  refine (seenOk_any wl ws wr _).mono ?_
  rintro e w2 ⟨rfl, rfl⟩
  go_wp2
  go_ret
  exact ⟨rfl, hb⟩

set_option maxRecDepth 10000 in
set_option maxHeartbeats 4000000 in
theorem refusal_any (wl ws wr hl hs hr ha : Int) (ag : Option Addr) (ng cg : Nat) (ss : List Int) (ps py ph : Int) (ap : Option Addr) (np cp : Nat) (zs : List Int) (at2 : Int) (w : World)
    (hwr : U64 wr) (hhr : U64 hr) (hpy : U64 py) (hg : Row w ag ng ss) (hng : ng ≤ 1048576) (hcg : ng ≤ cg) (hp : RowU w ap np zs) (hcp : np ≤ cp) (hcm : cp ≤ 9223372036854775807) :
    Calls Tryz.prog 31 #[.agg #[.int .i64 wl, .int .i64 ws, .int .u64 wr], .agg #[.int .i64 hl, .int .i64 hs, .int .u64 hr, .int .i64 ha, .slice ag ng cg], .slice ap np cp, .agg #[.int .i64 ps, .int .u64 py, .int .i64 ph], .int .i64 at2] w fun e w' => e = .returned (.int .i64 (refC wl ws wr hl hs hr ha ss ps py ph zs at2)) ∧ Below w.heap.size w w' := by
  obtain ⟨C, hC⟩ : ∃ C, C = refC wl ws wr hl hs hr ha ss ps py ph zs at2 := ⟨_, rfl⟩
  obtain ⟨hB, hhB⟩ : ∃ hB, hB = hsR hl hs hr ha ps py ph (bodyOf 6 hl hs hr ha) ss := ⟨_, rfl⟩
  obtain ⟨cB, hcB⟩ : ∃ cB, cB = cxP wr ws hr hs zs := ⟨_, rfl⟩
  obtain ⟨hE, hEl⟩ := bodyOf_enc 6 hl hs hr ha (by decide) (by decide)
  have HC : Hid (C = if seenP wl ws wr ∧ timP at2 then (if hB = true ∧ hl = wl then (if hs < ws then 3 else if 0 < ws ∧ cB = false then 4 else 0) else 2) else 1) := by show _ = _; rw [hC, hhB, hcB]; rfl
  have HHS : Hid (∀ W, Row W ag ng ss → Calls Tryz.prog 56 #[.agg #[.int .i64 hl, .int .i64 hs, .int .u64 hr, .int .i64 ha, .slice ag ng cg], .agg #[.int .i64 ps, .int .u64 py, .int .i64 ph]] W fun e w' => e = .returned (.bool hB) ∧ Below W.heap.size W w') := by
    intro W h1
    rw [hhB]
    exact implHeadSigned_any hl hs hr ha ag ng cg ss ps py ph _ W hhr hpy h1 hng hcg hE hEl
  have HCX : Hid (∀ W, RowU W ap np zs → Calls Tryz.prog 57 #[.int .u64 wr, .int .i64 ws, .int .u64 hr, .int .i64 hs, .slice ap np cp] W fun e w' => e = .returned (.bool cB) ∧ Below W.heap.size W w') := by
    intro W h1
    rw [hcB]
    exact implCheckExtend_any wr ws hr hs ap np cp zs W hwr h1 hcp hcm
  rw [← hC]
  clear hC hhB hcB hE hEl
  obtain ⟨w1, hw1⟩ : ∃ w1, w1 = ((w.alloc (.cells #[.int .i64 wl, .int .i64 ws, .int .u64 wr] 34)).alloc (.cells #[.int .i64 hl, .int .i64 hs, .int .u64 hr, .int .i64 ha, .slice ag ng cg] 41)).alloc (.cells #[.int .i64 ps, .int .u64 py, .int .i64 ph] 44) := ⟨_, rfl⟩
  have hbb : Below w.heap.size w w1 := by rw [hw1]; exact three_belowT w _ _ _
  have HB1 : Hid (BxR w.heap.size wl ws wr hl hs hr ha ag ng cg ps py ph w1) := by show BxR _ _ _ _ _ _ _ _ _ _ _ _ _ _ _; rw [hw1]; exact bxr_new w wl ws wr hl hs hr ha ag ng cg ps py ph
  have HG : Hid (∀ W, Below w.heap.size w W → Row W ag ng ss ∧ RowU W ap np zs) := fun W hW => ⟨hg.kept hW, hp.kept hW⟩
  have HW : Hid (_ = _) := hw1
  clear hw1 hg hp
  go_enter Tryz.func31, Tryz.ntmps31
  go_upto_region 1 with fail
  rw [← HW.out]
  clear HW
  obtain ⟨a0, a1, a2⟩ := cells3w HB1.out.w
  go_wp2_with fail
  refine (watchRight_any wl ws wr _).mono ?_
  rintro e w2 ⟨rfl, hb2⟩
  clear a0 a1 a2
  have hc2 := keepT hbb hb2
  have HB2 : Hid (_) := HB1.out.kept hb2
  clear HB1 hb2 hbb
  by_cases h1 : seenP wl ws wr
  case neg =>
    have HF := (show Hid (C = 1) by show _ = _; rw [HC.out, if_neg (fun h => h1 h.1)])
    rw [decide_eq_false h1]
    clear h1
    go_wp2
    go_ret
    exact ⟨by rw [HF.out]; rfl, hc2⟩
  rw [decide_eq_true h1]
  go_wp2_with fail
  refine (isTim_any at2 _).mono ?_
  rintro e w3 ⟨rfl, hw3⟩
  have hw3 := hw3.symm
  subst hw3
  by_cases h2 : timP at2
  case neg =>
    have HF := (show Hid (C = 1) by show _ = _; rw [HC.out, if_neg (fun h => h2 h.2)])
    rw [decide_eq_false h2]
    clear h1 h2
    go_wp2
    go_ret
    exact ⟨by rw [HF.out]; rfl, hc2⟩
  rw [decide_eq_true h2]
  have HC1 := (show Hid (C = if hB = true ∧ hl = wl then (if hs < ws then 3 else if 0 < ws ∧ cB = false then 4 else 0) else 2) by show _ = _; rw [HC.out, if_pos ⟨h1, h2⟩])
  clear h1 h2
  obtain ⟨b0, b1, b2, b3, b4⟩ := cells5w HB2.out.h
  obtain ⟨d0, d1, d2⟩ := cells3w HB2.out.p
  go_wp2_with fail
  refine (HHS.out _ (HG.out _ hc2).1).mono ?_
  rintro e w3 ⟨rfl, hb3⟩
  clear b0 b1 b2 b3 b4 d0 d1 d2
  have hc3 := keepT hc2 hb3
  have HB3 : Hid (_) := HB2.out.kept hb3
  clear HB2 hb3 hc2
  cases hB with
  | false =>
    have HF := (show Hid (C = 2) by show _ = _; rw [HC1.out, if_neg (fun h => by cases h.1)])
    go_wp2
    go_ret
    exact ⟨by rw [HF.out]; rfl, hc3⟩
  | true =>
  obtain ⟨b0, b1, b2, b3, b4⟩ := cells5w HB3.out.h
  obtain ⟨a0, a1, a2⟩ := cells3w HB3.out.w
  by_cases h3 : hl = wl
  case neg =>
    have HF := (show Hid (C = 2) by show _ = _; rw [HC1.out, if_neg (fun h => h3 h.2)])
    have z1 : (hl != wl) = true := by simp [h3]
    have z2 : ¬ wl = hl := fun e => h3 e.symm
    go_wp2
    go_ret
    exact ⟨by rw [HF.out]; rfl, hc3⟩
  have HC3 := (show Hid (C = if hs < ws then 3 else if 0 < ws ∧ cB = false then 4 else 0) by show _ = _; rw [HC1.out, if_pos ⟨by trivial, h3⟩])
  clear HC HC1
  subst h3
  by_cases h4 : hs < ws
  case pos =>
    have HF := (show Hid (C = 3) by show _ = _; rw [HC3.out, if_pos h4])
    go_wp2
    go_ret
    exact ⟨by rw [HF.out]; rfl, hc3⟩
  have HC4 := (show Hid (C = if 0 < ws ∧ cB = false then 4 else 0) by show _ = _; rw [HC3.out, if_neg h4])
  by_cases h5 : 0 < ws
  case neg =>
    have HF := (show Hid (C = 0) by show _ = _; rw [HC4.out, if_neg (fun h => h5 h.1)])
    have z5 : decide (0 < ws) = false := decide_eq_false h5
    go_wp2
    go_ret
    exact ⟨by rw [HF.out]; rfl, hc3⟩
  have z5 : decide (0 < ws) = true := decide_eq_true h5
  go_wp2_with fail
  refine (HCX.out _ (HG.out _ hc3).2).mono ?_
  rintro e w4 ⟨rfl, hb4⟩
  have hc4 := keepT hc3 hb4
  cases cB with
  | false =>
    have HF := (show Hid (C = 4) by show _ = _; rw [HC4.out, if_pos ⟨h5, by trivial⟩])
    clear h4 h5 z5
    go_wp2
    go_ret
    exact ⟨by rw [HF.out]; rfl, hc4⟩
  | true =>
    have HF := (show Hid (C = 0) by show _ = _; rw [HC4.out, if_neg (fun h => by cases h.2)])
    clear h4 h5 z5
    go_wp2
    go_ret
    exact ⟨by rw [HF.out]; rfl, hc4⟩

end Go.Proofs.YtmoekmonkpihhaaGreat

set_option linter.unusedVariables false
namespace Go.Proofs.YtmoekmonkpihhaaGreat
open Go.RowKit Go.Sort

/-- What Watch answers. -/
structure WtV where
  wl : Int
  ws : Int
  wr : Int
  ck : Int
  ca : Int
  sg : List Int
  t : Sc4
  cd : Int
def wtBad (cd : Int) : WtV := ⟨0, 0, 0, 0, 0, [], (0, 0, 0, 0), cd⟩
def wtV (wl ws wr hl hs hr ha : Int) (ss : List Int) (ps py ph : Int) (zs : List Int) (at2 sc x h n : Int) : WtV :=
  if refC wl ws wr hl hs hr ha ss ps py ph zs at2 = 0 then
    (if (asV sc x h n (bodyOf 7 hl hs hr at2)).cd = 0 then ⟨hl, hs, hr, (asV sc x h n (bodyOf 7 hl hs hr at2)).k, at2, (asV sc x h n (bodyOf 7 hl hs hr at2)).sg, (asV sc x h n (bodyOf 7 hl hs hr at2)).t, 0⟩
    else wtBad (asV sc x h n (bodyOf 7 hl hs hr at2)).cd)
  else wtBad (refC wl ws wr hl hs hr ha ss ps py ph zs at2)
def wtOut (v : WtV) (a : Option Addr) (c : Nat) : Value := .tuple #[.agg #[.int .i64 v.wl, .int .i64 v.ws, .int .u64 v.wr], .agg #[.int .u64 v.ck, .int .i64 v.ca, .slice a v.sg.length c], .agg #[.int .i64 v.t.1, .int .u64 v.t.2.1, .int .i64 v.t.2.2.1, .int .i64 v.t.2.2.2], .int .i64 v.cd]
structure BxW (G : Nat) (wl ws wr hl hs hr ha : Int) (ag : Option Addr) (ng cg : Nat) (ps py ph sc x h n : Int) (W : World) : Prop where
  fw : W.heap[G]? = some (.cells #[.int .i64 wl, .int .i64 ws, .int .u64 wr] 34 (0, 0))
  fh : W.heap[G + 1]? = some (.cells #[.int .i64 hl, .int .i64 hs, .int .u64 hr, .int .i64 ha, .slice ag ng cg] 41 (0, 0))
  fp : W.heap[G + 1 + 1]? = some (.cells #[.int .i64 ps, .int .u64 py, .int .i64 ph] 44 (0, 0))
  fs : W.heap[G + 1 + 1 + 1]? = some (.cells #[.int .i64 sc, .int .u64 x, .int .i64 h, .int .i64 n] 37 (0, 0))
  frw : W.heap[G + 1 + 1 + 1 + 1]? = some (.cells #[.int .i64 0, .int .i64 0, .int .u64 0] 34 (0, 0))
  frc : W.heap[G + 1 + 1 + 1 + 1 + 1]? = some (.cells #[.int .u64 0, .int .i64 0, .slice none 0 0] 36 (0, 0))
  frs : W.heap[G + 1 + 1 + 1 + 1 + 1 + 1]? = some (.cells #[.int .i64 0, .int .u64 0, .int .i64 0, .int .i64 0] 37 (0, 0))
theorem BxW.kept {G : Nat} {wl ws wr hl hs hr ha : Int} {ag : Option Addr} {ng cg : Nat} {ps py ph sc x h n : Int} {W W' : World} (b : BxW G wl ws wr hl hs hr ha ag ng cg ps py ph sc x h n W) (hb : Below W.heap.size W W') : BxW G wl ws wr hl hs hr ha ag ng cg ps py ph sc x h n W' :=
  ⟨below_kept b.fw hb, below_kept b.fh hb, below_kept b.fp hb, below_kept b.fs hb, below_kept b.frw hb, below_kept b.frc hb, below_kept b.frs hb⟩
theorem bxw_new (w : World) (wl ws wr hl hs hr ha : Int) (ag : Option Addr) (ng cg : Nat) (ps py ph sc x h n : Int) : BxW w.heap.size wl ws wr hl hs hr ha ag ng cg ps py ph sc x h n (((((((w.alloc (.cells #[.int .i64 wl, .int .i64 ws, .int .u64 wr] 34)).alloc (.cells #[.int .i64 hl, .int .i64 hs, .int .u64 hr, .int .i64 ha, .slice ag ng cg] 41)).alloc (.cells #[.int .i64 ps, .int .u64 py, .int .i64 ph] 44)).alloc (.cells #[.int .i64 sc, .int .u64 x, .int .i64 h, .int .i64 n] 37)).alloc (.cells #[.int .i64 0, .int .i64 0, .int .u64 0] 34)).alloc (.cells #[.int .u64 0, .int .i64 0, .slice none 0 0] 36)).alloc (.cells #[.int .i64 0, .int .u64 0, .int .i64 0, .int .i64 0] 37)) ∧ Below w.heap.size w (((((((w.alloc (.cells #[.int .i64 wl, .int .i64 ws, .int .u64 wr] 34)).alloc (.cells #[.int .i64 hl, .int .i64 hs, .int .u64 hr, .int .i64 ha, .slice ag ng cg] 41)).alloc (.cells #[.int .i64 ps, .int .u64 py, .int .i64 ph] 44)).alloc (.cells #[.int .i64 sc, .int .u64 x, .int .i64 h, .int .i64 n] 37)).alloc (.cells #[.int .i64 0, .int .i64 0, .int .u64 0] 34)).alloc (.cells #[.int .u64 0, .int .i64 0, .slice none 0 0] 36)).alloc (.cells #[.int .i64 0, .int .u64 0, .int .i64 0, .int .i64 0] 37)) := by
  obtain ⟨u1, e0⟩ : ∃ u1, u1 = w.alloc (.cells #[.int .i64 wl, .int .i64 ws, .int .u64 wr] 34) := ⟨_, rfl⟩
  have s1 : u1.heap.size = w.heap.size + 1 := by rw [e0]; simp
  have n0 : u1.heap[w.heap.size]? = some (.cells #[.int .i64 wl, .int .i64 ws, .int .u64 wr] 34 (0, 0)) := by
    have := heap_alloc_new w (.cells #[.int .i64 wl, .int .i64 ws, .int .u64 wr] 34)
    rw [← e0] at this
    exact this
  have q0 : Below w.heap.size w u1 := by rw [e0]; exact (Below.refl _ _).alloc (Nat.le_refl _) _
  obtain ⟨u2, e1⟩ : ∃ u2, u2 = u1.alloc (.cells #[.int .i64 hl, .int .i64 hs, .int .u64 hr, .int .i64 ha, .slice ag ng cg] 41) := ⟨_, rfl⟩
  have s2 : u2.heap.size = w.heap.size + 1 + 1 := by rw [e1]; simp [s1]
  have n1 : u2.heap[w.heap.size + 1]? = some (.cells #[.int .i64 hl, .int .i64 hs, .int .u64 hr, .int .i64 ha, .slice ag ng cg] 41 (0, 0)) := by
    have := heap_alloc_new u1 (.cells #[.int .i64 hl, .int .i64 hs, .int .u64 hr, .int .i64 ha, .slice ag ng cg] 41)
    rw [← e1, s1] at this
    exact this
  have q1 : Below u1.heap.size u1 u2 := by rw [e1]; exact (Below.refl _ _).alloc (Nat.le_refl _) _
  obtain ⟨u3, e2⟩ : ∃ u3, u3 = u2.alloc (.cells #[.int .i64 ps, .int .u64 py, .int .i64 ph] 44) := ⟨_, rfl⟩
  have s3 : u3.heap.size = w.heap.size + 1 + 1 + 1 := by rw [e2]; simp [s2]
  have n2 : u3.heap[w.heap.size + 1 + 1]? = some (.cells #[.int .i64 ps, .int .u64 py, .int .i64 ph] 44 (0, 0)) := by
    have := heap_alloc_new u2 (.cells #[.int .i64 ps, .int .u64 py, .int .i64 ph] 44)
    rw [← e2, s2] at this
    exact this
  have q2 : Below u2.heap.size u2 u3 := by rw [e2]; exact (Below.refl _ _).alloc (Nat.le_refl _) _
  obtain ⟨u4, e3⟩ : ∃ u4, u4 = u3.alloc (.cells #[.int .i64 sc, .int .u64 x, .int .i64 h, .int .i64 n] 37) := ⟨_, rfl⟩
  have s4 : u4.heap.size = w.heap.size + 1 + 1 + 1 + 1 := by rw [e3]; simp [s3]
  have n3 : u4.heap[w.heap.size + 1 + 1 + 1]? = some (.cells #[.int .i64 sc, .int .u64 x, .int .i64 h, .int .i64 n] 37 (0, 0)) := by
    have := heap_alloc_new u3 (.cells #[.int .i64 sc, .int .u64 x, .int .i64 h, .int .i64 n] 37)
    rw [← e3, s3] at this
    exact this
  have q3 : Below u3.heap.size u3 u4 := by rw [e3]; exact (Below.refl _ _).alloc (Nat.le_refl _) _
  obtain ⟨u5, e4⟩ : ∃ u5, u5 = u4.alloc (.cells #[.int .i64 0, .int .i64 0, .int .u64 0] 34) := ⟨_, rfl⟩
  have s5 : u5.heap.size = w.heap.size + 1 + 1 + 1 + 1 + 1 := by rw [e4]; simp [s4]
  have n4 : u5.heap[w.heap.size + 1 + 1 + 1 + 1]? = some (.cells #[.int .i64 0, .int .i64 0, .int .u64 0] 34 (0, 0)) := by
    have := heap_alloc_new u4 (.cells #[.int .i64 0, .int .i64 0, .int .u64 0] 34)
    rw [← e4, s4] at this
    exact this
  have q4 : Below u4.heap.size u4 u5 := by rw [e4]; exact (Below.refl _ _).alloc (Nat.le_refl _) _
  obtain ⟨u6, e5⟩ : ∃ u6, u6 = u5.alloc (.cells #[.int .u64 0, .int .i64 0, .slice none 0 0] 36) := ⟨_, rfl⟩
  have s6 : u6.heap.size = w.heap.size + 1 + 1 + 1 + 1 + 1 + 1 := by rw [e5]; simp [s5]
  have n5 : u6.heap[w.heap.size + 1 + 1 + 1 + 1 + 1]? = some (.cells #[.int .u64 0, .int .i64 0, .slice none 0 0] 36 (0, 0)) := by
    have := heap_alloc_new u5 (.cells #[.int .u64 0, .int .i64 0, .slice none 0 0] 36)
    rw [← e5, s5] at this
    exact this
  have q5 : Below u5.heap.size u5 u6 := by rw [e5]; exact (Below.refl _ _).alloc (Nat.le_refl _) _
  obtain ⟨u7, e6⟩ : ∃ u7, u7 = u6.alloc (.cells #[.int .i64 0, .int .u64 0, .int .i64 0, .int .i64 0] 37) := ⟨_, rfl⟩
  have s7 : u7.heap.size = w.heap.size + 1 + 1 + 1 + 1 + 1 + 1 + 1 := by rw [e6]; simp [s6]
  have n6 : u7.heap[w.heap.size + 1 + 1 + 1 + 1 + 1 + 1]? = some (.cells #[.int .i64 0, .int .u64 0, .int .i64 0, .int .i64 0] 37 (0, 0)) := by
    have := heap_alloc_new u6 (.cells #[.int .i64 0, .int .u64 0, .int .i64 0, .int .i64 0] 37)
    rw [← e6, s6] at this
    exact this
  have q6 : Below u6.heap.size u6 u7 := by rw [e6]; exact (Below.refl _ _).alloc (Nat.le_refl _) _
  rw [← e0, ← e1, ← e2, ← e3, ← e4, ← e5, ← e6]
  exact ⟨⟨(below_kept (below_kept (below_kept (below_kept (below_kept (below_kept n0 q1) q2) q3) q4) q5) q6), (below_kept (below_kept (below_kept (below_kept (below_kept n1 q2) q3) q4) q5) q6), (below_kept (below_kept (below_kept (below_kept n2 q3) q4) q5) q6), (below_kept (below_kept (below_kept n3 q4) q5) q6), (below_kept (below_kept n4 q5) q6), (below_kept n5 q6), n6⟩, (keepT (keepT (keepT (keepT (keepT (keepT q0 q1) q2) q3) q4) q5) q6)⟩
theorem results_wt {fn : Func} {t u v z : Tmp} (h : fn.results = #[.cell t 34, .cell u 36, .cell v 37, .tmp z]) (tmps : Array Value) (g1 g2 g3 : Nat) (ht : tmps.getD t undef = .pointer (some ⟨g1, 0, none⟩)) (hu : tmps.getD u undef = .pointer (some ⟨g2, 0, none⟩)) (hv : tmps.getD v undef = .pointer (some ⟨g3, 0, none⟩)) (q : Value) (hz : tmps.getD z undef = q) (w : World) (c1 c2 c3 : Array Value)
    (b1 : w.heap[g1]? = some (.cells c1 34 (0, 0))) (b2 : w.heap[g2]? = some (.cells c2 36 (0, 0))) (b3 : w.heap[g3]? = some (.cells c3 37 (0, 0))) (s1 : c1.size = 3) (s2 : c2.size = 3) (s3 : c3.size = 4) : (results fn tmps).run Tryz.prog w = .ok (.tuple #[.agg c1, .agg c2, .agg c3, q]) w := by
  have i1 : (Tryz.prog.info? 34).map (·.size) = some c1.size := by rw [s1]; kernel_rfl
  have i2 : (Tryz.prog.info? 36).map (·.size) = some c2.size := by rw [s2]; kernel_rfl
  have i3 : (Tryz.prog.info? 37).map (·.size) = some c3.size := by rw [s3]; kernel_rfl
  have ht' : tmps[t]?.getD undef = .pointer (some ⟨g1, 0, none⟩) := by rw [← ht]; simp
  have hu' : tmps[u]?.getD undef = .pointer (some ⟨g2, 0, none⟩) := by rw [← hu]; simp
  have hv' : tmps[v]?.getD undef = .pointer (some ⟨g3, 0, none⟩) := by rw [← hv]; simp
  have hz' : tmps[z]?.getD undef = q := by rw [← hz]; simp
  simp [results, h, ht', hu', hv', hz', asAddr, run_loadVar_row w g1 _ _ c1 (0, 0) _ b1 Tryz.underlying34 rfl i1, run_loadVar_row w g2 _ _ c2 (0, 0) _ b2 Tryz.underlying36 rfl i2, run_loadVar_row w g3 _ _ c3 (0, 0) _ b3 Tryz.underlying37 rfl i3]

/-- What is known of a region (RJ). -/
def wzA (cd : Int) (G B : Nat) : RSpec where
  m := 8
  n := 11
  slots := [29, 30, 31, 32, 100004, 100005, 100006, 15, 100008, 100009, 100010]
  kills := [[], [], [], [], [], [], [], [], [4], [5], [6]]
  pres := [[], [], [], [], [], [], [], [], [], [], []]
  fact := fun k v w => match k with
    | 0 => v = .agg #[.int .i64 0, .int .i64 0, .int .u64 0]
    | 1 => v = .agg #[.int .u64 0, .int .i64 0, .slice none 0 0]
    | 2 => v = .agg #[.int .i64 0, .int .u64 0, .int .i64 0, .int .i64 0]
    | 3 => v = .int .i64 cd
    | 4 => w.heap[(G + 1 + 1 + 1 + 1)]? = some (.cells #[.int .i64 0, .int .i64 0, .int .u64 0] 34 (0, 0))
    | 5 => w.heap[(G + 1 + 1 + 1 + 1 + 1)]? = some (.cells #[.int .u64 0, .int .i64 0, .slice none 0 0] 36 (0, 0))
    | 6 => w.heap[(G + 1 + 1 + 1 + 1 + 1 + 1)]? = some (.cells #[.int .i64 0, .int .u64 0, .int .i64 0, .int .i64 0] 37 (0, 0))
    | 7 => v = .int .i64 cd
    | 8 => w.heap[(G + 1 + 1 + 1 + 1)]? = some (.cells #[.int .i64 0, .int .i64 0, .int .u64 0] 34 (0, 0))
    | 9 => w.heap[(G + 1 + 1 + 1 + 1 + 1)]? = some (.cells #[.int .u64 0, .int .i64 0, .slice none 0 0] 36 (0, 0))
    | _ => w.heap[(G + 1 + 1 + 1 + 1 + 1 + 1)]? = some (.cells #[.int .i64 0, .int .u64 0, .int .i64 0, .int .i64 0] 37 (0, 0))
set_option linter.unusedVariables false in
theorem wzA_stb (cd : Int) (G B : Nat) (k : Nat) (hk : k < 11) : StB ((wzA cd G (B)).fact k) := by
  match k, hk with
  | 0, _ => exact fun _ _ _ h _ => h
  | 1, _ => exact fun _ _ _ h _ => h
  | 2, _ => exact fun _ _ _ h _ => h
  | 3, _ => exact fun _ _ _ h _ => h
  | 4, _ => exact fun _ _ _ q_0 hb => below_kept q_0 hb
  | 5, _ => exact fun _ _ _ q_0 hb => below_kept q_0 hb
  | 6, _ => exact fun _ _ _ q_0 hb => below_kept q_0 hb
  | 7, _ => exact fun _ _ _ h _ => h
  | 8, _ => exact fun _ _ _ q_0 hb => below_kept q_0 hb
  | 9, _ => exact fun _ _ _ q_0 hb => below_kept q_0 hb
  | 10, _ => exact fun _ _ _ q_0 hb => below_kept q_0 hb
  | k + 11, hk => omega
set_option linter.unusedVariables false in
theorem wzA_st4 (cd : Int) (G B : Nat) {W W2 : World} {cs : Array Value} {fr : Nat × Nat} (hg : W.heap[(G + 1 + 1 + 1 + 1)]? = some (.cells cs 34 fr)) (ht : Touch ((G + 1 + 1 + 1 + 1)) ((G + 1 + 1 + 1 + 1) + 1) W W2) (k : Nat) (hk : k < 11) (hne : k ≠ 4) (hkill : 4 ∉ (wzA cd G (B)).kill k) (v : Value) (hfact : (wzA cd G (B)).fact k v W) : (wzA cd G (B)).fact k v W2 := by
  match k, hk, hne, hkill, hfact with
  | 0, _, _, _, hq => exact hq
  | 1, _, _, _, hq => exact hq
  | 2, _, _, _, hq => exact hq
  | 3, _, _, _, hq => exact hq
  | 4, _, hne, _, _ => exact absurd rfl hne
  | 5, _, _, _, q_0 => exact box_box q_0 hg (by decide) ht
  | 6, _, _, _, q_0 => exact box_box q_0 hg (by decide) ht
  | 7, _, _, _, hq => exact hq
  | 8, _, _, hkill, _ => exact absurd (List.Mem.head _) hkill
  | 9, _, _, _, q_0 => exact box_box q_0 hg (by decide) ht
  | 10, _, _, _, q_0 => exact box_box q_0 hg (by decide) ht
  | k + 11, hk, _, _, _ => omega
set_option linter.unusedVariables false in
theorem wzA_st5 (cd : Int) (G B : Nat) {W W2 : World} {cs : Array Value} {fr : Nat × Nat} (hg : W.heap[(G + 1 + 1 + 1 + 1 + 1)]? = some (.cells cs 36 fr)) (ht : Touch ((G + 1 + 1 + 1 + 1 + 1)) ((G + 1 + 1 + 1 + 1 + 1) + 1) W W2) (k : Nat) (hk : k < 11) (hne : k ≠ 5) (hkill : 5 ∉ (wzA cd G (B)).kill k) (v : Value) (hfact : (wzA cd G (B)).fact k v W) : (wzA cd G (B)).fact k v W2 := by
  match k, hk, hne, hkill, hfact with
  | 0, _, _, _, hq => exact hq
  | 1, _, _, _, hq => exact hq
  | 2, _, _, _, hq => exact hq
  | 3, _, _, _, hq => exact hq
  | 4, _, _, _, q_0 => exact box_box q_0 hg (by decide) ht
  | 5, _, hne, _, _ => exact absurd rfl hne
  | 6, _, _, _, q_0 => exact box_box q_0 hg (by decide) ht
  | 7, _, _, _, hq => exact hq
  | 8, _, _, _, q_0 => exact box_box q_0 hg (by decide) ht
  | 9, _, _, hkill, _ => exact absurd (List.Mem.head _) hkill
  | 10, _, _, _, q_0 => exact box_box q_0 hg (by decide) ht
  | k + 11, hk, _, _, _ => omega
set_option linter.unusedVariables false in
theorem wzA_st6 (cd : Int) (G B : Nat) {W W2 : World} {cs : Array Value} {fr : Nat × Nat} (hg : W.heap[(G + 1 + 1 + 1 + 1 + 1 + 1)]? = some (.cells cs 37 fr)) (ht : Touch ((G + 1 + 1 + 1 + 1 + 1 + 1)) ((G + 1 + 1 + 1 + 1 + 1 + 1) + 1) W W2) (k : Nat) (hk : k < 11) (hne : k ≠ 6) (hkill : 6 ∉ (wzA cd G (B)).kill k) (v : Value) (hfact : (wzA cd G (B)).fact k v W) : (wzA cd G (B)).fact k v W2 := by
  match k, hk, hne, hkill, hfact with
  | 0, _, _, _, hq => exact hq
  | 1, _, _, _, hq => exact hq
  | 2, _, _, _, hq => exact hq
  | 3, _, _, _, hq => exact hq
  | 4, _, _, _, q_0 => exact box_box q_0 hg (by decide) ht
  | 5, _, _, _, q_0 => exact box_box q_0 hg (by decide) ht
  | 6, _, hne, _, _ => exact absurd rfl hne
  | 7, _, _, _, hq => exact hq
  | 8, _, _, _, q_0 => exact box_box q_0 hg (by decide) ht
  | 9, _, _, _, q_0 => exact box_box q_0 hg (by decide) ht
  | 10, _, _, hkill, _ => exact absurd (List.Mem.head _) hkill
  | k + 11, hk, _, _, _ => omega
/-- What is known of a region (RJ). -/
def wzB (cd : Int) (G B : Nat) : RSpec where
  m := 8
  n := 11
  slots := [45, 46, 47, 48, 100004, 100005, 100006, 15, 100008, 100009, 100010]
  kills := [[], [], [], [], [], [], [], [], [4], [5], [6]]
  pres := [[], [], [], [], [], [], [], [], [], [], []]
  fact := fun k v w => match k with
    | 0 => v = .agg #[.int .i64 0, .int .i64 0, .int .u64 0]
    | 1 => v = .agg #[.int .u64 0, .int .i64 0, .slice none 0 0]
    | 2 => v = .agg #[.int .i64 0, .int .u64 0, .int .i64 0, .int .i64 0]
    | 3 => v = .int .i64 cd
    | 4 => w.heap[(G + 1 + 1 + 1 + 1)]? = some (.cells #[.int .i64 0, .int .i64 0, .int .u64 0] 34 (0, 0))
    | 5 => w.heap[(G + 1 + 1 + 1 + 1 + 1)]? = some (.cells #[.int .u64 0, .int .i64 0, .slice none 0 0] 36 (0, 0))
    | 6 => w.heap[(G + 1 + 1 + 1 + 1 + 1 + 1)]? = some (.cells #[.int .i64 0, .int .u64 0, .int .i64 0, .int .i64 0] 37 (0, 0))
    | 7 => v = .int .i64 cd
    | 8 => w.heap[(G + 1 + 1 + 1 + 1)]? = some (.cells #[.int .i64 0, .int .i64 0, .int .u64 0] 34 (0, 0))
    | 9 => w.heap[(G + 1 + 1 + 1 + 1 + 1)]? = some (.cells #[.int .u64 0, .int .i64 0, .slice none 0 0] 36 (0, 0))
    | _ => w.heap[(G + 1 + 1 + 1 + 1 + 1 + 1)]? = some (.cells #[.int .i64 0, .int .u64 0, .int .i64 0, .int .i64 0] 37 (0, 0))
set_option linter.unusedVariables false in
theorem wzB_stb (cd : Int) (G B : Nat) (k : Nat) (hk : k < 11) : StB ((wzB cd G (B)).fact k) := by
  match k, hk with
  | 0, _ => exact fun _ _ _ h _ => h
  | 1, _ => exact fun _ _ _ h _ => h
  | 2, _ => exact fun _ _ _ h _ => h
  | 3, _ => exact fun _ _ _ h _ => h
  | 4, _ => exact fun _ _ _ q_0 hb => below_kept q_0 hb
  | 5, _ => exact fun _ _ _ q_0 hb => below_kept q_0 hb
  | 6, _ => exact fun _ _ _ q_0 hb => below_kept q_0 hb
  | 7, _ => exact fun _ _ _ h _ => h
  | 8, _ => exact fun _ _ _ q_0 hb => below_kept q_0 hb
  | 9, _ => exact fun _ _ _ q_0 hb => below_kept q_0 hb
  | 10, _ => exact fun _ _ _ q_0 hb => below_kept q_0 hb
  | k + 11, hk => omega
set_option linter.unusedVariables false in
theorem wzB_st4 (cd : Int) (G B : Nat) {W W2 : World} {cs : Array Value} {fr : Nat × Nat} (hg : W.heap[(G + 1 + 1 + 1 + 1)]? = some (.cells cs 34 fr)) (ht : Touch ((G + 1 + 1 + 1 + 1)) ((G + 1 + 1 + 1 + 1) + 1) W W2) (k : Nat) (hk : k < 11) (hne : k ≠ 4) (hkill : 4 ∉ (wzB cd G (B)).kill k) (v : Value) (hfact : (wzB cd G (B)).fact k v W) : (wzB cd G (B)).fact k v W2 := by
  match k, hk, hne, hkill, hfact with
  | 0, _, _, _, hq => exact hq
  | 1, _, _, _, hq => exact hq
  | 2, _, _, _, hq => exact hq
  | 3, _, _, _, hq => exact hq
  | 4, _, hne, _, _ => exact absurd rfl hne
  | 5, _, _, _, q_0 => exact box_box q_0 hg (by decide) ht
  | 6, _, _, _, q_0 => exact box_box q_0 hg (by decide) ht
  | 7, _, _, _, hq => exact hq
  | 8, _, _, hkill, _ => exact absurd (List.Mem.head _) hkill
  | 9, _, _, _, q_0 => exact box_box q_0 hg (by decide) ht
  | 10, _, _, _, q_0 => exact box_box q_0 hg (by decide) ht
  | k + 11, hk, _, _, _ => omega
set_option linter.unusedVariables false in
theorem wzB_st5 (cd : Int) (G B : Nat) {W W2 : World} {cs : Array Value} {fr : Nat × Nat} (hg : W.heap[(G + 1 + 1 + 1 + 1 + 1)]? = some (.cells cs 36 fr)) (ht : Touch ((G + 1 + 1 + 1 + 1 + 1)) ((G + 1 + 1 + 1 + 1 + 1) + 1) W W2) (k : Nat) (hk : k < 11) (hne : k ≠ 5) (hkill : 5 ∉ (wzB cd G (B)).kill k) (v : Value) (hfact : (wzB cd G (B)).fact k v W) : (wzB cd G (B)).fact k v W2 := by
  match k, hk, hne, hkill, hfact with
  | 0, _, _, _, hq => exact hq
  | 1, _, _, _, hq => exact hq
  | 2, _, _, _, hq => exact hq
  | 3, _, _, _, hq => exact hq
  | 4, _, _, _, q_0 => exact box_box q_0 hg (by decide) ht
  | 5, _, hne, _, _ => exact absurd rfl hne
  | 6, _, _, _, q_0 => exact box_box q_0 hg (by decide) ht
  | 7, _, _, _, hq => exact hq
  | 8, _, _, _, q_0 => exact box_box q_0 hg (by decide) ht
  | 9, _, _, hkill, _ => exact absurd (List.Mem.head _) hkill
  | 10, _, _, _, q_0 => exact box_box q_0 hg (by decide) ht
  | k + 11, hk, _, _, _ => omega
set_option linter.unusedVariables false in
theorem wzB_st6 (cd : Int) (G B : Nat) {W W2 : World} {cs : Array Value} {fr : Nat × Nat} (hg : W.heap[(G + 1 + 1 + 1 + 1 + 1 + 1)]? = some (.cells cs 37 fr)) (ht : Touch ((G + 1 + 1 + 1 + 1 + 1 + 1)) ((G + 1 + 1 + 1 + 1 + 1 + 1) + 1) W W2) (k : Nat) (hk : k < 11) (hne : k ≠ 6) (hkill : 6 ∉ (wzB cd G (B)).kill k) (v : Value) (hfact : (wzB cd G (B)).fact k v W) : (wzB cd G (B)).fact k v W2 := by
  match k, hk, hne, hkill, hfact with
  | 0, _, _, _, hq => exact hq
  | 1, _, _, _, hq => exact hq
  | 2, _, _, _, hq => exact hq
  | 3, _, _, _, hq => exact hq
  | 4, _, _, _, q_0 => exact box_box q_0 hg (by decide) ht
  | 5, _, _, _, q_0 => exact box_box q_0 hg (by decide) ht
  | 6, _, hne, _, _ => exact absurd rfl hne
  | 7, _, _, _, hq => exact hq
  | 8, _, _, _, q_0 => exact box_box q_0 hg (by decide) ht
  | 9, _, _, _, q_0 => exact box_box q_0 hg (by decide) ht
  | 10, _, _, hkill, _ => exact absurd (List.Mem.head _) hkill
  | k + 11, hk, _, _, _ => omega
/-- What is known of a region (RJ). -/
def w4Sp (wl ws wr hl hs hr ha : Int) (ag : Option Addr) (ng cg : Nat) (sc x h n at2 : Int) (bd : List Int) (V1 : AsV) (G B : Nat) : RSpec where
  m := 15
  n := 17
  slots := [34, 35, 36, 37, 38, 33, 39, 40, 41, 42, 19, 17, 18, 19, 20, 100015, 100016]
  kills := [[], [], [], [], [], [], [], [], [], [], [13], [], [], [], [], [], []]
  pres := [[], [], [], [], [], [], [], [], [], [], [], [], [], [10], [], [], []]
  fact := fun k v w => match k with
    | 0 => v = .agg #[.int .i64 sc, .int .u64 x, .int .i64 h, .int .i64 n]
    | 1 => v = .agg #[.int .i64 hl, .int .i64 hs, .int .u64 hr, .int .i64 ha, .slice ag ng cg]
    | 2 => v = .int .i64 at2
    | 3 => ∃ a1 c1, v = .slice a1 bd.length c1 ∧ Own B w a1 bd.length c1 bd
    | 4 => ∃ a2 c2, v = .tuple #[.int .u64 V1.k, .slice a2 V1.sg.length c2, .agg #[.int .i64 V1.t.1, .int .u64 V1.t.2.1, .int .i64 V1.t.2.2.1, .int .i64 V1.t.2.2.2], .int .i64 V1.cd] ∧ Own B w a2 V1.sg.length c2 V1.sg
    | 5 => ∃ a2 c2, v = .tuple #[.int .u64 V1.k, .slice a2 V1.sg.length c2, .agg #[.int .i64 V1.t.1, .int .u64 V1.t.2.1, .int .i64 V1.t.2.2.1, .int .i64 V1.t.2.2.2], .int .i64 V1.cd] ∧ Own B w a2 V1.sg.length c2 V1.sg
    | 6 => v = .int .u64 V1.k
    | 7 => ∃ a2 c2, v = .slice a2 V1.sg.length c2 ∧ Own B w a2 V1.sg.length c2 V1.sg
    | 8 => v = .agg #[.int .i64 V1.t.1, .int .u64 V1.t.2.1, .int .i64 V1.t.2.2.1, .int .i64 V1.t.2.2.2]
    | 9 => v = .int .i64 V1.cd
    | 10 => ∃ gb10, v = .pointer (some ⟨gb10, 0, none⟩) ∧ w.heap[gb10]? = some (.cells #[.int .i64 0, .int .u64 0, .int .i64 0, .int .i64 0] 37 (0, 0)) ∧ B ≤ gb10
    | 11 => v = .int .u64 V1.k
    | 12 => ∃ a2 c2, v = .slice a2 V1.sg.length c2 ∧ Own B w a2 V1.sg.length c2 V1.sg
    | 13 => ∃ gs13, v = .pointer (some ⟨gs13, 0, none⟩) ∧ w.heap[gs13]? = some (.cells #[.int .i64 V1.t.1, .int .u64 V1.t.2.1, .int .i64 V1.t.2.2.1, .int .i64 V1.t.2.2.2] 37 (0, 0)) ∧ B ≤ gs13
    | 14 => v = .int .i64 V1.cd
    | 15 => w.heap[(G + 1 + 1 + 1)]? = some (.cells #[.int .i64 sc, .int .u64 x, .int .i64 h, .int .i64 n] 37 (0, 0)) ∧ G + 1 + 1 + 1 < B
    | _ => w.heap[(G + 1)]? = some (.cells #[.int .i64 hl, .int .i64 hs, .int .u64 hr, .int .i64 ha, .slice ag ng cg] 41 (0, 0))
set_option linter.unusedVariables false in
theorem w4Sp_stb (wl ws wr hl hs hr ha : Int) (ag : Option Addr) (ng cg : Nat) (sc x h n at2 : Int) (bd : List Int) (V1 : AsV) (G B : Nat) (k : Nat) (hk : k < 17) : StB ((w4Sp wl ws wr hl hs hr ha ag ng cg sc x h n at2 bd V1 G (B)).fact k) := by
  match k, hk with
  | 0, _ => exact fun _ _ _ h _ => h
  | 1, _ => exact fun _ _ _ h _ => h
  | 2, _ => exact fun _ _ _ h _ => h
  | 3, _ => exact fun _ _ _ ⟨a1, c1, hv, q_0⟩ hb => ⟨a1, c1, hv, q_0.kept hb⟩
  | 4, _ => exact fun _ _ _ ⟨a2, c2, hv, q_0⟩ hb => ⟨a2, c2, hv, q_0.kept hb⟩
  | 5, _ => exact fun _ _ _ ⟨a2, c2, hv, q_0⟩ hb => ⟨a2, c2, hv, q_0.kept hb⟩
  | 6, _ => exact fun _ _ _ h _ => h
  | 7, _ => exact fun _ _ _ ⟨a2, c2, hv, q_0⟩ hb => ⟨a2, c2, hv, q_0.kept hb⟩
  | 8, _ => exact fun _ _ _ h _ => h
  | 9, _ => exact fun _ _ _ h _ => h
  | 10, _ => exact fun _ _ _ ⟨gb10, hv, q_0, q_1⟩ hb => ⟨gb10, hv, below_kept q_0 hb, q_1⟩
  | 11, _ => exact fun _ _ _ h _ => h
  | 12, _ => exact fun _ _ _ ⟨a2, c2, hv, q_0⟩ hb => ⟨a2, c2, hv, q_0.kept hb⟩
  | 13, _ => exact fun _ _ _ ⟨gs13, hv, q_0, q_1⟩ hb => ⟨gs13, hv, below_kept q_0 hb, q_1⟩
  | 14, _ => exact fun _ _ _ h _ => h
  | 15, _ => exact fun _ _ _ ⟨q_0, q_1⟩ hb => ⟨below_kept q_0 hb, q_1⟩
  | 16, _ => exact fun _ _ _ q_0 hb => below_kept q_0 hb
  | k + 17, hk => omega
set_option linter.unusedVariables false in
theorem w4Sp_st13 (wl ws wr hl hs hr ha : Int) (ag : Option Addr) (ng cg : Nat) (sc x h n at2 : Int) (bd : List Int) (V1 : AsV) (G B : Nat) {W W2 : World} {g : Nat} {cs : Array Value} {fr : Nat × Nat} (hg : W.heap[g]? = some (.cells cs 37 fr)) (ht : Touch (g) (g + 1) W W2) (hge : B ≤ g) (k : Nat) (hk : k < 17) (hne : k ≠ 13) (hkill : 13 ∉ (w4Sp wl ws wr hl hs hr ha ag ng cg sc x h n at2 bd V1 G (B)).kill k) (v : Value) (hfact : (w4Sp wl ws wr hl hs hr ha ag ng cg sc x h n at2 bd V1 G (B)).fact k v W) : (w4Sp wl ws wr hl hs hr ha ag ng cg sc x h n at2 bd V1 G (B)).fact k v W2 := by
  match k, hk, hne, hkill, hfact with
  | 0, _, _, _, hq => exact hq
  | 1, _, _, _, hq => exact hq
  | 2, _, _, _, hq => exact hq
  | 3, _, _, _, ⟨a1, c1, hv, q_0⟩ => exact ⟨a1, c1, hv, ⟨ownsRow_box q_0.row hg (by decide) ht, q_0.byte⟩⟩
  | 4, _, _, _, ⟨a2, c2, hv, q_0⟩ => exact ⟨a2, c2, hv, ⟨ownsRow_box q_0.row hg (by decide) ht, q_0.byte⟩⟩
  | 5, _, _, _, ⟨a2, c2, hv, q_0⟩ => exact ⟨a2, c2, hv, ⟨ownsRow_box q_0.row hg (by decide) ht, q_0.byte⟩⟩
  | 6, _, _, _, hq => exact hq
  | 7, _, _, _, ⟨a2, c2, hv, q_0⟩ => exact ⟨a2, c2, hv, ⟨ownsRow_box q_0.row hg (by decide) ht, q_0.byte⟩⟩
  | 8, _, _, _, hq => exact hq
  | 9, _, _, _, hq => exact hq
  | 10, _, _, hkill, _ => exact absurd (List.Mem.head _) hkill
  | 11, _, _, _, hq => exact hq
  | 12, _, _, _, ⟨a2, c2, hv, q_0⟩ => exact ⟨a2, c2, hv, ⟨ownsRow_box q_0.row hg (by decide) ht, q_0.byte⟩⟩
  | 13, _, hne, _, _ => exact absurd rfl hne
  | 14, _, _, _, hq => exact hq
  | 15, _, _, _, ⟨q_0, q_1⟩ => exact ⟨(ht.block _ (Array.getElem?_eq_some_iff.1 q_0).1 (by omega)).trans q_0, q_1⟩
  | 16, _, _, _, q_0 => exact box_box q_0 hg (by decide) ht
  | k + 17, hk, _, _, _ => omega
/-- What is known of a region (RJ). -/
def w7Sp (hl hs hr ha : Int) (ag : Option Addr) (ng cg : Nat) (at2 : Int) (V1 : AsV) (a2 : Option Addr) (c2 gs G B : Nat) : RSpec where
  m := 16
  n := 22
  slots := [49, 50, 51, 52, 53, 54, 55, 56, 57, 58, 59, 60, 100012, 100013, 100014, 15, 100016, 100017, 100018, 100019, 100020, 100021]
  kills := [[], [], [], [], [], [], [], [], [], [], [], [], [], [], [], [], [12], [13], [14], [], [], []]
  pres := [[], [], [], [], [], [], [], [], [], [], [], [], [], [], [], [], [], [], [], [], [], []]
  fact := fun k v w => match k with
    | 0 => v = .pointer (some ⟨(G + 1), 0, none⟩)
    | 1 => v = .int .i64 hl
    | 2 => v = .pointer (some ⟨(G + 1), 1, none⟩)
    | 3 => v = .int .i64 hs
    | 4 => v = .pointer (some ⟨(G + 1), 2, none⟩)
    | 5 => v = .int .u64 hr
    | 6 => v = .agg #[.int .i64 hl, .int .i64 hs, .int .u64 hr]
    | 7 => v = .int .u64 V1.k
    | 8 => v = .int .i64 at2
    | 9 => v = .slice a2 V1.sg.length c2
    | 10 => v = .agg #[.int .u64 V1.k, .int .i64 at2, .slice a2 V1.sg.length c2]
    | 11 => v = .agg #[.int .i64 V1.t.1, .int .u64 V1.t.2.1, .int .i64 V1.t.2.2.1, .int .i64 V1.t.2.2.2]
    | 12 => w.heap[(G + 1 + 1 + 1 + 1)]? = some (.cells #[.int .i64 hl, .int .i64 hs, .int .u64 hr] 34 (0, 0))
    | 13 => w.heap[(G + 1 + 1 + 1 + 1 + 1)]? = some (.cells #[.int .u64 V1.k, .int .i64 at2, .slice a2 V1.sg.length c2] 36 (0, 0))
    | 14 => w.heap[(G + 1 + 1 + 1 + 1 + 1 + 1)]? = some (.cells #[.int .i64 V1.t.1, .int .u64 V1.t.2.1, .int .i64 V1.t.2.2.1, .int .i64 V1.t.2.2.2] 37 (0, 0))
    | 15 => v = .int .i64 0
    | 16 => w.heap[(G + 1 + 1 + 1 + 1)]? = some (.cells #[.int .i64 0, .int .i64 0, .int .u64 0] 34 (0, 0))
    | 17 => w.heap[(G + 1 + 1 + 1 + 1 + 1)]? = some (.cells #[.int .u64 0, .int .i64 0, .slice none 0 0] 36 (0, 0))
    | 18 => w.heap[(G + 1 + 1 + 1 + 1 + 1 + 1)]? = some (.cells #[.int .i64 0, .int .u64 0, .int .i64 0, .int .i64 0] 37 (0, 0))
    | 19 => w.heap[(G + 1)]? = some (.cells #[.int .i64 hl, .int .i64 hs, .int .u64 hr, .int .i64 ha, .slice ag ng cg] 41 (0, 0))
    | 20 => w.heap[gs]? = some (.cells #[.int .i64 V1.t.1, .int .u64 V1.t.2.1, .int .i64 V1.t.2.2.1, .int .i64 V1.t.2.2.2] 37 (0, 0)) ∧ gs ≠ G + 1 + 1 + 1 + 1 + 1 + 1
    | _ => Own B w a2 V1.sg.length c2 V1.sg
set_option linter.unusedVariables false in
theorem w7Sp_stb (hl hs hr ha : Int) (ag : Option Addr) (ng cg : Nat) (at2 : Int) (V1 : AsV) (a2 : Option Addr) (c2 gs G B : Nat) (k : Nat) (hk : k < 22) : StB ((w7Sp hl hs hr ha ag ng cg at2 V1 a2 c2 gs G (B)).fact k) := by
  match k, hk with
  | 0, _ => exact fun _ _ _ h _ => h
  | 1, _ => exact fun _ _ _ h _ => h
  | 2, _ => exact fun _ _ _ h _ => h
  | 3, _ => exact fun _ _ _ h _ => h
  | 4, _ => exact fun _ _ _ h _ => h
  | 5, _ => exact fun _ _ _ h _ => h
  | 6, _ => exact fun _ _ _ h _ => h
  | 7, _ => exact fun _ _ _ h _ => h
  | 8, _ => exact fun _ _ _ h _ => h
  | 9, _ => exact fun _ _ _ h _ => h
  | 10, _ => exact fun _ _ _ h _ => h
  | 11, _ => exact fun _ _ _ h _ => h
  | 12, _ => exact fun _ _ _ q_0 hb => below_kept q_0 hb
  | 13, _ => exact fun _ _ _ q_0 hb => below_kept q_0 hb
  | 14, _ => exact fun _ _ _ q_0 hb => below_kept q_0 hb
  | 15, _ => exact fun _ _ _ h _ => h
  | 16, _ => exact fun _ _ _ q_0 hb => below_kept q_0 hb
  | 17, _ => exact fun _ _ _ q_0 hb => below_kept q_0 hb
  | 18, _ => exact fun _ _ _ q_0 hb => below_kept q_0 hb
  | 19, _ => exact fun _ _ _ q_0 hb => below_kept q_0 hb
  | 20, _ => exact fun _ _ _ ⟨q_0, q_1⟩ hb => ⟨below_kept q_0 hb, q_1⟩
  | 21, _ => exact fun _ _ _ q_0 hb => q_0.kept hb
  | k + 22, hk => omega
set_option linter.unusedVariables false in
theorem w7Sp_st12 (hl hs hr ha : Int) (ag : Option Addr) (ng cg : Nat) (at2 : Int) (V1 : AsV) (a2 : Option Addr) (c2 gs G B : Nat) {W W2 : World} {cs : Array Value} {fr : Nat × Nat} (hg : W.heap[(G + 1 + 1 + 1 + 1)]? = some (.cells cs 34 fr)) (ht : Touch ((G + 1 + 1 + 1 + 1)) ((G + 1 + 1 + 1 + 1) + 1) W W2) (k : Nat) (hk : k < 22) (hne : k ≠ 12) (hkill : 12 ∉ (w7Sp hl hs hr ha ag ng cg at2 V1 a2 c2 gs G (B)).kill k) (v : Value) (hfact : (w7Sp hl hs hr ha ag ng cg at2 V1 a2 c2 gs G (B)).fact k v W) : (w7Sp hl hs hr ha ag ng cg at2 V1 a2 c2 gs G (B)).fact k v W2 := by
  match k, hk, hne, hkill, hfact with
  | 0, _, _, _, hq => exact hq
  | 1, _, _, _, hq => exact hq
  | 2, _, _, _, hq => exact hq
  | 3, _, _, _, hq => exact hq
  | 4, _, _, _, hq => exact hq
  | 5, _, _, _, hq => exact hq
  | 6, _, _, _, hq => exact hq
  | 7, _, _, _, hq => exact hq
  | 8, _, _, _, hq => exact hq
  | 9, _, _, _, hq => exact hq
  | 10, _, _, _, hq => exact hq
  | 11, _, _, _, hq => exact hq
  | 12, _, hne, _, _ => exact absurd rfl hne
  | 13, _, _, _, q_0 => exact box_box q_0 hg (by decide) ht
  | 14, _, _, _, q_0 => exact box_box q_0 hg (by decide) ht
  | 15, _, _, _, hq => exact hq
  | 16, _, _, hkill, _ => exact absurd (List.Mem.head _) hkill
  | 17, _, _, _, q_0 => exact box_box q_0 hg (by decide) ht
  | 18, _, _, _, q_0 => exact box_box q_0 hg (by decide) ht
  | 19, _, _, _, q_0 => exact box_box q_0 hg (by decide) ht
  | 20, _, _, _, ⟨q_0, q_1⟩ => exact ⟨box_box q_0 hg (by decide) ht, q_1⟩
  | 21, _, _, _, q_0 => exact ⟨ownsRow_box q_0.row hg (by decide) ht, q_0.byte⟩
  | k + 22, hk, _, _, _ => omega
set_option linter.unusedVariables false in
theorem w7Sp_st13 (hl hs hr ha : Int) (ag : Option Addr) (ng cg : Nat) (at2 : Int) (V1 : AsV) (a2 : Option Addr) (c2 gs G B : Nat) {W W2 : World} {cs : Array Value} {fr : Nat × Nat} (hg : W.heap[(G + 1 + 1 + 1 + 1 + 1)]? = some (.cells cs 36 fr)) (ht : Touch ((G + 1 + 1 + 1 + 1 + 1)) ((G + 1 + 1 + 1 + 1 + 1) + 1) W W2) (k : Nat) (hk : k < 22) (hne : k ≠ 13) (hkill : 13 ∉ (w7Sp hl hs hr ha ag ng cg at2 V1 a2 c2 gs G (B)).kill k) (v : Value) (hfact : (w7Sp hl hs hr ha ag ng cg at2 V1 a2 c2 gs G (B)).fact k v W) : (w7Sp hl hs hr ha ag ng cg at2 V1 a2 c2 gs G (B)).fact k v W2 := by
  match k, hk, hne, hkill, hfact with
  | 0, _, _, _, hq => exact hq
  | 1, _, _, _, hq => exact hq
  | 2, _, _, _, hq => exact hq
  | 3, _, _, _, hq => exact hq
  | 4, _, _, _, hq => exact hq
  | 5, _, _, _, hq => exact hq
  | 6, _, _, _, hq => exact hq
  | 7, _, _, _, hq => exact hq
  | 8, _, _, _, hq => exact hq
  | 9, _, _, _, hq => exact hq
  | 10, _, _, _, hq => exact hq
  | 11, _, _, _, hq => exact hq
  | 12, _, _, _, q_0 => exact box_box q_0 hg (by decide) ht
  | 13, _, hne, _, _ => exact absurd rfl hne
  | 14, _, _, _, q_0 => exact box_box q_0 hg (by decide) ht
  | 15, _, _, _, hq => exact hq
  | 16, _, _, _, q_0 => exact box_box q_0 hg (by decide) ht
  | 17, _, _, hkill, _ => exact absurd (List.Mem.head _) hkill
  | 18, _, _, _, q_0 => exact box_box q_0 hg (by decide) ht
  | 19, _, _, _, q_0 => exact box_box q_0 hg (by decide) ht
  | 20, _, _, _, ⟨q_0, q_1⟩ => exact ⟨box_box q_0 hg (by decide) ht, q_1⟩
  | 21, _, _, _, q_0 => exact ⟨ownsRow_box q_0.row hg (by decide) ht, q_0.byte⟩
  | k + 22, hk, _, _, _ => omega
set_option linter.unusedVariables false in
theorem w7Sp_st14 (hl hs hr ha : Int) (ag : Option Addr) (ng cg : Nat) (at2 : Int) (V1 : AsV) (a2 : Option Addr) (c2 gs G B : Nat) {W W2 : World} {cs : Array Value} {fr : Nat × Nat} (hg : W.heap[(G + 1 + 1 + 1 + 1 + 1 + 1)]? = some (.cells cs 37 fr)) (ht : Touch ((G + 1 + 1 + 1 + 1 + 1 + 1)) ((G + 1 + 1 + 1 + 1 + 1 + 1) + 1) W W2) (k : Nat) (hk : k < 22) (hne : k ≠ 14) (hkill : 14 ∉ (w7Sp hl hs hr ha ag ng cg at2 V1 a2 c2 gs G (B)).kill k) (v : Value) (hfact : (w7Sp hl hs hr ha ag ng cg at2 V1 a2 c2 gs G (B)).fact k v W) : (w7Sp hl hs hr ha ag ng cg at2 V1 a2 c2 gs G (B)).fact k v W2 := by
  match k, hk, hne, hkill, hfact with
  | 0, _, _, _, hq => exact hq
  | 1, _, _, _, hq => exact hq
  | 2, _, _, _, hq => exact hq
  | 3, _, _, _, hq => exact hq
  | 4, _, _, _, hq => exact hq
  | 5, _, _, _, hq => exact hq
  | 6, _, _, _, hq => exact hq
  | 7, _, _, _, hq => exact hq
  | 8, _, _, _, hq => exact hq
  | 9, _, _, _, hq => exact hq
  | 10, _, _, _, hq => exact hq
  | 11, _, _, _, hq => exact hq
  | 12, _, _, _, q_0 => exact box_box q_0 hg (by decide) ht
  | 13, _, _, _, q_0 => exact box_box q_0 hg (by decide) ht
  | 14, _, hne, _, _ => exact absurd rfl hne
  | 15, _, _, _, hq => exact hq
  | 16, _, _, _, q_0 => exact box_box q_0 hg (by decide) ht
  | 17, _, _, _, q_0 => exact box_box q_0 hg (by decide) ht
  | 18, _, _, hkill, _ => exact absurd (List.Mem.head _) hkill
  | 19, _, _, _, q_0 => exact box_box q_0 hg (by decide) ht
  | 20, _, _, _, ⟨q_0, q_1⟩ => exact ⟨(ht.block _ (Array.getElem?_eq_some_iff.1 q_0).1 (by omega)).trans q_0, q_1⟩
  | 21, _, _, _, q_0 => exact ⟨ownsRow_box q_0.row hg (by decide) ht, q_0.byte⟩
  | k + 22, hk, _, _, _ => omega

set_option maxRecDepth 10000 in
set_option maxHeartbeats 8000000 in
theorem implWatch_any (wl ws wr hl hs hr ha : Int) (ag : Option Addr) (ng cg : Nat) (ss : List Int) (ps py ph : Int) (ap : Option Addr) (np cp : Nat) (zs : List Int) (at2 sc x h n : Int) (w : World)
    (hwr : U64 wr) (hhr : U64 hr) (hpy : U64 py) (hx : U64 x) (hhl : -9223372036854775808 ≤ hl ∧ hl ≤ 9223372036854775807) (hhs : -9223372036854775808 ≤ hs ∧ hs ≤ 9223372036854775807) (hat : -9223372036854775808 ≤ at2 ∧ at2 ≤ 9223372036854775807) (hg : Row w ag ng ss) (hng : ng ≤ 1048576) (hcg : ng ≤ cg) (hp : RowU w ap np zs) (hcp : np ≤ cp) (hcm : cp ≤ 9223372036854775807) :
    Calls Tryz.prog 11 #[.agg #[.int .i64 wl, .int .i64 ws, .int .u64 wr], .agg #[.int .i64 hl, .int .i64 hs, .int .u64 hr, .int .i64 ha, .slice ag ng cg], .slice ap np cp, .agg #[.int .i64 ps, .int .u64 py, .int .i64 ph], .int .i64 at2, .agg #[.int .i64 sc, .int .u64 x, .int .i64 h, .int .i64 n]] w fun e w' => ∃ a2 c2, e = .returned (wtOut (wtV wl ws wr hl hs hr ha ss ps py ph zs at2 sc x h n) a2 c2) ∧ Own w.heap.size w' a2 (wtV wl ws wr hl hs hr ha ss ps py ph zs at2 sc x h n).sg.length c2 (wtV wl ws wr hl hs hr ha ss ps py ph zs at2 sc x h n).sg ∧ Below w.heap.size w w' := by
  obtain ⟨V, hV⟩ : ∃ V, V = (wtV wl ws wr hl hs hr ha ss ps py ph zs at2 sc x h n) := ⟨_, rfl⟩
  obtain ⟨C, hC⟩ : ∃ C, C = refC wl ws wr hl hs hr ha ss ps py ph zs at2 := ⟨_, rfl⟩
  obtain ⟨bd, hbd⟩ : ∃ bd, bd = bodyOf 7 hl hs hr at2 := ⟨_, rfl⟩
  obtain ⟨V1, hV1⟩ : ∃ V1, V1 = asV sc x h n bd := ⟨_, rfl⟩
  obtain ⟨hE, hEl⟩ := bodyOf_enc 7 hl hs hr at2 (by decide) (by decide)
  rw [← hbd] at hE hEl
  have HV : Hid (V = if C = 0 then (if V1.cd = 0 then ⟨hl, hs, hr, V1.k, at2, V1.sg, V1.t, 0⟩ else wtBad V1.cd) else wtBad C) := by show _ = _; rw [hV]; unfold wtV; rw [← hC, ← hbd, ← hV1]
  have HRF : Hid (∀ W, Row W ag ng ss → RowU W ap np zs → Calls Tryz.prog 31 #[.agg #[.int .i64 wl, .int .i64 ws, .int .u64 wr], .agg #[.int .i64 hl, .int .i64 hs, .int .u64 hr, .int .i64 ha, .slice ag ng cg], .slice ap np cp, .agg #[.int .i64 ps, .int .u64 py, .int .i64 ph], .int .i64 at2] W fun e w' => e = .returned (.int .i64 C) ∧ Below W.heap.size W w') := by
    intro W h1 h2
    rw [hC]
    exact refusal_any wl ws wr hl hs hr ha ag ng cg ss ps py ph ap np cp zs at2 W hwr hhr hpy h1 hng hcg h2 hcp hcm
  have HHB : Hid (∀ W, Calls Tryz.prog 33 #[.int .i64 7, .agg #[.int .i64 hl, .int .i64 hs, .int .u64 hr, .int .i64 ha, .slice ag ng cg], .int .i64 at2] W fun e w' => ∃ a' c', e = .returned (.slice a' bd.length c') ∧ Own W.heap.size w' a' bd.length c' bd ∧ Below W.heap.size W w') := by
    intro W
    exact headBody_agg 7 hl hs hr at2 ha ag ng cg bd W hhl hhs hhr hat hE
  have HAS : Hid (∀ W am c, Row W am bd.length bd → (am = none → c = 0) → Calls Tryz.prog 32 #[.agg #[.int .i64 sc, .int .u64 x, .int .i64 h, .int .i64 n], .slice am bd.length c] W fun e w' => ∃ a cap, e = .returned (.tuple #[.int .u64 V1.k, .slice a V1.sg.length cap, .agg #[.int .i64 V1.t.1, .int .u64 V1.t.2.1, .int .i64 V1.t.2.2.1, .int .i64 V1.t.2.2.2], .int .i64 V1.cd]) ∧ Own W.heap.size w' a V1.sg.length cap V1.sg ∧ Below W.heap.size W w') := by
    intro W am c h1 h2
    rw [hV1]
    exact signAs_any sc x h n am bd.length c bd W hx h1 (by omega) h2
  rw [← hV]
  clear hV hC hbd hV1 hE hEl
  obtain ⟨w1, hw1⟩ : ∃ w1, w1 = ((((((w.alloc (.cells #[.int .i64 wl, .int .i64 ws, .int .u64 wr] 34)).alloc (.cells #[.int .i64 hl, .int .i64 hs, .int .u64 hr, .int .i64 ha, .slice ag ng cg] 41)).alloc (.cells #[.int .i64 ps, .int .u64 py, .int .i64 ph] 44)).alloc (.cells #[.int .i64 sc, .int .u64 x, .int .i64 h, .int .i64 n] 37)).alloc (.cells #[.int .i64 0, .int .i64 0, .int .u64 0] 34)).alloc (.cells #[.int .u64 0, .int .i64 0, .slice none 0 0] 36)).alloc (.cells #[.int .i64 0, .int .u64 0, .int .i64 0, .int .i64 0] 37) := ⟨_, rfl⟩
  obtain ⟨hb1, hbb⟩ := bxw_new w wl ws wr hl hs hr ha ag ng cg ps py ph sc x h n
  rw [← hw1] at hb1 hbb
  have HB1 : Hid (BxW w.heap.size wl ws wr hl hs hr ha ag ng cg ps py ph sc x h n w1) := hb1
  have HG : Hid (Row w1 ag ng ss ∧ RowU w1 ap np zs) := ⟨hg.kept hbb, hp.kept hbb⟩
  have HW : Hid (_ = _) := hw1
  clear hw1 hb1 hg hp
  go_enter Tryz.func11, Tryz.ntmps11
  go_upto_region 1 with fail
  rw [← HW.out]
  clear HW
  obtain ⟨a0, a1, a2⟩ := cells3w HB1.out.fw
  obtain ⟨b0, b1, b2, b3, b4⟩ := cells5w HB1.out.fh
  obtain ⟨d0, d1, d2⟩ := cells3w HB1.out.fp
  go_wp2_with fail
  refine (HRF.out w1 HG.out.1 HG.out.2).mono ?_
  rintro e w2 ⟨rfl, hb2⟩
  clear a0 a1 a2 b0 b1 b2 b3 b4 d0 d1 d2
  have hc2 := keepT hbb hb2
  have HB2 : Hid (_) := HB1.out.kept hb2
  have hl6 : w.heap.size + 1 + 1 + 1 + 1 + 1 + 1 < w2.heap.size := (Array.getElem?_eq_some_iff.1 HB2.out.frs).1
  clear HB1 HG hb2 hbb
  by_cases hc0 : C = 0
  case neg =>
    have HF := (show Hid (V = wtBad C) by show _ = _; rw [HV.out, if_neg hc0])
    have z0 : (C != 0) = true := by simp [hc0]
    go_upto_region 3 with fail
    have HBB : w.heap.size ≤ w2.heap.size := by omega
    refine wp_region_rp (wzA C w.heap.size (w.heap.size)) [15, 29, 30, 31, 32] (w.heap.size) (fun a0 => a0.tmps.size = 61 ∧ aT a0 12 = .pointer (some ⟨(w.heap.size + 1 + 1 + 1 + 1), 0, none⟩) ∧ aT a0 13 = .pointer (some ⟨(w.heap.size + 1 + 1 + 1 + 1 + 1), 0, none⟩) ∧ aT a0 14 = .pointer (some ⟨(w.heap.size + 1 + 1 + 1 + 1 + 1 + 1), 0, none⟩) ∧ aT a0 16 = .int .i64 C) rfl (by kernel_rfl) rfl ⟨rfl, rfl, rfl, rfl, rfl⟩ (wzA_stb C w.heap.size (w.heap.size)) ?_ ?_ ?_
    · intro k hk hk2
      match k, hk, hk2 with
      | 8, _, _ => exact HB2.out.frw
      | 9, _, _ => exact HB2.out.frc
      | 10, _, _ => exact HB2.out.frs
      | 0, hk, _ => exact absurd hk (by show ¬ (8 ≤ 0); omega)
      | 1, hk, _ => exact absurd hk (by show ¬ (8 ≤ 1); omega)
      | 2, hk, _ => exact absurd hk (by show ¬ (8 ≤ 2); omega)
      | 3, hk, _ => exact absurd hk (by show ¬ (8 ≤ 3); omega)
      | 4, hk, _ => exact absurd hk (by show ¬ (8 ≤ 4); omega)
      | 5, hk, _ => exact absurd hk (by show ¬ (8 ≤ 5); omega)
      | 6, hk, _ => exact absurd hk (by show ¬ (8 ≤ 6); omega)
      | 7, hk, _ => exact absurd hk (by show ¬ (8 ≤ 7); omega)
      | k + 11, _, hk2 => exact absurd hk2 (by show ¬ (k + 11 < 11); omega)
    · rintro a0 ⟨hz, g12, g13, g14, g16⟩
      refine StepsRI.cons ?_ (StepsRI.cons ?_ (StepsRI.cons ?_ (StepsRI.cons ?_ (StepsRI.cons ?_ (StepsRI.cons ?_ (StepsRI.cons ?_ (StepsRI.cons ?_ (StepsRI.nil))))))))
      · intro lQ b W hI hUN hED KQ hKQ
        refine opw_build 34 _ rfl #[] (by simp []) (.agg #[.int .i64 0, .int .i64 0, .int .u64 0]) (by kernel_rfl) ?_
        exact hKQ.out _ _ (hI.put 0 29 rfl rfl (by rw [hz]; decide) rfl hUN rfl HBB (wzA_stb C w.heap.size (w.heap.size)) (Below.refl _ _) rfl)
      · intro lQ b W hI hUN hED KQ hKQ
        refine opw_build 36 _ rfl #[] (by simp []) (.agg #[.int .u64 0, .int .i64 0, .slice none 0 0]) (by kernel_rfl) ?_
        exact hKQ.out _ _ (hI.put 1 30 rfl rfl (by rw [hz]; decide) rfl hUN rfl HBB (wzA_stb C w.heap.size (w.heap.size)) (Below.refl _ _) rfl)
      · intro lQ b W hI hUN hED KQ hKQ
        refine opw_build 37 _ rfl #[] (by simp []) (.agg #[.int .i64 0, .int .u64 0, .int .i64 0, .int .i64 0]) (by kernel_rfl) ?_
        exact hKQ.out _ _ (hI.put 2 31 rfl rfl (by rw [hz]; decide) rfl hUN rfl HBB (wzA_stb C w.heap.size (w.heap.size)) (Below.refl _ _) rfl)
      · intro lQ b W hI hUN hED KQ hKQ
        exact opw_move 16 rfl (hKQ.out _ _ (hI.put 3 32 rfl rfl (by rw [hz]; decide) rfl hUN rfl HBB (wzA_stb C w.heap.size (w.heap.size)) (Below.refl _ _) ((hI.fr.same 16 (by decide)).trans g16)))
      · intro lQ b W hI hUN hED KQ hKQ
        have hgb := (hI.vot1 8 4 (of_decide_eq_true rfl) (of_decide_eq_true rfl) hUN rfl)
        have fb := ((hI.fr.same 12 (by decide)).trans g12)
        have f := hI.got 0 (of_decide_eq_true rfl) (edge hED 0 (by kernel_rfl)) rfl
        refine wp_store_row 34 _ _ rfl ((w.heap.size + 1 + 1 + 1 + 1)) #[.int .i64 0, .int .i64 0, .int .u64 0] fb f 34 _ hgb (by kernel_rfl) rfl (by simp [Value.oneCell']) ?_
        have ht := setRow_touch W ((w.heap.size + 1 + 1 + 1 + 1)) #[.int .i64 0, .int .i64 0, .int .u64 0]
        exact hKQ.out _ _ (hI.store 4 (fun j hj => by cases hj) (hI.bel.trans (ht.below (by first | exact HGE12 | omega) (Nat.le_trans HBB hI.bel.size))) (wzA_st4 C w.heap.size (w.heap.size) hgb ht) (setRow_heap W ((w.heap.size + 1 + 1 + 1 + 1)) _ _ _ _ hgb))
      · intro lQ b W hI hUN hED KQ hKQ
        have hgb := (hI.vot1 9 5 (of_decide_eq_true rfl) (of_decide_eq_true rfl) hUN rfl)
        have fb := ((hI.fr.same 13 (by decide)).trans g13)
        have f := hI.got 1 (of_decide_eq_true rfl) (edge hED 1 (by kernel_rfl)) rfl
        refine wp_store_row 36 _ _ rfl ((w.heap.size + 1 + 1 + 1 + 1 + 1)) #[.int .u64 0, .int .i64 0, .slice none 0 0] fb f 36 _ hgb (by kernel_rfl) rfl (by simp [Value.oneCell']) ?_
        have ht := setRow_touch W ((w.heap.size + 1 + 1 + 1 + 1 + 1)) #[.int .u64 0, .int .i64 0, .slice none 0 0]
        exact hKQ.out _ _ (hI.store 5 (fun j hj => by cases hj) (hI.bel.trans (ht.below (by first | exact HGE13 | omega) (Nat.le_trans HBB hI.bel.size))) (wzA_st5 C w.heap.size (w.heap.size) hgb ht) (setRow_heap W ((w.heap.size + 1 + 1 + 1 + 1 + 1)) _ _ _ _ hgb))
      · intro lQ b W hI hUN hED KQ hKQ
        have hgb := (hI.vot1 10 6 (of_decide_eq_true rfl) (of_decide_eq_true rfl) hUN rfl)
        have fb := ((hI.fr.same 14 (by decide)).trans g14)
        have f := hI.got 2 (of_decide_eq_true rfl) (edge hED 2 (by kernel_rfl)) rfl
        refine wp_store_row 37 _ _ rfl ((w.heap.size + 1 + 1 + 1 + 1 + 1 + 1)) #[.int .i64 0, .int .u64 0, .int .i64 0, .int .i64 0] fb f 37 _ hgb (by kernel_rfl) rfl (by simp [Value.oneCell']) ?_
        have ht := setRow_touch W ((w.heap.size + 1 + 1 + 1 + 1 + 1 + 1)) #[.int .i64 0, .int .u64 0, .int .i64 0, .int .i64 0]
        exact hKQ.out _ _ (hI.store 6 (fun j hj => by cases hj) (hI.bel.trans (ht.below (by first | exact HGE14 | omega) (Nat.le_trans HBB hI.bel.size))) (wzA_st6 C w.heap.size (w.heap.size) hgb ht) (setRow_heap W ((w.heap.size + 1 + 1 + 1 + 1 + 1 + 1)) _ _ _ _ hgb))
      · intro lQ b W hI hUN hED KQ hKQ
        have f := hI.got 3 (of_decide_eq_true rfl) (edge hED 3 (by kernel_rfl)) rfl
        exact opw_assign 32 rfl (hKQ.out _ _ (hI.put 7 15 rfl rfl (by rw [hz]; decide) rfl hUN rfl HBB (wzA_stb C w.heap.size (w.heap.size)) (Below.refl _ _) f))
    · intro b W hf hb F
      have e0 := F 4 (of_decide_eq_true rfl) rfl
      have e1 := F 5 (of_decide_eq_true rfl) rfl
      have e2 := F 6 (of_decide_eq_true rfl) rfl
      have e3 := F 7 (of_decide_eq_true rfl) rfl
      replace e3 : aT b 15 = _ := e3
      rw [hf.eq]
      simp only [puts, Act.put, List.setIfInBounds_toArray, List.set_cons_zero, List.set_cons_succ, e3]
      clear hf F
      go_wp2
      try simp only [Exit.inBlock, Exit.then]
      exact bodyPost_ret (results_wt rfl _ (w.heap.size + 1 + 1 + 1 + 1) (w.heap.size + 1 + 1 + 1 + 1 + 1) (w.heap.size + 1 + 1 + 1 + 1 + 1 + 1) rfl rfl rfl _ rfl _ _ _ _ e0 e1 e2 rfl rfl rfl) rfl ⟨none, 0, by rw [HF.out]; rfl, by rw [HF.out]; exact own_none _ _, hc2.trans hb⟩
  case pos =>
    have HV1 := (show Hid (V = if V1.cd = 0 then ⟨hl, hs, hr, V1.k, at2, V1.sg, V1.t, 0⟩ else wtBad V1.cd) by show _ = _; rw [HV.out, if_pos hc0])
    have z0 : (C != 0) = false := by simp [hc0]
    clear hc0
    go_upto_region 4 with fail
    have HBB : w2.heap.size ≤ w2.heap.size := Nat.le_refl _
    refine wp_region_ri (w4Sp wl ws wr hl hs hr ha ag ng cg sc x h n at2 bd V1 w.heap.size (w2.heap.size)) [17, 18, 19, 20, 33, 34, 35, 36, 37, 38, 39, 40, 41, 42] (w2.heap.size) (fun a0 => a0.tmps.size = 61 ∧ aT a0 4 = .int .i64 at2 ∧ aT a0 7 = .pointer (some ⟨(w.heap.size + 1), 0, none⟩) ∧ aT a0 11 = .pointer (some ⟨(w.heap.size + 1 + 1 + 1), 0, none⟩)) (by kernel_rfl) rfl (by kernel_rfl) rfl ⟨rfl, rfl, rfl, rfl⟩ (w4Sp_stb wl ws wr hl hs hr ha ag ng cg sc x h n at2 bd V1 w.heap.size (w2.heap.size)) ?_ ?_ ?_
    · intro k hk hk2
      match k, hk, hk2 with
      | 15, _, _ => exact ⟨HB2.out.fs, by omega⟩
      | 16, _, _ => exact HB2.out.fh
      | 0, hk, _ => exact absurd hk (by show ¬ (15 ≤ 0); omega)
      | 1, hk, _ => exact absurd hk (by show ¬ (15 ≤ 1); omega)
      | 2, hk, _ => exact absurd hk (by show ¬ (15 ≤ 2); omega)
      | 3, hk, _ => exact absurd hk (by show ¬ (15 ≤ 3); omega)
      | 4, hk, _ => exact absurd hk (by show ¬ (15 ≤ 4); omega)
      | 5, hk, _ => exact absurd hk (by show ¬ (15 ≤ 5); omega)
      | 6, hk, _ => exact absurd hk (by show ¬ (15 ≤ 6); omega)
      | 7, hk, _ => exact absurd hk (by show ¬ (15 ≤ 7); omega)
      | 8, hk, _ => exact absurd hk (by show ¬ (15 ≤ 8); omega)
      | 9, hk, _ => exact absurd hk (by show ¬ (15 ≤ 9); omega)
      | 10, hk, _ => exact absurd hk (by show ¬ (15 ≤ 10); omega)
      | 11, hk, _ => exact absurd hk (by show ¬ (15 ≤ 11); omega)
      | 12, hk, _ => exact absurd hk (by show ¬ (15 ≤ 12); omega)
      | 13, hk, _ => exact absurd hk (by show ¬ (15 ≤ 13); omega)
      | 14, hk, _ => exact absurd hk (by show ¬ (15 ≤ 14); omega)
      | k + 17, _, hk2 => exact absurd hk2 (by show ¬ (k + 17 < 17); omega)
    · rintro a0 ⟨hz, g4, g7, g11⟩
      refine StepsRI.cons ?_ (StepsRI.cons ?_ (StepsRI.cons ?_ (StepsRI.cons ?_ (StepsRI.cons ?_ (StepsRI.cons ?_ (StepsRI.cons ?_ (StepsRI.cons ?_ (StepsRI.cons ?_ (StepsRI.cons ?_ (StepsRI.cons ?_ (StepsRI.cons ?_ (StepsRI.cons ?_ (StepsRI.cons ?_ (StepsRI.cons ?_ (StepsRI.nil)))))))))))))))
      · intro lQ b W hI hUN hED KQ hKQ
        have hg := (hI.vot 15 (of_decide_eq_true rfl) (of_decide_eq_true rfl) rfl).1
        refine wp_load_row 37 _ rfl ((w.heap.size + 1 + 1 + 1)) ((hI.fr.same 11 (by decide)).trans g11) 37 #[.int .i64 sc, .int .u64 x, .int .i64 h, .int .i64 n] (0, 0) _ hg Tryz.underlying37 rfl (by kernel_rfl) ?_
        exact hKQ.out _ _ (hI.put 0 34 rfl rfl (by rw [hz]; decide) rfl hUN rfl HBB (w4Sp_stb wl ws wr hl hs hr ha ag ng cg sc x h n at2 bd V1 w.heap.size (w2.heap.size)) (Below.refl _ _) rfl)
      · intro lQ b W hI hUN hED KQ hKQ
        have hg := (hI.vot 16 (of_decide_eq_true rfl) (of_decide_eq_true rfl) rfl)
        refine wp_load_row 41 _ rfl ((w.heap.size + 1)) ((hI.fr.same 7 (by decide)).trans g7) 41 #[.int .i64 hl, .int .i64 hs, .int .u64 hr, .int .i64 ha, .slice ag ng cg] (0, 0) _ hg Tryz.underlying41 rfl (by kernel_rfl) ?_
        exact hKQ.out _ _ (hI.put 1 35 rfl rfl (by rw [hz]; decide) rfl hUN rfl HBB (w4Sp_stb wl ws wr hl hs hr ha ag ng cg sc x h n at2 bd V1 w.heap.size (w2.heap.size)) (Below.refl _ _) rfl)
      · intro lQ b W hI hUN hED KQ hKQ
        exact opw_move 4 rfl (hKQ.out _ _ (hI.put 2 36 rfl rfl (by rw [hz]; decide) rfl hUN rfl HBB (w4Sp_stb wl ws wr hl hs hr ha ag ng cg sc x h n at2 bd V1 w.heap.size (w2.heap.size)) (Below.refl _ _) ((hI.fr.same 4 (by decide)).trans g4)))
      · intro lQ b W hI hUN hED KQ hKQ
        have f1 := hI.got 1 (of_decide_eq_true rfl) (edge hED 1 (by kernel_rfl)) rfl
        replace f1 : aT b 35 = .agg #[.int .i64 hl, .int .i64 hs, .int .u64 hr, .int .i64 ha, .slice ag ng cg] := f1
        have f2 := hI.got 2 (of_decide_eq_true rfl) (edge hED 2 (by kernel_rfl)) rfl
        replace f2 : aT b 36 = .int .i64 at2 := f2
        refine opw_call 33 #[.const (.int .i64 7), .tmp 35, .tmp 36] _ _ _ rfl Tryz.func33 (by kernel_rfl) rfl #[.int .i64 7, .agg #[.int .i64 hl, .int .i64 hs, .int .u64 hr, .int .i64 ha, .slice ag ng cg], .int .i64 at2] (by simp [ev, evc, f1, f2]) ?_
        refine (HHB.out W).mono ?_
        rintro e W2 ⟨a1, c1, rfl, ho, hb⟩
        exact ⟨_, rfl, hKQ.out _ _ (hI.put 3 37 rfl rfl (by rw [hz]; decide) rfl hUN rfl HBB (w4Sp_stb wl ws wr hl hs hr ha ag ng cg sc x h n at2 bd V1 w.heap.size (w2.heap.size)) hb ⟨a1, c1, rfl, ho.mono (Nat.le_trans HBB hI.bel.size)⟩)⟩
      · intro lQ b W hI hUN hED KQ hKQ
        have f0 := hI.got 0 (of_decide_eq_true rfl) (edge hED 0 (by kernel_rfl)) rfl
        replace f0 : aT b 34 = .agg #[.int .i64 sc, .int .u64 x, .int .i64 h, .int .i64 n] := f0
        have f1 := hI.got 3 (of_decide_eq_true rfl) (edge hED 3 (by kernel_rfl)) rfl
        obtain ⟨a1, c1, f1, o1_0⟩ := f1
        replace f1 : aT b 37 = .slice a1 bd.length c1 := f1
        refine opw_call 32 #[.tmp 34, .tmp 37] _ _ _ rfl Tryz.func32 (by kernel_rfl) rfl #[.agg #[.int .i64 sc, .int .u64 x, .int .i64 h, .int .i64 n], .slice a1 bd.length c1] (by simp [ev, f0, f1]) ?_
        refine (HAS.out W a1 c1 o1_0.toRow o1_0.nil).mono ?_
        rintro e W2 ⟨a2, c2, rfl, ho, hb⟩
        exact ⟨_, rfl, hKQ.out _ _ (hI.put 4 38 rfl rfl (by rw [hz]; decide) rfl hUN rfl HBB (w4Sp_stb wl ws wr hl hs hr ha ag ng cg sc x h n at2 bd V1 w.heap.size (w2.heap.size)) hb ⟨a2, c2, rfl, ho.mono (Nat.le_trans HBB hI.bel.size)⟩)⟩
      · intro lQ b W hI hUN hED KQ hKQ
        have f := hI.got 4 (of_decide_eq_true rfl) (edge hED 4 (by kernel_rfl)) rfl
        exact opw_move 38 rfl (hKQ.out _ _ (hI.put 5 33 rfl rfl (by rw [hz]; decide) rfl hUN rfl HBB (w4Sp_stb wl ws wr hl hs hr ha ag ng cg sc x h n at2 bd V1 w.heap.size (w2.heap.size)) (Below.refl _ _) f))
      · intro lQ b W hI hUN hED KQ hKQ
        have f := hI.got 5 (of_decide_eq_true rfl) (edge hED 5 (by kernel_rfl)) rfl
        obtain ⟨a2, c2, f, o_0⟩ := f
        exact opw_extract 33 0 rfl _ _ f rfl (hKQ.out _ _ (hI.put 6 39 rfl rfl (by rw [hz]; decide) rfl hUN rfl HBB (w4Sp_stb wl ws wr hl hs hr ha ag ng cg sc x h n at2 bd V1 w.heap.size (w2.heap.size)) (Below.refl _ _) rfl))
      · intro lQ b W hI hUN hED KQ hKQ
        have f := hI.got 5 (of_decide_eq_true rfl) (edge hED 5 (by kernel_rfl)) rfl
        obtain ⟨a2, c2, f, o_0⟩ := f
        exact opw_extract 33 1 rfl _ _ f rfl (hKQ.out _ _ (hI.put 7 40 rfl rfl (by rw [hz]; decide) rfl hUN rfl HBB (w4Sp_stb wl ws wr hl hs hr ha ag ng cg sc x h n at2 bd V1 w.heap.size (w2.heap.size)) (Below.refl _ _) ⟨a2, c2, rfl, o_0⟩))
      · intro lQ b W hI hUN hED KQ hKQ
        have f := hI.got 5 (of_decide_eq_true rfl) (edge hED 5 (by kernel_rfl)) rfl
        obtain ⟨a2, c2, f, o_0⟩ := f
        exact opw_extract 33 2 rfl _ _ f rfl (hKQ.out _ _ (hI.put 8 41 rfl rfl (by rw [hz]; decide) rfl hUN rfl HBB (w4Sp_stb wl ws wr hl hs hr ha ag ng cg sc x h n at2 bd V1 w.heap.size (w2.heap.size)) (Below.refl _ _) rfl))
      · intro lQ b W hI hUN hED KQ hKQ
        have f := hI.got 5 (of_decide_eq_true rfl) (edge hED 5 (by kernel_rfl)) rfl
        obtain ⟨a2, c2, f, o_0⟩ := f
        exact opw_extract 33 3 rfl _ _ f rfl (hKQ.out _ _ (hI.put 9 42 rfl rfl (by rw [hz]; decide) rfl hUN rfl HBB (w4Sp_stb wl ws wr hl hs hr ha ag ng cg sc x h n at2 bd V1 w.heap.size (w2.heap.size)) (Below.refl _ _) rfl))
      · intro lQ b W hI hUN hED KQ hKQ
        refine opw_value (w' := W.alloc (.cells #[.int .i64 0, .int .u64 0, .int .i64 0, .int .i64 0] 37)) (.pointer (some ⟨W.heap.size, 0, none⟩)) (by kernel_rfl) ?_
        exact hKQ.out _ _ (hI.put 10 19 rfl rfl (by rw [hz]; decide) rfl hUN rfl HBB (w4Sp_stb wl ws wr hl hs hr ha ag ng cg sc x h n at2 bd V1 w.heap.size (w2.heap.size)) ((Below.refl _ _).alloc (Nat.le_refl _) _) ⟨W.heap.size, rfl, heap_alloc_new W _, Nat.le_trans HBB hI.bel.size⟩)
      · intro lQ b W hI hUN hED KQ hKQ
        have f := hI.got 6 (of_decide_eq_true rfl) (edge hED 6 (by kernel_rfl)) rfl
        exact opw_assign 39 rfl (hKQ.out _ _ (hI.put 11 17 rfl rfl (by rw [hz]; decide) rfl hUN rfl HBB (w4Sp_stb wl ws wr hl hs hr ha ag ng cg sc x h n at2 bd V1 w.heap.size (w2.heap.size)) (Below.refl _ _) f))
      · intro lQ b W hI hUN hED KQ hKQ
        have f := hI.got 7 (of_decide_eq_true rfl) (edge hED 7 (by kernel_rfl)) rfl
        exact opw_assign 40 rfl (hKQ.out _ _ (hI.put 12 18 rfl rfl (by rw [hz]; decide) rfl hUN rfl HBB (w4Sp_stb wl ws wr hl hs hr ha ag ng cg sc x h n at2 bd V1 w.heap.size (w2.heap.size)) (Below.refl _ _) f))
      · intro lQ b W hI hUN hED KQ hKQ
        obtain ⟨g, fb, hgb, hge⟩ := hI.got1 10 13 (of_decide_eq_true rfl) (edge hED 10 (by kernel_rfl)) hUN rfl
        have f := hI.got 8 (of_decide_eq_true rfl) (edge hED 8 (by kernel_rfl)) rfl
        refine wp_store_row 37 _ _ rfl g #[.int .i64 V1.t.1, .int .u64 V1.t.2.1, .int .i64 V1.t.2.2.1, .int .i64 V1.t.2.2.2] fb f 37 _ hgb (by kernel_rfl) rfl (by simp [Value.oneCell']) ?_
        have ht := setRow_touch W g #[.int .i64 V1.t.1, .int .u64 V1.t.2.1, .int .i64 V1.t.2.2.1, .int .i64 V1.t.2.2.2]
        exact hKQ.out _ _ (hI.store 13 (fun j hj => by
            rcases List.mem_singleton.1 hj with rfl
            exact edge hED 10 (by kernel_rfl)) (hI.bel.trans (ht.below hge (Nat.le_trans HBB hI.bel.size))) (w4Sp_st13 wl ws wr hl hs hr ha ag ng cg sc x h n at2 bd V1 w.heap.size (w2.heap.size) hgb ht hge) ⟨g, fb, (setRow_heap W g _ _ _ _ hgb), hge⟩)
      · intro lQ b W hI hUN hED KQ hKQ
        have f := hI.got 9 (of_decide_eq_true rfl) (edge hED 9 (by kernel_rfl)) rfl
        exact opw_assign 42 rfl (hKQ.out _ _ (hI.put 14 20 rfl rfl (by rw [hz]; decide) rfl hUN rfl HBB (w4Sp_stb wl ws wr hl hs hr ha ag ng cg sc x h n at2 bd V1 w.heap.size (w2.heap.size)) (Below.refl _ _) f))
    · intro b W hf hb F
      obtain ⟨gs, e19, hgs, hge⟩ := F 13 (of_decide_eq_true rfl) rfl
      obtain ⟨a2, c2, e18, ho⟩ := F 12 (of_decide_eq_true rfl) rfl
      have e17 := F 11 (of_decide_eq_true rfl) rfl
      have e20 := F 14 (of_decide_eq_true rfl) rfl
      replace e19 : aT b 19 = _ := e19
      replace e18 : aT b 18 = _ := e18
      replace e17 : aT b 17 = _ := e17
      replace e20 : aT b 20 = _ := e20
      have HB4 : Hid (_) := HB2.out.kept hb
      have HGS : Hid (W.heap[gs]? = some (.cells #[.int .i64 V1.t.1, .int .u64 V1.t.2.1, .int .i64 V1.t.2.2.1, .int .i64 V1.t.2.2.2] 37 (0, 0))) := hgs
      have hc4 := keepT hc2 hb
      have hbs := hb.size
      have HO4 : Hid (Own w.heap.size W a2 V1.sg.length c2 V1.sg) := ho.mono hc2.size
      rw [hf.eq]
      simp only [puts, Act.put, List.setIfInBounds_toArray, List.set_cons_zero, List.set_cons_succ, e17, e18, e19, e20]
      clear hf F e17 e18 e19 e20 hgs ho hb
      generalize aT b = AT
      clear b
      obtain ⟨W4, hW4⟩ : ∃ W4, W4 = W := ⟨_, rfl⟩
      subst hW4
      go_upto_region 5 with fail
      by_cases hc5 : V1.cd = 0
      case neg =>
        have HF := (show Hid (V = wtBad V1.cd) by show _ = _; rw [HV1.out, if_neg hc5])
        have z5 : (V1.cd != 0) = true := by simp [hc5]
        go_upto_region 6 with fail
        have HBB : w.heap.size ≤ W4.heap.size := by have := hc4.size; omega
        refine wp_region_rp (wzB V1.cd w.heap.size (w.heap.size)) [15, 45, 46, 47, 48] (w.heap.size) (fun a0 => a0.tmps.size = 61 ∧ aT a0 12 = .pointer (some ⟨(w.heap.size + 1 + 1 + 1 + 1), 0, none⟩) ∧ aT a0 13 = .pointer (some ⟨(w.heap.size + 1 + 1 + 1 + 1 + 1), 0, none⟩) ∧ aT a0 14 = .pointer (some ⟨(w.heap.size + 1 + 1 + 1 + 1 + 1 + 1), 0, none⟩) ∧ aT a0 20 = .int .i64 V1.cd) rfl (by kernel_rfl) rfl ⟨rfl, rfl, rfl, rfl, rfl⟩ (wzB_stb V1.cd w.heap.size (w.heap.size)) ?_ ?_ ?_
        · intro k hk hk2
          match k, hk, hk2 with
          | 8, _, _ => exact HB4.out.frw
          | 9, _, _ => exact HB4.out.frc
          | 10, _, _ => exact HB4.out.frs
          | 0, hk, _ => exact absurd hk (by show ¬ (8 ≤ 0); omega)
          | 1, hk, _ => exact absurd hk (by show ¬ (8 ≤ 1); omega)
          | 2, hk, _ => exact absurd hk (by show ¬ (8 ≤ 2); omega)
          | 3, hk, _ => exact absurd hk (by show ¬ (8 ≤ 3); omega)
          | 4, hk, _ => exact absurd hk (by show ¬ (8 ≤ 4); omega)
          | 5, hk, _ => exact absurd hk (by show ¬ (8 ≤ 5); omega)
          | 6, hk, _ => exact absurd hk (by show ¬ (8 ≤ 6); omega)
          | 7, hk, _ => exact absurd hk (by show ¬ (8 ≤ 7); omega)
          | k + 11, _, hk2 => exact absurd hk2 (by show ¬ (k + 11 < 11); omega)
        · rintro a0 ⟨hz, g12, g13, g14, g20⟩
          refine StepsRI.cons ?_ (StepsRI.cons ?_ (StepsRI.cons ?_ (StepsRI.cons ?_ (StepsRI.cons ?_ (StepsRI.cons ?_ (StepsRI.cons ?_ (StepsRI.cons ?_ (StepsRI.nil))))))))
          · intro lQ b W hI hUN hED KQ hKQ
            refine opw_build 34 _ rfl #[] (by simp []) (.agg #[.int .i64 0, .int .i64 0, .int .u64 0]) (by kernel_rfl) ?_
            exact hKQ.out _ _ (hI.put 0 45 rfl rfl (by rw [hz]; decide) rfl hUN rfl HBB (wzB_stb V1.cd w.heap.size (w.heap.size)) (Below.refl _ _) rfl)
          · intro lQ b W hI hUN hED KQ hKQ
            refine opw_build 36 _ rfl #[] (by simp []) (.agg #[.int .u64 0, .int .i64 0, .slice none 0 0]) (by kernel_rfl) ?_
            exact hKQ.out _ _ (hI.put 1 46 rfl rfl (by rw [hz]; decide) rfl hUN rfl HBB (wzB_stb V1.cd w.heap.size (w.heap.size)) (Below.refl _ _) rfl)
          · intro lQ b W hI hUN hED KQ hKQ
            refine opw_build 37 _ rfl #[] (by simp []) (.agg #[.int .i64 0, .int .u64 0, .int .i64 0, .int .i64 0]) (by kernel_rfl) ?_
            exact hKQ.out _ _ (hI.put 2 47 rfl rfl (by rw [hz]; decide) rfl hUN rfl HBB (wzB_stb V1.cd w.heap.size (w.heap.size)) (Below.refl _ _) rfl)
          · intro lQ b W hI hUN hED KQ hKQ
            exact opw_move 20 rfl (hKQ.out _ _ (hI.put 3 48 rfl rfl (by rw [hz]; decide) rfl hUN rfl HBB (wzB_stb V1.cd w.heap.size (w.heap.size)) (Below.refl _ _) ((hI.fr.same 20 (by decide)).trans g20)))
          · intro lQ b W hI hUN hED KQ hKQ
            have hgb := (hI.vot1 8 4 (of_decide_eq_true rfl) (of_decide_eq_true rfl) hUN rfl)
            have fb := ((hI.fr.same 12 (by decide)).trans g12)
            have f := hI.got 0 (of_decide_eq_true rfl) (edge hED 0 (by kernel_rfl)) rfl
            refine wp_store_row 34 _ _ rfl ((w.heap.size + 1 + 1 + 1 + 1)) #[.int .i64 0, .int .i64 0, .int .u64 0] fb f 34 _ hgb (by kernel_rfl) rfl (by simp [Value.oneCell']) ?_
            have ht := setRow_touch W ((w.heap.size + 1 + 1 + 1 + 1)) #[.int .i64 0, .int .i64 0, .int .u64 0]
            exact hKQ.out _ _ (hI.store 4 (fun j hj => by cases hj) (hI.bel.trans (ht.below (by first | exact HGE12 | omega) (Nat.le_trans HBB hI.bel.size))) (wzB_st4 V1.cd w.heap.size (w.heap.size) hgb ht) (setRow_heap W ((w.heap.size + 1 + 1 + 1 + 1)) _ _ _ _ hgb))
          · intro lQ b W hI hUN hED KQ hKQ
            have hgb := (hI.vot1 9 5 (of_decide_eq_true rfl) (of_decide_eq_true rfl) hUN rfl)
            have fb := ((hI.fr.same 13 (by decide)).trans g13)
            have f := hI.got 1 (of_decide_eq_true rfl) (edge hED 1 (by kernel_rfl)) rfl
            refine wp_store_row 36 _ _ rfl ((w.heap.size + 1 + 1 + 1 + 1 + 1)) #[.int .u64 0, .int .i64 0, .slice none 0 0] fb f 36 _ hgb (by kernel_rfl) rfl (by simp [Value.oneCell']) ?_
            have ht := setRow_touch W ((w.heap.size + 1 + 1 + 1 + 1 + 1)) #[.int .u64 0, .int .i64 0, .slice none 0 0]
            exact hKQ.out _ _ (hI.store 5 (fun j hj => by cases hj) (hI.bel.trans (ht.below (by first | exact HGE13 | omega) (Nat.le_trans HBB hI.bel.size))) (wzB_st5 V1.cd w.heap.size (w.heap.size) hgb ht) (setRow_heap W ((w.heap.size + 1 + 1 + 1 + 1 + 1)) _ _ _ _ hgb))
          · intro lQ b W hI hUN hED KQ hKQ
            have hgb := (hI.vot1 10 6 (of_decide_eq_true rfl) (of_decide_eq_true rfl) hUN rfl)
            have fb := ((hI.fr.same 14 (by decide)).trans g14)
            have f := hI.got 2 (of_decide_eq_true rfl) (edge hED 2 (by kernel_rfl)) rfl
            refine wp_store_row 37 _ _ rfl ((w.heap.size + 1 + 1 + 1 + 1 + 1 + 1)) #[.int .i64 0, .int .u64 0, .int .i64 0, .int .i64 0] fb f 37 _ hgb (by kernel_rfl) rfl (by simp [Value.oneCell']) ?_
            have ht := setRow_touch W ((w.heap.size + 1 + 1 + 1 + 1 + 1 + 1)) #[.int .i64 0, .int .u64 0, .int .i64 0, .int .i64 0]
            exact hKQ.out _ _ (hI.store 6 (fun j hj => by cases hj) (hI.bel.trans (ht.below (by first | exact HGE14 | omega) (Nat.le_trans HBB hI.bel.size))) (wzB_st6 V1.cd w.heap.size (w.heap.size) hgb ht) (setRow_heap W ((w.heap.size + 1 + 1 + 1 + 1 + 1 + 1)) _ _ _ _ hgb))
          · intro lQ b W hI hUN hED KQ hKQ
            have f := hI.got 3 (of_decide_eq_true rfl) (edge hED 3 (by kernel_rfl)) rfl
            exact opw_assign 48 rfl (hKQ.out _ _ (hI.put 7 15 rfl rfl (by rw [hz]; decide) rfl hUN rfl HBB (wzB_stb V1.cd w.heap.size (w.heap.size)) (Below.refl _ _) f))
        · intro b W hf hb F
          have e0 := F 4 (of_decide_eq_true rfl) rfl
          have e1 := F 5 (of_decide_eq_true rfl) rfl
          have e2 := F 6 (of_decide_eq_true rfl) rfl
          have e3 := F 7 (of_decide_eq_true rfl) rfl
          replace e3 : aT b 15 = _ := e3
          rw [hf.eq]
          simp only [puts, Act.put, List.setIfInBounds_toArray, List.set_cons_zero, List.set_cons_succ, e3]
          clear hf F
          go_wp2
          try simp only [Exit.inBlock, Exit.then]
          exact bodyPost_ret (results_wt rfl _ (w.heap.size + 1 + 1 + 1 + 1) (w.heap.size + 1 + 1 + 1 + 1 + 1) (w.heap.size + 1 + 1 + 1 + 1 + 1 + 1) rfl rfl rfl _ rfl _ _ _ _ e0 e1 e2 rfl rfl rfl) rfl ⟨none, 0, by rw [HF.out]; rfl, by rw [HF.out]; exact own_none _ _, hc4.trans hb⟩
  
      case pos =>
        have HF := (show Hid (V = ⟨hl, hs, hr, V1.k, at2, V1.sg, V1.t, 0⟩) by show _ = _; rw [HV1.out, if_pos hc5])
        have z5 : (V1.cd != 0) = false := by simp [hc5]
        clear hc5
        go_upto_region 7 with fail
        have HBB : w.heap.size ≤ W4.heap.size := by have := hc4.size; omega
        refine wp_region_ri (w7Sp hl hs hr ha ag ng cg at2 V1 a2 c2 gs w.heap.size (w.heap.size)) [15, 49, 50, 51, 52, 53, 54, 55, 56, 57, 58, 59, 60] (w.heap.size) (fun a0 => a0.tmps.size = 61 ∧ aT a0 4 = .int .i64 at2 ∧ aT a0 7 = .pointer (some ⟨(w.heap.size + 1), 0, none⟩) ∧ aT a0 12 = .pointer (some ⟨(w.heap.size + 1 + 1 + 1 + 1), 0, none⟩) ∧ aT a0 13 = .pointer (some ⟨(w.heap.size + 1 + 1 + 1 + 1 + 1), 0, none⟩) ∧ aT a0 14 = .pointer (some ⟨(w.heap.size + 1 + 1 + 1 + 1 + 1 + 1), 0, none⟩) ∧ aT a0 17 = .int .u64 V1.k ∧ aT a0 18 = .slice a2 V1.sg.length c2 ∧ aT a0 19 = .pointer (some ⟨gs, 0, none⟩)) (by kernel_rfl) rfl (by kernel_rfl) rfl ⟨rfl, rfl, rfl, rfl, rfl, rfl, rfl, rfl, rfl⟩ (w7Sp_stb hl hs hr ha ag ng cg at2 V1 a2 c2 gs w.heap.size (w.heap.size)) ?_ ?_ ?_
        · intro k hk hk2
          match k, hk, hk2 with
          | 16, _, _ => exact HB4.out.frw
          | 17, _, _ => exact HB4.out.frc
          | 18, _, _ => exact HB4.out.frs
          | 19, _, _ => exact HB4.out.fh
          | 20, _, _ => exact ⟨HGS.out, by omega⟩
          | 21, _, _ => exact (show Own w.heap.size W4 a2 V1.sg.length c2 V1.sg from HO4.out)
          | 0, hk, _ => exact absurd hk (by show ¬ (16 ≤ 0); omega)
          | 1, hk, _ => exact absurd hk (by show ¬ (16 ≤ 1); omega)
          | 2, hk, _ => exact absurd hk (by show ¬ (16 ≤ 2); omega)
          | 3, hk, _ => exact absurd hk (by show ¬ (16 ≤ 3); omega)
          | 4, hk, _ => exact absurd hk (by show ¬ (16 ≤ 4); omega)
          | 5, hk, _ => exact absurd hk (by show ¬ (16 ≤ 5); omega)
          | 6, hk, _ => exact absurd hk (by show ¬ (16 ≤ 6); omega)
          | 7, hk, _ => exact absurd hk (by show ¬ (16 ≤ 7); omega)
          | 8, hk, _ => exact absurd hk (by show ¬ (16 ≤ 8); omega)
          | 9, hk, _ => exact absurd hk (by show ¬ (16 ≤ 9); omega)
          | 10, hk, _ => exact absurd hk (by show ¬ (16 ≤ 10); omega)
          | 11, hk, _ => exact absurd hk (by show ¬ (16 ≤ 11); omega)
          | 12, hk, _ => exact absurd hk (by show ¬ (16 ≤ 12); omega)
          | 13, hk, _ => exact absurd hk (by show ¬ (16 ≤ 13); omega)
          | 14, hk, _ => exact absurd hk (by show ¬ (16 ≤ 14); omega)
          | 15, hk, _ => exact absurd hk (by show ¬ (16 ≤ 15); omega)
          | k + 22, _, hk2 => exact absurd hk2 (by show ¬ (k + 22 < 22); omega)
        · rintro a0 ⟨hz, g4, g7, g12, g13, g14, g17, g18, g19⟩
          refine StepsRI.cons ?_ (StepsRI.cons ?_ (StepsRI.cons ?_ (StepsRI.cons ?_ (StepsRI.cons ?_ (StepsRI.cons ?_ (StepsRI.cons ?_ (StepsRI.cons ?_ (StepsRI.cons ?_ (StepsRI.cons ?_ (StepsRI.cons ?_ (StepsRI.cons ?_ (StepsRI.cons ?_ (StepsRI.cons ?_ (StepsRI.cons ?_ (StepsRI.cons ?_ (StepsRI.nil))))))))))))))))
          · intro lQ b W hI hUN hED KQ hKQ
            exact opw_field 41 7 0 rfl _ ((hI.fr.same 7 (by decide)).trans g7) _ (by kernel_rfl) (hKQ.out _ _ (hI.put 0 49 rfl rfl (by rw [hz]; decide) rfl hUN rfl HBB (w7Sp_stb hl hs hr ha ag ng cg at2 V1 a2 c2 gs w.heap.size (w.heap.size)) (Below.refl _ _) rfl))
          · intro lQ b W hI hUN hED KQ hKQ
            have f := hI.got 0 (of_decide_eq_true rfl) (edge hED 0 (by kernel_rfl)) rfl
            have hg := (hI.vot 19 (of_decide_eq_true rfl) (of_decide_eq_true rfl) rfl)
            have hc : W.cell? ⟨(w.heap.size + 1), 0, none⟩ = some (.int .i64 hl) := (cell_of_row _ _ 0 _ _ (0, 0) hg).trans rfl
            exact opw_load1 2 49 rfl _ f _ (by simp [Instr.loadAt, go_sem, hc]) (hKQ.out _ _ (hI.put 1 50 rfl rfl (by rw [hz]; decide) rfl hUN rfl HBB (w7Sp_stb hl hs hr ha ag ng cg at2 V1 a2 c2 gs w.heap.size (w.heap.size)) (Below.refl _ _) rfl))
          · intro lQ b W hI hUN hED KQ hKQ
            exact opw_field 41 7 1 rfl _ ((hI.fr.same 7 (by decide)).trans g7) _ (by kernel_rfl) (hKQ.out _ _ (hI.put 2 51 rfl rfl (by rw [hz]; decide) rfl hUN rfl HBB (w7Sp_stb hl hs hr ha ag ng cg at2 V1 a2 c2 gs w.heap.size (w.heap.size)) (Below.refl _ _) rfl))
          · intro lQ b W hI hUN hED KQ hKQ
            have f := hI.got 2 (of_decide_eq_true rfl) (edge hED 2 (by kernel_rfl)) rfl
            have hg := (hI.vot 19 (of_decide_eq_true rfl) (of_decide_eq_true rfl) rfl)
            have hc : W.cell? ⟨(w.heap.size + 1), 1, none⟩ = some (.int .i64 hs) := (cell_of_row _ _ 1 _ _ (0, 0) hg).trans rfl
            exact opw_load1 2 51 rfl _ f _ (by simp [Instr.loadAt, go_sem, hc]) (hKQ.out _ _ (hI.put 3 52 rfl rfl (by rw [hz]; decide) rfl hUN rfl HBB (w7Sp_stb hl hs hr ha ag ng cg at2 V1 a2 c2 gs w.heap.size (w.heap.size)) (Below.refl _ _) rfl))
          · intro lQ b W hI hUN hED KQ hKQ
            exact opw_field 41 7 2 rfl _ ((hI.fr.same 7 (by decide)).trans g7) _ (by kernel_rfl) (hKQ.out _ _ (hI.put 4 53 rfl rfl (by rw [hz]; decide) rfl hUN rfl HBB (w7Sp_stb hl hs hr ha ag ng cg at2 V1 a2 c2 gs w.heap.size (w.heap.size)) (Below.refl _ _) rfl))
          · intro lQ b W hI hUN hED KQ hKQ
            have f := hI.got 4 (of_decide_eq_true rfl) (edge hED 4 (by kernel_rfl)) rfl
            have hg := (hI.vot 19 (of_decide_eq_true rfl) (of_decide_eq_true rfl) rfl)
            have hc : W.cell? ⟨(w.heap.size + 1), 2, none⟩ = some (.int .u64 hr) := (cell_of_row _ _ 2 _ _ (0, 0) hg).trans rfl
            exact opw_load1 22 53 rfl _ f _ (by simp [Instr.loadAt, go_sem, hc]) (hKQ.out _ _ (hI.put 5 54 rfl rfl (by rw [hz]; decide) rfl hUN rfl HBB (w7Sp_stb hl hs hr ha ag ng cg at2 V1 a2 c2 gs w.heap.size (w.heap.size)) (Below.refl _ _) rfl))
          · intro lQ b W hI hUN hED KQ hKQ
            have f0 := hI.got 1 (of_decide_eq_true rfl) (edge hED 1 (by kernel_rfl)) rfl
            replace f0 : aT b 50 = .int .i64 hl := f0
            have f1 := hI.got 3 (of_decide_eq_true rfl) (edge hED 3 (by kernel_rfl)) rfl
            replace f1 : aT b 52 = .int .i64 hs := f1
            have f2 := hI.got 5 (of_decide_eq_true rfl) (edge hED 5 (by kernel_rfl)) rfl
            replace f2 : aT b 54 = .int .u64 hr := f2
            refine opw_build 34 _ rfl #[(0, .int .i64 hl), (1, .int .i64 hs), (2, .int .u64 hr)] (by simp [ev, f0, f1, f2]) (.agg #[.int .i64 hl, .int .i64 hs, .int .u64 hr]) (by kernel_rfl) ?_
            exact hKQ.out _ _ (hI.put 6 55 rfl rfl (by rw [hz]; decide) rfl hUN rfl HBB (w7Sp_stb hl hs hr ha ag ng cg at2 V1 a2 c2 gs w.heap.size (w.heap.size)) (Below.refl _ _) rfl)
          · intro lQ b W hI hUN hED KQ hKQ
            exact opw_move 17 rfl (hKQ.out _ _ (hI.put 7 56 rfl rfl (by rw [hz]; decide) rfl hUN rfl HBB (w7Sp_stb hl hs hr ha ag ng cg at2 V1 a2 c2 gs w.heap.size (w.heap.size)) (Below.refl _ _) ((hI.fr.same 17 (by decide)).trans g17)))
          · intro lQ b W hI hUN hED KQ hKQ
            exact opw_move 4 rfl (hKQ.out _ _ (hI.put 8 57 rfl rfl (by rw [hz]; decide) rfl hUN rfl HBB (w7Sp_stb hl hs hr ha ag ng cg at2 V1 a2 c2 gs w.heap.size (w.heap.size)) (Below.refl _ _) ((hI.fr.same 4 (by decide)).trans g4)))
          · intro lQ b W hI hUN hED KQ hKQ
            exact opw_move 18 rfl (hKQ.out _ _ (hI.put 9 58 rfl rfl (by rw [hz]; decide) rfl hUN rfl HBB (w7Sp_stb hl hs hr ha ag ng cg at2 V1 a2 c2 gs w.heap.size (w.heap.size)) (Below.refl _ _) ((hI.fr.same 18 (by decide)).trans g18)))
          · intro lQ b W hI hUN hED KQ hKQ
            have f0 := hI.got 7 (of_decide_eq_true rfl) (edge hED 7 (by kernel_rfl)) rfl
            replace f0 : aT b 56 = .int .u64 V1.k := f0
            have f1 := hI.got 8 (of_decide_eq_true rfl) (edge hED 8 (by kernel_rfl)) rfl
            replace f1 : aT b 57 = .int .i64 at2 := f1
            have f2 := hI.got 9 (of_decide_eq_true rfl) (edge hED 9 (by kernel_rfl)) rfl
            replace f2 : aT b 58 = .slice a2 V1.sg.length c2 := f2
            refine opw_build 36 _ rfl #[(0, .int .u64 V1.k), (1, .int .i64 at2), (2, .slice a2 V1.sg.length c2)] (by simp [ev, f0, f1, f2]) (.agg #[.int .u64 V1.k, .int .i64 at2, .slice a2 V1.sg.length c2]) (by kernel_rfl) ?_
            exact hKQ.out _ _ (hI.put 10 59 rfl rfl (by rw [hz]; decide) rfl hUN rfl HBB (w7Sp_stb hl hs hr ha ag ng cg at2 V1 a2 c2 gs w.heap.size (w.heap.size)) (Below.refl _ _) rfl)
          · intro lQ b W hI hUN hED KQ hKQ
            have hg := (hI.vot 20 (of_decide_eq_true rfl) (of_decide_eq_true rfl) rfl).1
            refine wp_load_row 37 _ rfl (gs) ((hI.fr.same 19 (by decide)).trans g19) 37 #[.int .i64 V1.t.1, .int .u64 V1.t.2.1, .int .i64 V1.t.2.2.1, .int .i64 V1.t.2.2.2] (0, 0) _ hg Tryz.underlying37 rfl (by kernel_rfl) ?_
            exact hKQ.out _ _ (hI.put 11 60 rfl rfl (by rw [hz]; decide) rfl hUN rfl HBB (w7Sp_stb hl hs hr ha ag ng cg at2 V1 a2 c2 gs w.heap.size (w.heap.size)) (Below.refl _ _) rfl)
          · intro lQ b W hI hUN hED KQ hKQ
            have hgb := (hI.vot1 16 12 (of_decide_eq_true rfl) (of_decide_eq_true rfl) hUN rfl)
            have fb := ((hI.fr.same 12 (by decide)).trans g12)
            have f := hI.got 6 (of_decide_eq_true rfl) (edge hED 6 (by kernel_rfl)) rfl
            refine wp_store_row 34 _ _ rfl ((w.heap.size + 1 + 1 + 1 + 1)) #[.int .i64 hl, .int .i64 hs, .int .u64 hr] fb f 34 _ hgb (by kernel_rfl) rfl (by simp [Value.oneCell']) ?_
            have ht := setRow_touch W ((w.heap.size + 1 + 1 + 1 + 1)) #[.int .i64 hl, .int .i64 hs, .int .u64 hr]
            exact hKQ.out _ _ (hI.store 12 (fun j hj => by cases hj) (hI.bel.trans (ht.below (by first | exact HGE12 | omega) (Nat.le_trans HBB hI.bel.size))) (w7Sp_st12 hl hs hr ha ag ng cg at2 V1 a2 c2 gs w.heap.size (w.heap.size) hgb ht) (setRow_heap W ((w.heap.size + 1 + 1 + 1 + 1)) _ _ _ _ hgb))
          · intro lQ b W hI hUN hED KQ hKQ
            have hgb := (hI.vot1 17 13 (of_decide_eq_true rfl) (of_decide_eq_true rfl) hUN rfl)
            have fb := ((hI.fr.same 13 (by decide)).trans g13)
            have f := hI.got 10 (of_decide_eq_true rfl) (edge hED 10 (by kernel_rfl)) rfl
            refine wp_store_row 36 _ _ rfl ((w.heap.size + 1 + 1 + 1 + 1 + 1)) #[.int .u64 V1.k, .int .i64 at2, .slice a2 V1.sg.length c2] fb f 36 _ hgb (by kernel_rfl) rfl (by simp [Value.oneCell']) ?_
            have ht := setRow_touch W ((w.heap.size + 1 + 1 + 1 + 1 + 1)) #[.int .u64 V1.k, .int .i64 at2, .slice a2 V1.sg.length c2]
            exact hKQ.out _ _ (hI.store 13 (fun j hj => by cases hj) (hI.bel.trans (ht.below (by first | exact HGE13 | omega) (Nat.le_trans HBB hI.bel.size))) (w7Sp_st13 hl hs hr ha ag ng cg at2 V1 a2 c2 gs w.heap.size (w.heap.size) hgb ht) (setRow_heap W ((w.heap.size + 1 + 1 + 1 + 1 + 1)) _ _ _ _ hgb))
          · intro lQ b W hI hUN hED KQ hKQ
            have hgb := (hI.vot1 18 14 (of_decide_eq_true rfl) (of_decide_eq_true rfl) hUN rfl)
            have fb := ((hI.fr.same 14 (by decide)).trans g14)
            have f := hI.got 11 (of_decide_eq_true rfl) (edge hED 11 (by kernel_rfl)) rfl
            refine wp_store_row 37 _ _ rfl ((w.heap.size + 1 + 1 + 1 + 1 + 1 + 1)) #[.int .i64 V1.t.1, .int .u64 V1.t.2.1, .int .i64 V1.t.2.2.1, .int .i64 V1.t.2.2.2] fb f 37 _ hgb (by kernel_rfl) rfl (by simp [Value.oneCell']) ?_
            have ht := setRow_touch W ((w.heap.size + 1 + 1 + 1 + 1 + 1 + 1)) #[.int .i64 V1.t.1, .int .u64 V1.t.2.1, .int .i64 V1.t.2.2.1, .int .i64 V1.t.2.2.2]
            exact hKQ.out _ _ (hI.store 14 (fun j hj => by cases hj) (hI.bel.trans (ht.below (by first | exact HGE14 | omega) (Nat.le_trans HBB hI.bel.size))) (w7Sp_st14 hl hs hr ha ag ng cg at2 V1 a2 c2 gs w.heap.size (w.heap.size) hgb ht) (setRow_heap W ((w.heap.size + 1 + 1 + 1 + 1 + 1 + 1)) _ _ _ _ hgb))
          · intro lQ b W hI hUN hED KQ hKQ
            exact opw_const (.int .i64 0) rfl (hKQ.out _ _ (hI.put 15 15 rfl rfl (by rw [hz]; decide) rfl hUN rfl HBB (w7Sp_stb hl hs hr ha ag ng cg at2 V1 a2 c2 gs w.heap.size (w.heap.size)) (Below.refl _ _) rfl))
        · intro b W hf hb F
          have e12 := F 12 (of_decide_eq_true rfl) rfl
          have e13 := F 13 (of_decide_eq_true rfl) rfl
          have e14 := F 14 (of_decide_eq_true rfl) rfl
          have e15 := F 15 (of_decide_eq_true rfl) rfl
          have hO := F 21 (of_decide_eq_true rfl) rfl
          replace e15 : aT b 15 = _ := e15
          rw [hf.eq]
          simp only [puts, Act.put, List.setIfInBounds_toArray, List.set_cons_zero, List.set_cons_succ, e15]
          clear hf F
          go_wp2
          try simp only [Exit.inBlock, Exit.then]
          exact bodyPost_ret (results_wt rfl _ (w.heap.size + 1 + 1 + 1 + 1) (w.heap.size + 1 + 1 + 1 + 1 + 1) (w.heap.size + 1 + 1 + 1 + 1 + 1 + 1) rfl rfl rfl _ rfl _ _ _ _ e12 e13 e14 rfl rfl rfl) rfl ⟨a2, c2, by rw [HF.out]; rfl, by rw [HF.out]; exact hO, hc4.trans hb⟩
end Go.Proofs.YtmoekmonkpihhaaGreat

