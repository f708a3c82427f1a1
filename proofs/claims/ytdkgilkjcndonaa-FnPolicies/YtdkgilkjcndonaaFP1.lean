import Derived.Test.YtdkgilkjcndonaaPP5a
namespace Go.Proofs.Ytdkgilkjcndonaa
open Go.RowKit

theorem nxt_mono {c c' : Int} (self : Bool) (s : Int) (h : c ≤ c') : nxt c self s ≤ nxt c' self s := by
  unfold nxt
  have e : (if self = false ∧ 0 < c then c - 1 else c) ≤ (if self = false ∧ 0 < c' then c' - 1 else c') := by
    cases self
    · simp only [true_and]
      split <;> split <;> omega
    · simp only [Bool.true_eq_false, false_and, if_false]; exact h
  generalize (if self = false ∧ 0 < c then c - 1 else c) = d at e
  generalize (if self = false ∧ 0 < c' then c' - 1 else c') = d' at e
  split <;> split <;> omega
theorem ctr_mono (f : PC → Int) (xs : List PC) {c c' : Int} (h : c ≤ c') : ∀ i, ctr f c xs i ≤ ctr f c' xs i
  | 0 => h
  | i + 1 => nxt_mono _ _ (ctr_mono f xs h i)
theorem hAt_mono (xs : List PC) {a a' : Int} (h : a ≤ a') (i : Nat) (q : Int) (hh : hAt xs a i q) : hAt xs a' i q := by
  rcases hh with h1 | ⟨h1, h2⟩
  · exact .inl h1
  · refine .inr ⟨h1, ?_⟩
    rcases h2 with h2 | h2
    · exact .inl (Int.lt_of_lt_of_le h2 (ctr_mono PC.noany xs h i))
    · exact .inr h2
theorem nx_mono (xs : List PC) {m m' : Int} (h : m ≤ m') (i : Nat) (q x : Int) (hx : x ∈ nx xs m i q) : x ∈ nx xs m' i q := by
  have hc := ctr_mono PC.nomap xs h i
  unfold nx at hx ⊢
  split at hx
  · rw [if_pos (by assumption)]; exact hx
  · rw [if_neg (by assumption)]
    split at hx
    · rw [if_pos (by omega)]; exact hx
    · simp at hx
/-- What holds under stricter counters holds under weaker ones. -/
theorem chn_mono (xs : List PC) {m m' a a' : Int} (h1 : m ≤ m') (h2 : a ≤ a') : ∀ (k i : Nat) (q : Int), 0 < chn xs m a k i q → 0 < chn xs m' a' k i q
  | 0, _, _ => fun h => by simp [chn] at h
  | k + 1, i, q => fun h => by
    by_cases e : k = 0
    · subst e
      rw [chn_last] at h ⊢
      exact hAt_mono xs h2 i q h
    · rw [chn_step _ _ _ _ _ _ e] at h ⊢
      obtain ⟨h3, q', h4, h5⟩ := h
      exact ⟨hAt_mono xs h2 i q h3, q', nx_mono xs h1 i q q' h4, chn_mono xs h1 h2 k (i + 1) q' h5⟩
theorem ctr0_mono {b b' : Bool} (n : Nat) (h : b' = true → b = true) : ctr0 b n ≤ ctr0 b' n := by
  unfold ctr0
  cases b <;> cases b' <;> simp at h ⊢ <;> omega
theorem holdB_mono (xs : List PC) {m m' a a' : Bool} (h1 : m' = true → m = true) (h2 : a' = true → a = true) (p : Int) (h : holdB xs m a p = true) : holdB xs m' a' p = true := by
  unfold holdB at h ⊢
  exact decide_eq_true (chn_mono xs (ctr0_mono _ h1) (ctr0_mono _ h2) _ _ _ (of_decide_eq_true h))
theorem told_fewer {N q : List Int} {hold hold' : Int → Bool} (h : ∀ p, hold' p = true → hold p = true) (p : Int) (hp : p ∈ toldL N q hold') : p ∈ toldL N q hold := by
  unfold toldL at hp ⊢
  rw [List.mem_append, mem_head, mem_tail] at hp ⊢
  rcases hp with ⟨h1, h2⟩ | ⟨h1, h2⟩
  · refine .inl ⟨h1, ?_⟩
    simp only [Bool.and_eq_true] at h2 ⊢
    exact ⟨h2.1, h _ h2.2⟩
  · refine .inr ⟨h1, ?_⟩
    unfold tellB at h2 ⊢
    simp only [Bool.and_eq_true] at h2 ⊢
    exact ⟨h2.1, h _ h2.2⟩
/-- One policy alone is asked for. -/
theorem told_one {N : List Int} {hold : Int → Bool} {p : Int} (h1 : 1 ≤ p) (h2 : p ≤ 1000) (hN : p ∈ N) : toldL N [p] hold = if hold p = true then [p] else [] := by
  have hm : ∀ x, x ∈ toldL N [p] hold ↔ x = p ∧ hold p = true := fun x => by
    unfold toldL
    rw [List.mem_append, mem_head, mem_tail]
    unfold tellB
    have e0 : ¬ (0 = p) := by omega
    simp [e0]
    constructor
    · rintro ⟨h3, ⟨h4, rfl⟩, h5⟩; exact ⟨rfl, h5⟩
    · rintro ⟨rfl, h5⟩; exact ⟨⟨h1, h2⟩, ⟨hN, rfl⟩, h5⟩
  have hs := told_sorted N [p] hold
  have hn : (toldL N [p] hold).Nodup := hs.imp (fun h => by omega)
  by_cases e : hold p = true
  · rw [if_pos e]
    refine List.perm_singleton.1 ((List.perm_ext_iff_of_nodup hn (by simp)).2 fun x => ?_)
    rw [hm x]
    simp [e]
  · rw [if_neg e]
    refine List.eq_nil_iff_forall_not_mem.2 fun x hx => e ((hm x).1 hx).2

end Go.Proofs.Ytdkgilkjcndonaa
