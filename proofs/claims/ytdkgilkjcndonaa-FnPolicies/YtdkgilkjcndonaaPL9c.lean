import Derived.Test.YtdkgilkjcndonaaPL9b
import Derived.DeepKeys4
namespace Go.Proofs.Ytdkgilkjcndonaa
open Go.RowKit Go.Maps

theorem laidOutP : laidOutB Try.prog = true := by kernel_rfl
theorem kRow : (104 : TypeId) < Try.prog.types.size := of_decide_eq_true (by kernel_rfl)
theorem kWide : (match Try.prog.underlying 104 with | some (.array _ _) | some (.struct _) => true | _ => false) = true := by rw [Try.underlying104]
set_option maxRecDepth 20000 in
theorem kLaw : Keyed Try.prog 104 := Keyed.of_law (deep_law_laid laidOutP (m := 2) (by omega) kRow (by kernel_rfl) kWide)
theorem kCells : Try.prog.cellsOf 104 = 2 := by kernel_rfl
theorem kCell2 : Try.prog.cellsOf 2 = 1 := by kernel_rfl
theorem kType : Try.prog.keyType 104 = true := by kernel_rfl
theorem zero2 (w : World) : (zeroValue 2).run Try.prog w = .ok (.int .i64 0) w := by kernel_rfl
theorem pos_succ {a n : Nat} (h : a < n) : ∃ m, n = m + 1 := ⟨n - 1, by omega⟩
set_option maxRecDepth 20000 in
theorem kSize : ∃ m, Try.prog.types.size = m + 1 := pos_succ (a := 104) kRow

/-- A place and a policy as a key. -/
def kl (a b : Int) : Lit := .string (keyBytes [.int .i64 a, .int .i64 b])
theorem key_is {a b : Int} (ha : (Lit.int .i64 a).wf = true) (hb : (Lit.int .i64 b).wf = true) : Go.keyOf Try.prog 104 (.agg #[.int .i64 a, .int .i64 b]) = some (kl a b) := by
  obtain ⟨m, hm⟩ := kSize
  unfold Go.keyOf
  rw [Try.underlying104]
  have hf : (Value.agg #[.int .i64 a, .int .i64 b]).formed Try.prog 104 = true := by simp [Value.formed, Try.underlying104, kCells]
  simp only [kType, hf, Bool.and_self, if_true]
  have h1 : Try.prog.keyLits (m + 1) 2 [.int .i64 a] = some [.int .i64 a] := by simp [Program.keyLits, Try.underlying2, ha]
  have h2 : Try.prog.keyLits (m + 1) 2 [.int .i64 b] = some [.int .i64 b] := by simp [Program.keyLits, Try.underlying2, hb]
  have h3 : Try.prog.keyLits (m + 1 + 1) 104 [.int .i64 a, .int .i64 b] = some [.int .i64 a, .int .i64 b] := by
    unfold Program.keyLits
    simp only [Try.underlying104]
    simp [kCells, kCell2, List.range, List.range.loop, h1, h2]
  have hc : (Value.agg #[.int .i64 a, .int .i64 b]).cells.toList = [.int .i64 a, .int .i64 b] := by simp [Value.cells]
  rw [hm, hc, h3]
  rfl
theorem key_inj {a b c d : Int} (ha : (Lit.int .i64 a).wf = true) (hb : (Lit.int .i64 b).wf = true) (hc : (Lit.int .i64 c).wf = true) (hd : (Lit.int .i64 d).wf = true) (h : kl a b = kl c d) : a = c ∧ b = d := by
  have h1 := key_is ha hb
  have h2 := key_is hc hd
  rw [h] at h1
  have := kLaw.inj h1 h2
  simpa using this
theorem isKey {a b : Int} (ha : (Lit.int .i64 a).wf = true) (hb : (Lit.int .i64 b).wf = true) : WideAt.IsKeyLit (kl a b) := kLaw.key (key_is ha hb)

/-- The map holds nothing but chains that were counted. -/
def Memo (D : DataW Unit) (f : Nat → Int → Int) : Prop := ∀ (i : Nat) (q : Int), i ≤ 8 → 0 ≤ q → q ≤ 1000 → Maps.has D (kl i q) = true → D.atKey (kl i q) (.lit (.int .i64 0)) = .lit (.int .i64 (f i q))
theorem wf_small {x : Int} (h0 : 0 ≤ x) (h1 : x ≤ 1000000000) : (Lit.int .i64 x).wf = true := WalkArith.wf_i64 (by omega)
theorem memo_none (f : Nat → Int → Int) : Memo (.map []) f := fun i q _ _ _ h => by cases h
theorem memo_put {D : DataW Unit} {f : Nat → Int → Int} (hD : IsMap D) (h : Memo D f) (i : Nat) (q : Int) (hi : i ≤ 8) (h0 : 0 ≤ q) (h1 : q ≤ 1000) : Memo (D.put (kl i q) (.lit (.int .i64 (f i q)))) f := by
  intro j r hj r0 r1 hh
  by_cases e : kl (j : Int) r = kl (i : Int) q
  · obtain ⟨e1, e2⟩ := key_inj (wf_small (by omega) (by omega)) (wf_small r0 (by omega)) (wf_small (by omega) (by omega)) (wf_small h0 (by omega)) e
    obtain rfl : j = i := by omega
    subst e2
    exact atKey_put_same hD (isKey (wf_small (by omega) (by omega)) (wf_small h0 (by omega))) _ _
  · rw [has_put_other e] at hh
    rw [atKey_put_other e]
    exact h j r hj r0 r1 hh

/-- How many entries are made at most. -/
def tn : Nat → Nat
  | 0 => 0
  | m + 1 => 6 * tn m + 1
theorem tn_le : ∀ m, m ≤ 8 → tn m ≤ 2015539
  | 0, _ => by decide
  | 1, _ => by decide
  | 2, _ => by decide
  | 3, _ => by decide
  | 4, _ => by decide
  | 5, _ => by decide
  | 6, _ => by decide
  | 7, _ => by decide
  | 8, _ => by decide
theorem six_le : ∀ m, m ≤ 8 → six m ≤ 1679616
  | 0, _ => by decide
  | 1, _ => by decide
  | 2, _ => by decide
  | 3, _ => by decide
  | 4, _ => by decide
  | 5, _ => by decide
  | 6, _ => by decide
  | 7, _ => by decide
  | 8, _ => by decide

/-- The map of a walk, and what it holds. -/
structure MapAt (w : World) (bm n : Nat) (f : Nat → Int → Int) : Prop where
  own : ∃ D : DataW Unit, w.ownsMap Try.prog 104 (plainElem Try.prog 2) bm n D ∧ Memo D f
theorem MapAt.below {w w' : World} {bm n : Nat} {f : Nat → Int → Int} (h : MapAt w bm n f) (hb : Below w.heap.size w w') : MapAt w' bm n f := by
  obtain ⟨D, hD, hm⟩ := h.own
  have hl := hD.lt
  obtain ⟨es, clock, he, F, hs, hd⟩ := hD
  exact ⟨D, ⟨es, clock, (hb.block bm hl).trans he, F, hs, hd⟩, hm⟩
theorem MapAt.mono {w : World} {bm n n' : Nat} {f : Nat → Int → Int} (h : MapAt w bm n f) (hn : n ≤ n') : MapAt w bm n' f := by
  obtain ⟨D, hD, hm⟩ := h.own
  exact ⟨D, hD.mono hn, hm⟩
theorem MapAt.map {w : World} {bm n : Nat} {f : Nat → Int → Int} (h : MapAt w bm n f) : ∃ es cl, w.heap[bm]? = some (.map es cl) := by
  obtain ⟨D, hD, _⟩ := h.own
  obtain ⟨es, clock, he, _⟩ := hD
  exact ⟨es, clock, he⟩
theorem touch_grownP {w w' : World} {b : Nat} (h : w.grownBy w' (some b)) : Touch b (b + 1) w w' :=
  ⟨h.os, h.tape, h.output, h.size, fun k hk ho => h.block k hk (by intro e; cases e; omega)⟩

/-- What a count of chains answers. -/
def ChR (w : World) (bm n t : Nat) (f : Nat → Int → Int) (c : Int) (e : Ending) (w' : World) : Prop := e = .returned (.int .i64 c) ∧ MapAt w' bm (n + t) f ∧ Touch bm (bm + 1) w w'

theorem getD_pm (ms : List (Int × Int)) (k : Nat) (h : k < ms.length) : ms.getD k (0, 0) = ms[k] := by simp [h]
theorem nx_range (xs : List PC) (m0 : Int) (i : Nat) (q : Int) (hp : pathP xs) (hi : i < xs.length) (h0 : 0 ≤ q) (h1 : q ≤ 1000) : ∀ r ∈ nx xs m0 i q, 0 ≤ r ∧ r ≤ 1000 := by
  intro r hr
  have ht : ∀ r ∈ tosOf (xs.getD i default).maps q, 0 ≤ r ∧ r ≤ 1000 := fun r hr => by
    unfold tosOf at hr
    obtain ⟨p, hp', rfl⟩ := List.mem_map.1 hr
    obtain ⟨k, hk, rfl⟩ := List.getElem_of_mem (List.mem_filter.1 hp').1
    have := (hp.2 i hi).2.2.2.2 k hk
    rw [getD_pm _ k hk] at this
    exact ⟨by omega, this.2.2⟩
  unfold nx at hr
  split at hr
  · simp at hr; subst hr; exact ⟨h0, h1⟩
  · split at hr
    · exact ht r hr
    · simp at hr

end Go.Proofs.Ytdkgilkjcndonaa
