import Derived.Test.YtpnaopmpiobemaaR2
import Derived.Test.YtpnaopmpiobemaaM1
namespace Go.Proofs.Ytpnaopmpiobemaa
open Go.RowKit

theorem blocks_apart {w : World} {B B' e e' s s' n m : Nat} {v u : Value} {xs ys : List Value} (h : w.ownsRow B e s v n xs) (k : w.ownsRow B' e' s' u m ys) (hne : e ≠ e') : v.ownBlock = none ∨ v.ownBlock ≠ u.ownBlock := by
  rcases h.2 with ⟨rfl, _⟩ | ⟨g, cap, cur, rfl, _, hg, _⟩
  · exact .inl rfl
  · right
    rcases k.2 with ⟨rfl, _⟩ | ⟨g', cap', cur', rfl, _, hg', _⟩
    · simp [Value.ownBlock]
    · simp only [Value.ownBlock, ne_eq, Option.some.injEq]
      rintro rfl
      rw [hg] at hg'
      simp only [Option.some.injEq, Obj.cells.injEq] at hg'
      exact hne hg'.2.1
abbrev Rw := Option Addr × Nat
def rwv (q : Rw) : Value := .slice q.1 q.2 q.2
def rw0 : Rw := (none, 0)
/-- Rows of our own, each in a block of its own. -/
structure OwnC (B : Nat) (w : World) (a : Option Addr) (n cap : Nat) (qs : List Rw) (bss : List (List Int)) : Prop where
  row : w.ownsRow B 54 1 (.slice a n cap) n (qs.map rwv)
  len : bss.length = n
  each : ∀ j, j < n → Own B w (qs.getD j rw0).1 (qs.getD j rw0).2 (qs.getD j rw0).2 (bss.getD j [])
  apart : ∀ i j l, i < n → j < n → (rwv (qs.getD i rw0)).ownBlock = some l → (rwv (qs.getD j rw0)).ownBlock = some l → i = j
theorem OwnC.qlen {B : Nat} {w : World} {a : Option Addr} {n cap : Nat} {qs : List Rw} {bss : List (List Int)} (h : OwnC B w a n cap qs bss) : qs.length = n := by simpa using h.row.1
theorem ownC_none (B : Nat) (w : World) : OwnC B w none 0 0 [] [] := ⟨World.ownsRow_nil _ _ _ _, rfl, fun _ hj => absurd hj (Nat.not_lt_zero _), fun _ _ _ hi => absurd hi (Nat.not_lt_zero _)⟩
theorem OwnC.kept {B : Nat} {w w' : World} {a : Option Addr} {n cap : Nat} {qs : List Rw} {bss : List (List Int)} (h : OwnC B w a n cap qs bss) (hb : Below w.heap.size w w') : OwnC B w' a n cap qs bss :=
  ⟨ownsRow_below h.row hb, h.len, fun j hj => (h.each j hj).kept hb, h.apart⟩
theorem OwnC.mono {B B' : Nat} {w : World} {a : Option Addr} {n cap : Nat} {qs : List Rw} {bss : List (List Int)} (h : OwnC B w a n cap qs bss) (hB : B' ≤ B) : OwnC B' w a n cap qs bss :=
  ⟨⟨h.row.1, by rcases h.row.2 with h | ⟨g, cap, cur, hv, hb, r⟩; exact .inl h; exact .inr ⟨g, cap, cur, hv, by omega, r⟩⟩, h.len, fun j hj => (h.each j hj).mono hB, h.apart⟩
theorem OwnC.same {B : Nat} {w w' : World} {a : Option Addr} {n cap : Nat} {qs : List Rw} {bss : List (List Int)} (h : OwnC B w a n cap qs bss) (e : ∀ g, B ≤ g → w'.heap[g]? = w.heap[g]?) : OwnC B w' a n cap qs bss :=
  ⟨ownsRow_same h.row e, h.len, fun j hj => (h.each j hj).same e, h.apart⟩
theorem OwnC.rows {B : Nat} {w : World} {a : Option Addr} {n cap : Nat} {qs : List Rw} {bss : List (List Int)} (h : OwnC B w a n cap qs bss) : Rows2 w a n bss := by
  refine ⟨h.len, fun k hk => ?_⟩
  have hq := h.qlen
  rcases h.row.2 with ⟨_, h0⟩ | ⟨g, cap', cur, hv, hb, hg, _⟩
  · omega
  · simp only [Value.slice.injEq] at hv
    obtain ⟨rfl, _, rfl⟩ := hv
    refine ⟨g, 0, rfl, (Array.getElem?_eq_some_iff.1 hg).1, _, _, _, ?_, (h.each k hk).toRow, (h.each k hk).nil⟩
    rw [Nat.zero_add, h.row.cellAt k (by omega)]
    simp [rwv, hq, hk]
theorem OwnC.nil {B : Nat} {w : World} {a : Option Addr} {n cap : Nat} {qs : List Rw} {bss : List (List Int)} (h : OwnC B w a n cap qs bss) : a = none → n = 0 := by
  rintro rfl
  rcases h.row.2 with ⟨_, h0⟩ | ⟨g, cap', cur, hv, _⟩
  · exact h0
  · simp at hv
theorem rows_lt {B : Nat} {w : World} {a : Option Addr} {n cap : Nat} {qs : List Rw} {bss : List (List Int)} (h : OwnC B w a n cap qs bss) {j l : Nat} (hj : j < n) (hl : (rwv (qs.getD j rw0)).ownBlock = some l) : B ≤ l ∧ l < w.heap.size := (h.each j hj).row.lt l hl
/-- A row more. -/
theorem OwnC.appended {B : Nat} {w w' : World} {a a' : Option Addr} {n cap cap' : Nat} {qs : List Rw} {bss : List (List Int)} {q : Rw} {bs : List Int} (h : OwnC B w a n cap qs bss) (ho : Own B w q.1 q.2 q.2 bs) (hap : ∀ j l, j < n → (rwv (qs.getD j rw0)).ownBlock = some l → (rwv q).ownBlock = some l → False)
    (hv : w'.ownsRow B 54 1 (.slice a' (n + 1) cap') (n + 1) ((qs ++ [q]).map rwv)) (hg : w.grownBy w' (Value.slice a n cap).ownBlock) : OwnC B w' a' (n + 1) cap' (qs ++ [q]) (bss ++ [bs]) := by
  have hq := h.qlen
  have gq : ∀ j, j < n → (qs ++ [q]).getD j rw0 = qs.getD j rw0 := fun j hj => by simp [List.getElem?_append, hq, hj]
  have gn : (qs ++ [q]).getD n rw0 = q := by simp [← hq]
  have gb : ∀ j, j < n → (bss ++ [bs]).getD j [] = bss.getD j [] := fun j hj => by simp [List.getElem?_append, h.len, hj]
  have gm : (bss ++ [bs]).getD n [] = bs := by simp [← h.len]
  refine ⟨hv, by simp [h.len], fun j hj => ?_, fun i j l hi hj hil hjl => ?_⟩
  · by_cases e : j < n
    · rw [gq j e, gb j e]
      exact ⟨(h.each j e).row.kept hg (blocks_apart (h.each j e).row h.row (by decide)), (h.each j e).byte⟩
    · obtain rfl : j = n := by omega
      rw [gn, gm]
      exact ⟨ho.row.kept hg (blocks_apart ho.row h.row (by decide)), ho.byte⟩
  · by_cases ei : i < n
    · rw [gq i ei] at hil
      by_cases ej : j < n
      · rw [gq j ej] at hjl
        exact h.apart i j l ei ej hil hjl
      · obtain rfl : j = n := by omega
        rw [gn] at hjl
        exact (hap i l ei hil hjl).elim
    · obtain rfl : i = n := by omega
      rw [gn] at hil
      by_cases ej : j < i
      · rw [gq j ej] at hjl
        exact (hap j l ej hjl hil).elim
      · omega
theorem owns_shapeC {w : World} {B e s n : Nat} {v : Value} {xs : List Value} (h : w.ownsRow B e s v n xs) : ∃ a c, v = .slice a n c := by
  rcases h.2 with ⟨rfl, rfl⟩ | ⟨g, cap, cur, rfl, _⟩
  · exact ⟨_, _, rfl⟩
  · exact ⟨_, _, rfl⟩
theorem total_snoc (bss : List (List Int)) (bs : List Int) : total (bss ++ [bs]) = total bss + bs.length := by simp [total]
def rcQ (bs : List Int) (bss : List (List Int)) : Prop := ∃ n to q, getN bs 0 = (n, to, 0) ∧ n ≤ 30 ∧ rdI bs to n.toNat = some (bss, q)
def RsR (bs : List Int) (w : World) (e : Ending) (w' : World) : Prop :=
  ((∀ bss, ¬ rcQ bs bss) ∧ e = .returned (.tuple #[.agg #[.slice none 0 0], .bool false]) ∧ Below w.heap.size w w') ∨
  ∃ (n cap : Nat) (a : Option Addr) (qs : List Rw) (bss : List (List Int)), rcQ bs bss ∧ n ≤ 30 ∧ total bss ≤ 5000000 ∧ e = .returned (.tuple #[.agg #[.slice a n cap], .bool true]) ∧ OwnC w.heap.size w' a n cap qs bss ∧ Below w.heap.size w w'
theorem results_cs2 {fn : Func} {t u : Tmp} (h : fn.results = #[.cell t 25, .tmp u]) (tmps : Array Value) (g : Nat) (ht : tmps.getD t undef = .pointer (some ⟨g, 0, none⟩)) (x : Value) (hu : tmps.getD u undef = x) (w : World) (c0 : Value)
    (hb : w.heap[g]? = some (.cells #[c0] 25 (0, 0))) : (results fn tmps).run Try.prog w = .ok (.tuple #[.agg #[c0], x]) w := by
  have d0 : w.cell? ⟨g, 0, none⟩ = some c0 := (cell_of_row _ g 0 _ 25 (0, 0) hb).trans rfl
  clear hb
  have ht' : tmps[t]?.getD undef = .pointer (some ⟨g, 0, none⟩) := by rw [← ht]; simp
  have hu' : tmps[u]?.getD undef = x := by rw [← hu]; simp
  simp [results, h, go_sem, ht', hu', d0]
theorem rdI_none {bs : List Int} {p : Int} {i n : Nat} (h : rdI bs p i = none) (hn : i ≤ n) : rdI bs p n = none := by
  obtain ⟨d, rfl⟩ : ∃ d, n = i + d := ⟨n - i, by omega⟩
  clear hn
  induction d with
  | zero => exact h
  | succ d ih => rw [← Nat.add_assoc, rdI, ih]
theorem rcQ_none {bs : List Int} {n to : Int} {i : Nat} (hg : getN bs 0 = (n, to, 0)) (h : rdI bs to i = none) (hi : i ≤ n.toNat) : ∀ bss, ¬ rcQ bs bss := by
  rintro bss ⟨n', to', q, h1, _, h2⟩
  rw [hg] at h1
  simp only [Prod.mk.injEq, and_true] at h1
  obtain ⟨rfl, rfl⟩ := h1
  rw [rdI_none h hi] at h2
  cases h2

end Go.Proofs.Ytpnaopmpiobemaa
