import Derived.Test.YtbfjkmlmnhphoaaDoorCO8
import Derived.Maps.OwnSet
import Derived.Maps.Views
import Derived.Test.YtbfjkmlmnhphoaaDoorRK
set_option linter.unusedVariables false
namespace Go.Proofs.YtbfjkmlmnhphoaaDoor
open Go.RowKit Go.Maps

theorem laidOutP : laidOutB Tryd.prog = true := by kernel_rfl
theorem kRow : (99 : TypeId) < Tryd.prog.types.size := of_decide_eq_true (by kernel_rfl)
theorem kWide : (match Tryd.prog.underlying 99 with | some (.array _ _) | some (.struct _) => true | _ => false) = true := by rw [Tryd.underlying99]
set_option maxRecDepth 20000 in
theorem kLaw : Keyed Tryd.prog 99 := Keyed.of_law (deep_law_laid laidOutP (m := 2) (by omega) kRow (by kernel_rfl) kWide)
theorem kCells : Tryd.prog.cellsOf 99 = 2 := by kernel_rfl
theorem kCell2 : Tryd.prog.cellsOf 2 = 1 := by kernel_rfl
theorem kCell9 : Tryd.prog.cellsOf 9 = 1 := by kernel_rfl
theorem kType : Tryd.prog.keyType 99 = true := by kernel_rfl
theorem pos_succ {a n : Nat} (h : a < n) : ∃ m, n = m + 1 := ⟨n - 1, by omega⟩
set_option maxRecDepth 20000 in
theorem kSize : ∃ m, Tryd.prog.types.size = m + 1 := pos_succ (a := 99) kRow
/-- A name's text and a serial as a key. -/
def kl (s : ByteArray) (n : Int) : Lit := .string (keyBytes [.string s.data.toList, .int .i64 n])
theorem key_is {s : ByteArray} {n : Int} (hs : s.size ≤ maxLen) (hn : (Lit.int .i64 n).wf = true) : Go.keyOf Tryd.prog 99 (.agg #[.string s, .int .i64 n]) = some (kl s n) := by
  obtain ⟨m, hm⟩ := kSize
  unfold Go.keyOf
  rw [Tryd.underlying99]
  have hf : (Value.agg #[.string s, .int .i64 n]).formed Tryd.prog 99 = true := by simp [Value.formed, Tryd.underlying99, kCells]
  simp only [kType, hf, Bool.and_self, if_true]
  have h1 : Tryd.prog.keyLits (m + 1) 9 [.string s] = some [.string s.data.toList] := by simp [Program.keyLits, Tryd.underlying9, hs]
  have h2 : Tryd.prog.keyLits (m + 1) 2 [.int .i64 n] = some [.int .i64 n] := by simp [Program.keyLits, Tryd.underlying2, hn]
  have h3 : Tryd.prog.keyLits (m + 1 + 1) 99 [.string s, .int .i64 n] = some [.string s.data.toList, .int .i64 n] := by
    unfold Program.keyLits
    simp only [Tryd.underlying99]
    simp [kCells, kCell2, kCell9, h1, h2]
  have hc : (Value.agg #[.string s, .int .i64 n]).cells.toList = [.string s, .int .i64 n] := by simp [Value.cells]
  rw [hm, hc, h3]
  rfl
theorem key_inj {s t : ByteArray} {m n : Int} (hs : s.size ≤ maxLen) (ht : t.size ≤ maxLen) (hm : (Lit.int .i64 m).wf = true) (hn : (Lit.int .i64 n).wf = true) (h : kl s m = kl t n) : s = t ∧ m = n := by
  have h1 := key_is hs hm
  have h2 := key_is ht hn
  rw [h] at h1
  have := kLaw.inj h1 h2
  simpa using this
theorem isKey {s : ByteArray} {n : Int} (hs : s.size ≤ maxLen) (hn : (Lit.int .i64 n).wf = true) : WideAt.IsKeyLit (kl s n) := kLaw.key (key_is hs hn)

end Go.Proofs.YtbfjkmlmnhphoaaDoor

set_option linter.unusedVariables false
namespace Go.Proofs.YtbfjkmlmnhphoaaDoor
open Go.RowKit Go.Maps

theorem opw_mapUpdate {H : Type} {P : Program} {Q : Exit → Act → World → Prop} {o : Oper} {a : Act} {w : World} {K : Act → World → Prop} (m x v : Nat) (t : TypeId) (hop : o.op = .mapUpdate t (.tmp m) (.tmp x) (.tmp v))
    (k e : TypeId) (KL : Keyed P k) (ht : P.underlying t = some (.map k e)) (R : Value → Option (DataW H × List MemPlace)) (b n : Nat) (D : DataW H)
    (hm : aT a m = .map (some b)) (hown : w.ownsMap P k R b n D) (hn : n < maxLen) (key val : Value) (l : Lit) (hx : aT a x = key) (hv : aT a v = val) (hkey : Go.keyOf P k key = some l)
    (d : DataW H) (ps : List MemPlace) (hval : R val = some (d, ps))
    (hK : ∀ w', w'.ownsMap P k R b (n + 1) (D.put l d) → w.grownBy w' (some b) → K (a.put o.dst undef) w') : o.wp P a w K Q := by
  obtain ⟨w', hrun, r1, r2⟩ := hown.update KL ht hn hkey hval
  have hm' : a.eval (.tmp m) = .map (some b) := hm
  have hx' : a.eval (.tmp x) = key := hx
  have hv' : a.eval (.tmp v) = val := hv
  unfold Oper.wp
  simp [execOp, hop, hm', hx', hv', hrun, Result.andThen]
  exact hK w' r1 r2
theorem addKey_str (acc : List (List UInt8)) (x : List UInt8) : addKey (acc.map Lit.string) (.string x) = (if x ∈ acc then acc else acc ++ [x]).map Lit.string := by
  unfold addKey
  have e : ((acc.map Lit.string).any fun y => y.sameKey (.string x)) = decide (x ∈ acc) := by
    induction acc with
    | nil => rfl
    | cons z acc ih =>
      rw [List.map_cons, List.any_cons, ih]
      by_cases h : z = x
      · subst h; simp [Lit.sameKey]
      · have h2 : ¬ x = z := fun q => h q.symm
        simp [Lit.sameKey, h, h2]
  rw [e]
  by_cases h : x ∈ acc <;> simp [h]
def addS (acc : List (List UInt8)) (x : List UInt8) : List (List UInt8) := if x ∈ acc then acc else acc ++ [x]
theorem fold_str : ∀ (xs acc : List (List UInt8)), (xs.map Lit.string).foldl addKey (acc.map Lit.string) = (xs.foldl addS acc).map Lit.string
  | [], acc => rfl
  | x :: xs, acc => by
    rw [List.map_cons, List.foldl_cons, addKey_str]
    exact fold_str xs (addS acc x)
theorem addS_mem (acc : List (List UInt8)) (x y : List UInt8) : y ∈ addS acc x ↔ y ∈ acc ∨ y = x := by
  unfold addS
  split
  · rename_i h
    exact ⟨.inl, fun q => q.elim id (fun e => by rw [e]; exact h)⟩
  · simp
theorem fold_mem : ∀ (xs acc : List (List UInt8)) (y : List UInt8), y ∈ xs.foldl addS acc ↔ y ∈ acc ∨ y ∈ xs
  | [], acc, y => by simp
  | x :: xs, acc, y => by rw [List.foldl_cons, fold_mem xs, addS_mem]; simp [or_assoc]
/-- As many keys as entries: no two are alike. -/
theorem fold_len : ∀ (xs acc : List (List UInt8)), (xs.foldl addS acc).length ≤ acc.length + xs.length ∧ ((xs.foldl addS acc).length = acc.length + xs.length ↔ (∀ y ∈ xs, y ∉ acc) ∧ xs.Nodup)
  | [], acc => by simp
  | x :: xs, acc => by
    have ih := fold_len xs (addS acc x)
    rw [List.foldl_cons]
    by_cases h : x ∈ acc
    · have e : addS acc x = acc := by unfold addS; rw [if_pos h]
      rw [e] at ih ⊢
      refine ⟨by simp only [List.length_cons]; omega, ⟨fun q => ?_, fun q => absurd h (q.1 x (List.Mem.head _))⟩⟩
      simp only [List.length_cons] at q
      omega
    · have e : (addS acc x).length = acc.length + 1 := by unfold addS; rw [if_neg h]; simp
      refine ⟨by simp only [List.length_cons]; omega, ?_⟩
      have e2 : ((xs.foldl addS (addS acc x)).length = acc.length + (x :: xs).length) ↔ (xs.foldl addS (addS acc x)).length = (addS acc x).length + xs.length := by simp only [List.length_cons]; omega
      rw [e2, ih.2, List.nodup_cons]
      constructor
      · rintro ⟨q1, q2⟩
        refine ⟨fun y hy => ?_, fun hx => q1 x hx ((addS_mem _ _ _).2 (.inr rfl)), q2⟩
        rcases List.mem_cons.1 hy with rfl | hy
        · exact h
        · exact fun ha => q1 y hy ((addS_mem _ _ _).2 (.inl ha))
      · rintro ⟨q1, q2, q3⟩
        refine ⟨fun y hy ha => ?_, q3⟩
        rcases (addS_mem _ _ _).1 ha with ha | rfl
        · exact q1 y (List.Mem.tail _ hy) ha
        · exact q2 hy

end Go.Proofs.YtbfjkmlmnhphoaaDoor
