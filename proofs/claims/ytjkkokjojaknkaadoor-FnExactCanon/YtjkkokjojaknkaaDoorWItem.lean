import Derived.Test.YtjkkokjojaknkaaDoorW3
namespace Go.Proofs.YtjkkokjojaknkaaDoor
open Go.RowKit

inductive It where
  | mk (cls tag : Int) (cons : Bool) (body : List Int) (kids : List It)
instance : Inhabited It := ⟨.mk 0 0 false [] []⟩
def It.cls : It → Int | .mk c _ _ _ _ => c
def It.tag : It → Int | .mk _ t _ _ _ => t
def It.cons : It → Bool | .mk _ _ b _ _ => b
def It.body : It → List Int | .mk _ _ _ b _ => b
def It.kids : It → List It | .mk _ _ _ _ k => k

/-- The value of an item: its five fields. -/
def itv (x : It) (ab : Option Addr) (nb cb : Nat) (ak : Option Addr) (nk ck : Nat) : Value := .agg #[.int .i64 x.cls, .int .i64 x.tag, .bool x.cons, .slice ab nb cb, .slice ak nk ck]

/-- The slice at a reads as these items, none deeper than d. -/
def Kids : Nat → World → Option Addr → Nat → List It → Prop
  | 0, _, _, _, _ => False
  | d + 1, w, a, n, xs => xs.length = n ∧ n ≤ 9223372036854775807 ∧ ∀ k, k < n → ∃ b off, a = some ⟨b, off, none⟩ ∧ b < w.heap.size ∧ ∃ ab nb cb ak nk ck,
      w.cell? ⟨b, off + k * 5, none⟩ = some (.int .i64 (xs.getD k default).cls) ∧ w.cell? ⟨b, off + k * 5 + 1, none⟩ = some (.int .i64 (xs.getD k default).tag) ∧ w.cell? ⟨b, off + k * 5 + 2, none⟩ = some (.bool (xs.getD k default).cons)
      ∧ w.cell? ⟨b, off + k * 5 + 3, none⟩ = some (.slice ab nb cb) ∧ w.cell? ⟨b, off + k * 5 + 4, none⟩ = some (.slice ak nk ck)
      ∧ Row w ab nb (xs.getD k default).body ∧ (ab = none → cb = 0) ∧ nb ≤ 9223372036854775807 ∧ Kids d w ak nk (xs.getD k default).kids

theorem Kids.kept {d : Nat} : ∀ {w w' : World} {a : Option Addr} {n : Nat} {xs : List It}, Kids d w a n xs → Below w.heap.size w w' → Kids d w' a n xs := by
  induction d with
  | zero => intro _ _ _ _ _ h; exact h.elim
  | succ d ih =>
    intro w w' a n xs h hb
    refine ⟨h.1, h.2.1, fun k hk => ?_⟩
    obtain ⟨b, off, ha, hlt, ab, nb, cb, ak, nk, ck, c0, c1, c2, c3, c4, hr, hn, hm, hk⟩ := h.2.2 k hk
    have cc : ∀ j, w'.cell? ⟨b, j, none⟩ = w.cell? ⟨b, j, none⟩ := fun j => hb.cell (p := ⟨b, j, none⟩) hlt
    exact ⟨b, off, ha, Nat.lt_of_lt_of_le hlt hb.size, ab, nb, cb, ak, nk, ck, (cc _).trans c0, (cc _).trans c1, (cc _).trans c2, (cc _).trans c3, (cc _).trans c4, hr.kept hb, hn, hm, ih hk hb⟩

/-- How much an item weighs: its bytes, its kids, and what they weigh. -/
def wtS : Nat → List It → Nat
  | 0, _ => 0
  | d + 1, xs => xs.length + (xs.map fun x => x.body.length + wtS d x.kids).sum
def szR (t : Nat) (left : Int) : Int := if (t : Int) ≤ left then left - t else -1

/-- What the first k of them weigh. -/
def wtP (d : Nat) (xs : List It) (k : Nat) : Nat := ((xs.take k).map fun x => x.body.length + wtS d x.kids).sum
theorem wtP_next (d : Nat) (xs : List It) (k : Nat) (h : k < xs.length) : wtP d xs (k + 1) = wtP d xs k + ((xs.getD k default).body.length + wtS d (xs.getD k default).kids) := by
  have e : xs.getD k default = xs[k] := by simp [h]
  unfold wtP
  rw [List.take_succ_eq_append_getElem h, List.map_append, List.sum_append, e]
  simp
theorem wtP_le (d : Nat) (xs : List It) (k : Nat) : wtP d xs k ≤ wtP d xs xs.length := by
  unfold wtP
  rw [List.take_length]
  conv => rhs; rw [← List.take_append_drop k xs, List.map_append, List.sum_append]
  omega
theorem wtS_succ (d : Nat) (xs : List It) : wtS (d + 1) xs = xs.length + wtP d xs xs.length := by
  unfold wtP
  rw [List.take_length]
  rfl

end Go.Proofs.YtjkkokjojaknkaaDoor
