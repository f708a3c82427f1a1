import Derived.Test.YtjkkokjojaknkaaDoorFE
import Derived.Test.YtjkkokjojaknkaaDoorFA
namespace Go.Proofs.YtjkkokjojaknkaaDoor
open Go.RowKit

/-- What reading gives: a value and the place behind it, or a code and a place. -/
inductive Rs (α : Type) where
  | ok (x : α) (nx : Nat)
  | no (code place : Nat)

/-- The groups of the tag of the item at p, of which n may still come. -/
def grpR (bs : List Int) (p e : Nat) : Nat → Int → Nat → Rs Int
  | 0, _, q => if q = e then .no 1 e else .no 2 p
  | n + 1, tag, q => if q = e then .no 1 e else if bs.getD q 0 < 128 then .ok (tag * 128 + bs.getD q 0) (q + 1) else grpR bs p e n (tag * 128 + (bs.getD q 0 - 128)) (q + 1)
def clsN (bs : List Int) (p : Nat) : Int := bs.getD p 0 / 64
def consN (bs : List Int) (p : Nat) : Bool := decide (bs.getD p 0 / 32 % 2 = 1)
def tagR (lax : Bool) (bs : List Int) (p e : Nat) : Rs Int :=
  if bs.getD p 0 % 32 = 31 then
    match grpR bs p e 6 0 (p + 1) with
    | .no c q => .no c q
    | .ok t q => if (lax = false ∧ (bs.getD (p + 1) 0 = 128 ∨ t < 31)) ∨ 268435455 < t ∨ (clsN bs p = 0 ∧ t = 0) then .no 2 p else .ok t q
  else if clsN bs p = 0 ∧ bs.getD p 0 % 32 = 0 then .no 2 p else .ok (bs.getD p 0 % 32) (p + 1)

/-- Digits to the base 256, the highest first. -/
def bigL : List Int → Int → Int
  | [], a => a
  | x :: xs, a => bigL xs (a * 256 + x)
def digR (bs : List Int) (q k : Nat) : Int := bigL ((bs.drop q).take k) 0
def lenR (lax cons : Bool) (bs : List Int) (q e : Nat) : Rs (Option Nat) :=
  if q = e then .no 1 e
  else if bs.getD q 0 < 128 then .ok (some (bs.getD q 0).toNat) (q + 1)
  else if bs.getD q 0 = 128 ∧ lax = true ∧ cons = true then .ok none (q + 1)
  else if bs.getD q 0 = 128 ∨ 132 < bs.getD q 0 then .no 3 q
  else if e < q + 1 + (bs.getD q 0 - 128).toNat then .no 1 e
  else if lax = false ∧ (bs.getD (q + 1) 0 = 0 ∨ digR bs (q + 1) (bs.getD q 0 - 128).toNat < 128) then .no 3 q
  else .ok (some (digR bs (q + 1) (bs.getD q 0 - 128).toNat).toNat) (q + 1 + (bs.getD q 0 - 128).toNat)

def closedR (f : Nat → Rs It) (e : Nat) : Nat → List It → Nat → Rs (List It)
  | 0, acc, q => .ok acc q
  | k + 1, acc, q => if q < e then (match f q with
      | .no c p => .no c p
      | .ok x nx => closedR f e k (acc ++ [x]) nx) else .ok acc q
def openR (f : Nat → Rs It) (bs : List Int) (e : Nat) : Nat → List It → Nat → Rs (List It)
  | 0, _, _ => .no 0 0
  | k + 1, acc, q => if q = e then .no 1 e
      else if bs.getD q 0 = 0 then (if q + 1 = e then .no 1 e else if bs.getD (q + 1) 0 = 0 then .ok acc (q + 2) else .no 4 q)
      else match f q with
        | .no c p => .no c p
        | .ok x nx => openR f bs e k (acc ++ [x]) nx
def boxR (cl t : Int) (R : Rs (List It)) (nx : Option Nat) : Rs It := match R with
  | .no c p => .no c p
  | .ok ks q => .ok (.mk cl t true [] ks) (nx.getD q)
/-- What stands behind the head of the item at p. -/
def bodyR (f : Nat → Nat → Rs It) (bs : List Int) (p e : Nat) (t : Int) (R : Rs (Option Nat)) : Rs It := match R with
  | .no c q => .no c q
  | .ok none q => boxR (clsN bs p) t (openR (fun i => f i e) bs e (e - q + 1) [] q) none
  | .ok (some n) q => if e < q + n then .no 1 e
      else if consN bs p = true then boxR (clsN bs p) t (closedR (fun i => f i (q + n)) (q + n) n [] q) (some (q + n))
      else .ok (.mk (clsN bs p) t false ((bs.drop q).take n) []) (q + n)
/-- The item at p within e, r levels deep at most. -/
def itemR (lax : Bool) (bs : List Int) : Nat → Nat → Nat → Rs It
  | 0, p, _ => .no 5 p
  | r + 1, p, e => if p = e then .no 1 e else match tagR lax bs p e with
    | .no c q => .no c q
    | .ok t q => bodyR (itemR lax bs r) bs p e t (lenR lax (consN bs p) bs q e)
/-- What ReadItem tells. -/
def readR (lax : Bool) (bs : List Int) : Rs It :=
  if 20000 < bs.length then .no 7 0 else match itemR lax bs 12 0 bs.length with
    | .no c p => .no c p
    | .ok x nx => if nx < bs.length then .no 6 nx else .ok x nx

theorem grpR_place {bs : List Int} {p e : Nat} : ∀ (n : Nat) (tag : Int) (q : Nat) {t : Int} {nx : Nat}, q ≤ e → grpR bs p e n tag q = .ok t nx → q < nx ∧ nx ≤ e := by
  intro n
  induction n with
  | zero => intro tag q t nx hq h; simp only [grpR] at h; split at h <;> cases h
  | succ n ih =>
    intro tag q t nx hq h
    simp only [grpR] at h
    split at h
    · cases h
    · split at h
      · cases h; omega
      · have := ih _ _ (by omega) h; omega
theorem tagR_place {lax : Bool} {bs : List Int} {p e : Nat} {t : Int} {nx : Nat} (hp : p < e) (h : tagR lax bs p e = .ok t nx) : p < nx ∧ nx ≤ e := by
  unfold tagR at h
  split at h
  · cases hg : grpR bs p e 6 0 (p + 1) with
    | no c q => rw [hg] at h; cases h
    | ok t2 q =>
      rw [hg] at h
      have := grpR_place 6 0 (p + 1) (by omega) hg
      simp only at h
      split at h
      · cases h
      · cases h; omega
  · split at h
    · cases h
    · cases h; omega
theorem lenR_place {lax cons : Bool} {bs : List Int} {q e : Nat} {o : Option Nat} {nx : Nat} (hq : q ≤ e) (h : lenR lax cons bs q e = .ok o nx) : q < nx ∧ nx ≤ e := by
  unfold lenR at h
  by_cases h0 : q = e
  · rw [if_pos h0] at h; cases h
  rw [if_neg h0] at h
  by_cases h1 : bs.getD q 0 < 128
  · rw [if_pos h1] at h; cases h; omega
  rw [if_neg h1] at h
  by_cases h2 : bs.getD q 0 = 128 ∧ lax = true ∧ cons = true
  · rw [if_pos h2] at h; cases h; omega
  rw [if_neg h2] at h
  by_cases h3 : bs.getD q 0 = 128 ∨ 132 < bs.getD q 0
  · rw [if_pos h3] at h; cases h
  rw [if_neg h3] at h
  by_cases h4 : e < q + 1 + (bs.getD q 0 - 128).toNat
  · rw [if_pos h4] at h; cases h
  rw [if_neg h4] at h
  by_cases h5 : lax = false ∧ (bs.getD (q + 1) 0 = 0 ∨ digR bs (q + 1) (bs.getD q 0 - 128).toNat < 128)
  · rw [if_pos h5] at h; cases h
  rw [if_neg h5] at h
  cases h
  omega
theorem closedR_place {f : Nat → Rs It} {e : Nat} (hf : ∀ p x nx, p < e → f p = .ok x nx → p < nx ∧ nx ≤ e) : ∀ (k : Nat) (acc : List It) (q : Nat) {ks : List It} {nx : Nat}, q ≤ e → e ≤ q + k → closedR f e k acc q = .ok ks nx → nx = e := by
  intro k
  induction k with
  | zero => intro acc q ks nx h1 h2 h; simp only [closedR] at h; cases h; omega
  | succ k ih =>
    intro acc q ks nx h1 h2 h
    simp only [closedR] at h
    split at h
    · cases hfq : f q with
      | no c p => rw [hfq] at h; cases h
      | ok x n2 =>
        rw [hfq] at h
        have := hf q x n2 (by assumption) hfq
        exact ih _ _ (by omega) (by omega) h
    · cases h; omega
theorem openR_place {f : Nat → Rs It} {bs : List Int} {e : Nat} (hf : ∀ p x nx, p < e → f p = .ok x nx → p < nx ∧ nx ≤ e) : ∀ (k : Nat) (acc : List It) (q : Nat) {ks : List It} {nx : Nat}, q ≤ e → openR f bs e k acc q = .ok ks nx → q < nx ∧ nx ≤ e := by
  intro k
  induction k with
  | zero => intro acc q ks nx h1 h; simp only [openR] at h; cases h
  | succ k ih =>
    intro acc q ks nx h1 h
    simp only [openR] at h
    split at h
    · cases h
    · split at h
      · split at h
        · cases h
        · split at h
          · cases h; omega
          · cases h
      · cases hfq : f q with
        | no c p => rw [hfq] at h; cases h
        | ok x n2 =>
          rw [hfq] at h
          have h1 := hf q x n2 (by omega) hfq
          have h2 := ih _ _ (by omega) h
          omega
theorem itemR_place {lax : Bool} {bs : List Int} : ∀ (r p e : Nat) {x : It} {nx : Nat}, p ≤ e → itemR lax bs r p e = .ok x nx → p < nx ∧ nx ≤ e := by
  intro r
  induction r with
  | zero => intro p e x nx hp h; simp only [itemR] at h; cases h
  | succ r ih =>
    intro p e x nx hp h
    simp only [itemR] at h
    split at h
    · cases h
    · cases ht : tagR lax bs p e with
      | no c q => rw [ht] at h; cases h
      | ok t q =>
        rw [ht] at h
        have h1 := tagR_place (by omega) ht
        simp only at h
        cases hl : lenR lax (consN bs p) bs q e with
        | no c q2 => rw [hl] at h; cases h
        | ok o q2 =>
          rw [hl] at h
          have h2 := lenR_place h1.2 hl
          cases o with
          | none =>
            simp only [bodyR] at h
            cases ho : openR (fun i => itemR lax bs r i e) bs e (e - q2 + 1) [] q2 with
            | no c q3 => rw [ho] at h; cases h
            | ok ks q3 =>
              rw [ho] at h
              have h3 := openR_place (fun p x nx hp h => ih p e (by omega) h) _ _ _ h2.2 ho
              cases h
              simp only [Option.getD_none]
              omega
          | some n =>
            simp only [bodyR] at h
            split at h
            · cases h
            · split at h
              · cases hc : closedR (fun i => itemR lax bs r i (q2 + n)) (q2 + n) n [] q2 with
                | no c q3 => rw [hc] at h; cases h
                | ok ks q3 =>
                  rw [hc] at h
                  cases h
                  simp only [Option.getD_some]
                  omega
              · cases h; omega

end Go.Proofs.YtjkkokjojaknkaaDoor

namespace Go.Proofs.YtjkkokjojaknkaaDoor
open Go.RowKit

theorem wraps_i64 (n : Int) (h₀ : 0 ≤ n) (h₁ : n < 2 ^ 63) : IntKind.i64.wrap n = n := by rw [IntKind.wrap_i64]; omega
theorem or7 (m x : Int) (hm : 0 ≤ m) (hm' : m < 72057594037927936) (hx : 0 ≤ x) (hx' : x < 128) : bits .or .i64 (m * 128) x = m * 128 + x :=
  bits_join .i64 63 (by decide) wraps_i64 7 (m * 128) x (by omega) (by omega) (by omega) hx hx' (by omega)
theorem and7 (x : Int) (hx : 0 ≤ x) (hx' : x ≤ 255) : bits .and .u8 x 127 = x % 128 := bits_mask .u8 8 (by decide) wraps_u8 7 (by decide) x hx (by omega)

/-- The number in groups that begins the row, with m read ahead of it, at the place p. -/
def getL : List Int → Int → Int → Int × Int × Int
  | [], _, _ => (0, 0, 1)
  | x :: r, m, p => if 72057594037927936 ≤ m then (0, 0, 2) else if x < 128 then (m * 128 + x % 128, p + 1, 0) else getL r (m * 128 + x % 128) (p + 1)
def getN (bs : List Int) (p : Int) : Int × Int × Int :=
  if p < 0 ∨ (bs.length : Int) < p then (0, 0, 3) else if (bs.getD p.toNat 0) = 128 then (0, 0, 2) else getL (bs.drop p.toNat) 0 p

theorem drop_cons {bs : List Int} {k : Nat} (h : k < bs.length) : bs.drop k = bs.getD k 0 :: bs.drop (k + 1) := by
  rw [List.drop_eq_getElem_cons h]; simp [h]
theorem getL_big {bs : List Int} {k : Nat} (h : k < bs.length) {m p : Int} (hm : 72057594037927936 ≤ m) : getL (bs.drop k) m p = (0, 0, 2) := by
  rw [drop_cons h, getL, if_pos hm]
theorem getL_last {bs : List Int} {k : Nat} (h : k < bs.length) {m p : Int} (hm : ¬ 72057594037927936 ≤ m) (hx : bs.getD k 0 < 128) : getL (bs.drop k) m p = (m * 128 + bs.getD k 0 % 128, p + 1, 0) := by
  rw [drop_cons h, getL, if_neg hm, if_pos hx]
theorem getL_next {bs : List Int} {k : Nat} (h : k < bs.length) {m p : Int} (hm : ¬ 72057594037927936 ≤ m) (hx : ¬ bs.getD k 0 < 128) : getL (bs.drop k) m p = getL (bs.drop (k + 1)) (m * 128 + bs.getD k 0 % 128) (p + 1) := by
  rw [drop_cons h, getL, if_neg hm, if_neg hx]
theorem getL_end {bs : List Int} {k : Nat} (h : bs.length ≤ k) {m p : Int} : getL (bs.drop k) m p = (0, 0, 1) := by
  rw [List.drop_eq_nil_of_le h, getL]

def trip (t : Int × Int × Int) : Value := .tuple #[.int .i64 t.1, .int .i64 t.2.1, .int .i64 t.2.2]

end Go.Proofs.YtjkkokjojaknkaaDoor
