import Derived.Test.YtjkkokjojaknkaaDoorW2
namespace Go.Proofs.YtjkkokjojaknkaaDoor
open Go.RowKit

theorem wraps_i64 (n : Int) (h₀ : 0 ≤ n) (h₁ : n < 2 ^ 63) : IntKind.i64.wrap n = n := by rw [IntKind.wrap_i64]; omega
theorem or7 (m x : Int) (hm : 0 ≤ m) (hm' : m < 72057594037927936) (hx : 0 ≤ x) (hx' : x < 128) : bits .or .i64 (m * 128) x = m * 128 + x :=
  bits_join .i64 63 (by decide) wraps_i64 7 (m * 128) x (by omega) (by omega) (by omega) hx hx' (by omega)
theorem and7 (x : Int) (hx : 0 ≤ x) (hx' : x ≤ 255) : bits .and .u8 x 127 = x % 128 := bits_mask .u8 8 (by decide) wraps_u8 7 (by decide) x hx (by omega)

/-- The number in groups that begins the row, with m read ahead of it, at the place p. -/
def getL : List Int → Int → Int → Int × Int × Int
  | [], _, _ => (0, 0, 1)
  | x :: r, m, p => if 72057594037927936 ≤ m then (0, 0, 2) else if x < 128 then (m * 128 + x % 128, p + 1, 0) else getL r (m * 128 + x % 128) (p + 1)
def getN (bs : List Int) (p : Int) : Int × Int × Int :=
  if p < 0 ∨ (bs.length : Int) < p then (0, 0, 3) else if (bs.getD p.toNat 0) = 128 then (0, 0, 2) else getL (bs.drop p.toNat) 0 p

theorem drop_cons {bs : List Int} {k : Nat} (h : k < bs.length) : bs.drop k = bs.getD k 0 :: bs.drop (k + 1) := by
  rw [List.drop_eq_getElem_cons h]; simp [h]
theorem getL_big {bs : List Int} {k : Nat} (h : k < bs.length) {m p : Int} (hm : 72057594037927936 ≤ m) : getL (bs.drop k) m p = (0, 0, 2) := by
  rw [drop_cons h, getL, if_pos hm]
theorem getL_last {bs : List Int} {k : Nat} (h : k < bs.length) {m p : Int} (hm : ¬ 72057594037927936 ≤ m) (hx : bs.getD k 0 < 128) : getL (bs.drop k) m p = (m * 128 + bs.getD k 0 % 128, p + 1, 0) := by
  rw [drop_cons h, getL, if_neg hm, if_pos hx]
theorem getL_next {bs : List Int} {k : Nat} (h : k < bs.length) {m p : Int} (hm : ¬ 72057594037927936 ≤ m) (hx : ¬ bs.getD k 0 < 128) : getL (bs.drop k) m p = getL (bs.drop (k + 1)) (m * 128 + bs.getD k 0 % 128) (p + 1) := by
  rw [drop_cons h, getL, if_neg hm, if_neg hx]
theorem getL_end {bs : List Int} {k : Nat} (h : bs.length ≤ k) {m p : Int} : getL (bs.drop k) m p = (0, 0, 1) := by
  rw [List.drop_eq_nil_of_le h, getL]

def trip (t : Int × Int × Int) : Value := .tuple #[.int .i64 t.1, .int .i64 t.2.1, .int .i64 t.2.2]

end Go.Proofs.YtjkkokjojaknkaaDoor
