import Derived.Test.YtglmaoigjnoklaaS3
import Derived.Laws.MathBits
namespace Go.Proofs.Ytglmaoigjnoklaa
open Go.RowKit

/-- How many bits a number in n has. -/
def wid (n : Int) : Int := (bitLen (n - 1).toNat : Int)
theorem wid_nonneg (n : Int) : 0 ≤ wid n := by unfold wid; omega
theorem bitLen_lt (x b : Nat) (h : x < 2 ^ b) : bitLen x ≤ b := by
  unfold bitLen
  split
  · omega
  · rename_i h0
    have := (Nat.log2_lt h0).2 h
    omega
theorem wid_le (n : Int) (b : Nat) (h : n ≤ ((2 ^ b : Nat) : Int)) : wid n ≤ b := by
  unfold wid
  have hp : 0 < 2 ^ b := Nat.two_pow_pos b
  have := bitLen_lt (n - 1).toNat b (by omega)
  omega
theorem wid2 : wid 2 = 1 := by decide +kernel
theorem wid256 : wid 256 = 8 := by decide +kernel
theorem wid95 : wid 95 = 7 := by decide +kernel
theorem widE : wid 1000001 = 20 := by decide +kernel
theorem widB : wid 20001 = 15 := by decide +kernel

/-- How many bits: the fewest, the most, whether bytes may be kept. -/
structure Sp where
  f : Int
  m : Int
  k : Bool
instance : Inhabited Sp := ⟨⟨0, 0, false⟩⟩
def spv (s : Sp) : Value := .agg #[.int .i64 s.f, .int .i64 s.m, .bool s.k]
def Sp.cat (s o : Sp) : Sp := ⟨s.f + o.f, s.m + o.m, s.k || o.k⟩
def numSp (n : Int) : Sp := ⟨wid n, wid n, false⟩
def flagSp (b : Bool) : Sp := if b then numSp 2 else ⟨0, 0, false⟩
def rowSp (lo hi : Int) (e : Sp) : Sp := (⟨lo * e.f, hi * e.m, e.k && decide (hi > 0)⟩ : Sp).cat (numSp (hi - lo + 1))
def enumSp (hi : Int) (ext : Bool) : Sp := if ext then (⟨wid (hi + 1), max (wid (hi + 1)) (wid 1000001), false⟩ : Sp).cat (flagSp true) else numSp (hi + 1)
def seqStep (xs : List ST) (L : Nat → Sp) (s : Sp) (kid : Int) : Sp :=
  (s.cat (flagSp (xs.getD kid.toNat default).opt)).cat ⟨if (xs.getD kid.toNat default).opt then 0 else (L kid.toNat).f, (L kid.toNat).m, (L kid.toNat).k⟩
def seqSp (xs : List ST) (L : Nat → Sp) (x : ST) : Sp := x.kids.foldl (seqStep xs L) ⟨(flagSp x.ext).f, (flagSp x.ext).m, x.ext⟩
def pickStep (L : Nat → Sp) (s : Sp) (kid : Int) : Sp := ⟨min s.f (L kid.toNat).f, max s.m (L kid.toNat).m, s.k || (L kid.toNat).k⟩
def pickSp (L : Nat → Sp) (ks : List Int) : Sp := ks.foldl (pickStep L) (L (ks.getD 0 0).toNat)
def Sp.orKept (s : Sp) (ext : Bool) : Sp := if ext then ⟨min s.f 31, s.m, true⟩ else s
def choiceSp (L : Nat → Sp) (x : ST) : Sp := ((((pickSp L x.kids).cat (numSp x.kids.length)).orKept x.ext).cat (flagSp x.ext))
def spanP (xs : List ST) (L : Nat → Sp) (x : ST) : Sp :=
  if x.kind = 1 then numSp 2 else if x.kind = 2 then numSp (x.hi - x.lo + 1) else if x.kind = 3 then rowSp x.lo x.hi (numSp 256) else if x.kind = 4 then rowSp x.lo x.hi (numSp 95) else
  if x.kind = 5 then enumSp x.hi x.ext else if x.kind = 6 then seqSp xs L x else if x.kind = 7 then rowSp x.lo x.hi (L (x.kids.getD 0 0).toNat) else if x.kind = 8 then choiceSp L x else (pickSp L x.kids).orKept x.ext
def capSp (s : Sp) : Sp := ⟨min s.f 1000000000000000, min s.m 1000000000000000, s.k⟩
/-- The spans when the last j types are done. -/
def spA (xs : List ST) : Nat → Nat → Sp
  | 0, _ => ⟨0, 0, false⟩
  | j + 1, i => if i = xs.length - 1 - j then capSp (spanP xs (spA xs j) (xs.getD (xs.length - 1 - j) default)) else spA xs j i

def Sp.ok (s : Sp) (B : Int) : Prop := 0 ≤ s.f ∧ s.f ≤ B ∧ 0 ≤ s.m ∧ s.m ≤ B
theorem Sp.ok.mono {s : Sp} {B C : Int} (h : s.ok B) (hB : B ≤ C) : s.ok C := ⟨h.1, Int.le_trans h.2.1 hB, h.2.2.1, Int.le_trans h.2.2.2 hB⟩
theorem cat_ok {s o : Sp} {B C : Int} (h : s.ok B) (h2 : o.ok C) : (s.cat o).ok (B + C) := by
  obtain ⟨a, b, c, d⟩ := h
  obtain ⟨a', b', c', d'⟩ := h2
  exact ⟨by show 0 ≤ s.f + o.f; omega, by show s.f + o.f ≤ _; omega, by show 0 ≤ s.m + o.m; omega, by show s.m + o.m ≤ _; omega⟩
theorem numSp_ok (n : Int) (b : Nat) (h : n ≤ ((2 ^ b : Nat) : Int)) : (numSp n).ok b := ⟨wid_nonneg n, wid_le n b h, wid_nonneg n, wid_le n b h⟩
theorem flagSp_ok (b : Bool) : (flagSp b).ok 1 := by
  cases b with
  | true => exact ⟨by show 0 ≤ wid 2; rw [wid2]; decide, by show wid 2 ≤ 1; rw [wid2]; decide, by show 0 ≤ wid 2; rw [wid2]; decide, by show wid 2 ≤ 1; rw [wid2]; decide⟩
  | false => exact ⟨by decide, by decide, by decide, by decide⟩
theorem rowSp_ok (lo hi : Int) (e : Sp) (h0 : 0 ≤ lo) (h1 : lo ≤ hi) (h2 : hi ≤ 1000) (he : e.ok 1000000000000000) : (rowSp lo hi e).ok 1000000000000000010 := by
  obtain ⟨a, b, c, d⟩ := he
  have n1 : 0 ≤ lo * e.f := Int.mul_nonneg h0 a
  have n2 : 0 ≤ hi * e.m := Int.mul_nonneg (by omega) c
  have n3 : lo * e.f ≤ 1000 * 1000000000000000 := Int.mul_le_mul (by omega) b a (by decide)
  have n4 : hi * e.m ≤ 1000 * 1000000000000000 := Int.mul_le_mul (by omega) d c (by decide)
  exact (cat_ok (B := 1000000000000000000) (C := 10) ⟨n1, by show lo * e.f ≤ _; omega, n2, by show hi * e.m ≤ _; omega⟩ (numSp_ok _ 10 (by omega)))
theorem enumSp_ok (hi : Int) (ext : Bool) (h1 : hi ≤ 1000) : (enumSp hi ext).ok 40 := by
  have w0 := wid_nonneg (hi + 1)
  have w1 := wid_le (hi + 1) 10 (by omega)
  unfold enumSp
  cases ext with
  | true =>
    rw [if_pos rfl, widE]
    refine (cat_ok (B := 20) (C := 1) ⟨w0, ?_, ?_, ?_⟩ (flagSp_ok true)).mono (by decide)
    · show wid (hi + 1) ≤ 20; omega
    · show 0 ≤ max (wid (hi + 1)) 20; omega
    · show max (wid (hi + 1)) 20 ≤ 20; omega
  | false =>
    rw [if_neg (by decide)]
    exact (numSp_ok (hi + 1) 10 (by omega)).mono (by decide)
theorem seqStep_ok (xs : List ST) (L : Nat → Sp) (s : Sp) (kid : Int) (B : Int) (hs : s.ok B) (hL : (L kid.toNat).ok 1000000000000000) : (seqStep xs L s kid).ok (B + 1000000000000001) := by
  unfold seqStep
  obtain ⟨a, b, c, d⟩ := hL
  have h2 := cat_ok (cat_ok hs (flagSp_ok (xs.getD kid.toNat default).opt)) (o := ⟨if (xs.getD kid.toNat default).opt then 0 else (L kid.toNat).f, (L kid.toNat).m, (L kid.toNat).k⟩) (C := 1000000000000000) ⟨by dsimp only; split <;> omega, by dsimp only; split <;> omega, c, d⟩
  exact h2.mono (by omega)
theorem seqFold_ok (xs : List ST) (L : Nat → Sp) (hL : ∀ i, (L i).ok 1000000000000000) (ks : List Int) : ∀ (s : Sp) (B : Int), s.ok B → (ks.foldl (seqStep xs L) s).ok (B + 1000000000000001 * ks.length) := by
  induction ks with
  | nil => intro s B h; simpa using h
  | cons k ks ih =>
    intro s B h
    have := ih _ _ (seqStep_ok xs L s k B h (hL _))
    rw [List.foldl_cons]
    exact this.mono (by rw [List.length_cons]; omega)
theorem pickStep_ok (L : Nat → Sp) (s : Sp) (kid : Int) (hs : s.ok 1000000000000000) (hL : (L kid.toNat).ok 1000000000000000) : (pickStep L s kid).ok 1000000000000000 := by
  obtain ⟨a, b, c, d⟩ := hs
  obtain ⟨a', b', c', d'⟩ := hL
  exact ⟨by show 0 ≤ min _ _; omega, by show min _ _ ≤ _; omega, by show 0 ≤ max _ _; omega, by show max _ _ ≤ _; omega⟩
theorem pickFold_ok (L : Nat → Sp) (hL : ∀ i, (L i).ok 1000000000000000) (ks : List Int) : ∀ s : Sp, s.ok 1000000000000000 → (ks.foldl (pickStep L) s).ok 1000000000000000 := by
  induction ks with
  | nil => intro s h; simpa using h
  | cons k ks ih => intro s h; rw [List.foldl_cons]; exact ih _ (pickStep_ok L s k h (hL _))
theorem pickSp_ok (L : Nat → Sp) (hL : ∀ i, (L i).ok 1000000000000000) (ks : List Int) : (pickSp L ks).ok 1000000000000000 := pickFold_ok L hL ks _ (hL _)
theorem orKept_ok (s : Sp) (ext : Bool) (B : Int) (h : s.ok B) : (s.orKept ext).ok B := by
  obtain ⟨a, b, c, d⟩ := h
  unfold Sp.orKept
  cases ext with
  | true => rw [if_pos rfl]; exact ⟨by show 0 ≤ min _ _; omega, by show min _ _ ≤ _; omega, c, d⟩
  | false => rw [if_neg (by decide)]; exact ⟨a, b, c, d⟩
theorem spanP_ok (xs : List ST) (L : Nat → Sp) (hL : ∀ i, (L i).ok 1000000000000000) (x : ST) (hx : fieldsP x) : (spanP xs L x).ok 2000000000000000000 := by
  unfold fieldsP bnd at hx
  unfold spanP
  by_cases h1 : x.kind = 1
  · rw [if_pos h1]; exact (numSp_ok 2 1 (by decide)).mono (by decide)
  rw [if_neg h1]
  by_cases h2 : x.kind = 2
  · have hb : bnd x (-1000000000000000) 1000000000000000 := by unfold bnd; omega
    obtain ⟨u, v, z⟩ := hb
    rw [if_pos h2]; exact (numSp_ok _ 62 (by omega)).mono (by decide)
  rw [if_neg h2]
  by_cases h3 : x.kind = 3
  · have hb : bnd x 0 1000 := by unfold bnd; omega
    rw [if_pos h3]; exact (rowSp_ok _ _ _ hb.1 hb.2.1 hb.2.2 ((numSp_ok 256 8 (by decide)).mono (by decide))).mono (by decide)
  rw [if_neg h3]
  by_cases h4 : x.kind = 4
  · have hb : bnd x 0 1000 := by unfold bnd; omega
    rw [if_pos h4]; exact (rowSp_ok _ _ _ hb.1 hb.2.1 hb.2.2 ((numSp_ok 95 8 (by decide)).mono (by decide))).mono (by decide)
  rw [if_neg h4]
  by_cases h5 : x.kind = 5
  · have hb : bnd x 0 1000 := by unfold bnd; omega
    rw [if_pos h5]; exact (enumSp_ok _ _ hb.2.2).mono (by decide)
  rw [if_neg h5]
  by_cases h6 : x.kind = 6
  · rw [if_pos h6]
    have hk : x.kids.length ≤ 12 := by omega
    have h0 : (⟨(flagSp x.ext).f, (flagSp x.ext).m, x.ext⟩ : Sp).ok 1 := flagSp_ok x.ext
    exact (seqFold_ok xs L hL x.kids _ 1 h0).mono (by omega)
  rw [if_neg h6]
  by_cases h7 : x.kind = 7
  · have hb : bnd x 0 200 := by unfold bnd; omega
    rw [if_pos h7]; exact (rowSp_ok _ _ _ hb.1 hb.2.1 (by have := hb.2.2; omega) (hL _)).mono (by decide)
  rw [if_neg h7]
  by_cases h8 : x.kind = 8
  · rw [if_pos h8]
    have hk : x.kids.length ≤ 12 := by omega
    exact (cat_ok (orKept_ok _ _ _ (cat_ok (pickSp_ok L hL x.kids) (numSp_ok x.kids.length 4 (by omega)))) (flagSp_ok x.ext)).mono (by decide)
  rw [if_neg h8]
  exact (orKept_ok _ _ _ (pickSp_ok L hL x.kids)).mono (by decide)
theorem capSp_ok (s : Sp) (B : Int) (h : s.ok B) : (capSp s).ok 1000000000000000 := by
  obtain ⟨a, b, c, d⟩ := h
  exact ⟨by show 0 ≤ min _ _; omega, by show min _ _ ≤ _; omega, by show 0 ≤ min _ _; omega, by show min _ _ ≤ _; omega⟩
theorem spA_ok (xs : List ST) (hF : ∀ t, t < xs.length → fieldsP (xs.getD t default)) (j : Nat) (hj : j ≤ xs.length) : ∀ i, (spA xs j i).ok 1000000000000000 := by
  induction j with
  | zero => intro i; exact ⟨Int.le_refl _, by show (0 : Int) ≤ _; decide, Int.le_refl _, by show (0 : Int) ≤ _; decide⟩
  | succ j ih =>
    intro i
    unfold spA
    split
    · exact capSp_ok _ _ (spanP_ok xs _ (ih (by omega)) _ (hF _ (by omega)))
    · exact ih (by omega) i

/-- As the other side tells the most. -/
def Sp.hi (s : Sp) : Int := if s.k then -2 else s.m
def plusP (a b : Int) : Int := if a = -2 ∨ b = -2 then -2 else a + b
theorem hi_cat (s o : Sp) (h : 0 ≤ s.m) (h2 : 0 ≤ o.m) : (s.cat o).hi = plusP s.hi o.hi := by
  unfold Sp.hi Sp.cat plusP
  cases s.k <;> cases o.k <;> simp <;> omega
theorem hi_cap (s : Sp) : (capSp s).hi = min s.hi 1000000000000000 := by
  unfold Sp.hi capSp
  cases s.k with
  | true => simp only [if_true]; decide
  | false => simp
end Go.Proofs.Ytglmaoigjnoklaa
