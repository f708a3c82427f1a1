import Derived.Test.YtflioloegppnmaaMTa
import Derived.Deep.MidRow
import Derived.Deep.DeepCutAuto
namespace Go.Proofs.Ytflioloegppnmaa
open Go.RowKit Go.Sort

/-- A tile. -/
structure TP where
  lv : Int
  ix : Int
  hs : List Int
  deriving Inhabited
def tlv (lv ix : Int) (a : Option Addr) (n c : Nat) : Value := .agg #[.int .i64 lv, .int .i64 ix, .slice a n c]
/-- The three cells of a tile from o on. -/
structure Cells3 (w : World) (b o : Nat) (a : Option Addr) (n c : Nat) (x : TP) : Prop where
  c0 : w.cell? ⟨b, o, none⟩ = some (.int .i64 x.lv)
  c1 : w.cell? ⟨b, o + 1, none⟩ = some (.int .i64 x.ix)
  c2 : w.cell? ⟨b, o + 2, none⟩ = some (.slice a n c)
theorem Cells3.of {w w' : World} {b o : Nat} {a : Option Addr} {n c : Nat} {x : TP} (h : Cells3 w b o a n c x) (hc : ∀ i, w'.cell? ⟨b, i, none⟩ = w.cell? ⟨b, i, none⟩) : Cells3 w' b o a n c x :=
  ⟨(hc _).trans h.c0, (hc _).trans h.c1, (hc _).trans h.c2⟩
/-- The slice at a reads as these tiles. -/
structure Tls (w : World) (a : Option Addr) (n : Nat) (xs : List TP) : Prop where
  len : xs.length = n
  max : n ≤ 9223372036854775807
  get : ∀ k, k < n → ∃ b off a1 n1 c1, a = some ⟨b, off, none⟩ ∧ b < w.heap.size ∧ Cells3 w b (off + k * 3) a1 n1 c1 (xs.getD k default) ∧ RowU w a1 n1 (xs.getD k default).hs ∧ n1 ≤ 9223372036854775807
theorem Tls.kept {w w' : World} {a : Option Addr} {n : Nat} {xs : List TP} (h : Tls w a n xs) (hb : Below w.heap.size w w') : Tls w' a n xs := by
  refine ⟨h.len, h.max, fun k hk => ?_⟩
  obtain ⟨b, off, a1, n1, c1, ha, hlt, hc, hp, hm⟩ := h.get k hk
  exact ⟨b, off, a1, n1, c1, ha, Nat.lt_of_lt_of_le hlt hb.size, hc.of (fun i => hb.cell (p := ⟨b, i, none⟩) hlt), hp.kept hb, hm⟩

end Go.Proofs.Ytflioloegppnmaa

namespace Go.Proofs.Ytflioloegppnmaa
open Go.RowKit Go.Sort

theorem results_tl {fn : Func} {t : Tmp} (h : fn.results = #[.cell t 37]) (tmps : Array Value) (g : Nat) (ht : tmps.getD t undef = .pointer (some ⟨g, 0, none⟩)) (w : World) (c0 c1 c2 : Value)
    (hb : w.heap[g]? = some (.cells #[c0, c1, c2] 37 (0, 0))) : (results fn tmps).run Try.prog w = .ok (.agg #[c0, c1, c2]) w := by
  have d0 : w.cell? ⟨g, 0, none⟩ = some c0 := (cell_of_row _ g 0 _ 37 (0, 0) hb).trans rfl
  have d1 : w.cell? ⟨g, 1, none⟩ = some c1 := (cell_of_row _ g 1 _ 37 (0, 0) hb).trans rfl
  have d2 : w.cell? ⟨g, 2, none⟩ = some c2 := (cell_of_row _ g 2 _ 37 (0, 0) hb).trans rfl
  clear hb
  have ht' : tmps[t]?.getD undef = .pointer (some ⟨g, 0, none⟩) := by rw [← ht]; simp
  simp [results, h, go_sem, ht', d0, d1, d2]
theorem heap_set3Q {w : World} {g t : Nat} {c0 c1 c2 : Value} (h : w.heap[g]? = some (.cells #[c0, c1, c2] t (0, 0))) (v0 v1 v2 : Value) : (((w.setCell ⟨g, 0, none⟩ v0).setCell ⟨g, 1, none⟩ v1).setCell ⟨g, 2, none⟩ v2).heap[g]? = some (.cells #[v0, v1, v2] t (0, 0)) :=
  heap_setCell_same _ _ 2 _ t _ (heap_setCell_same _ _ 1 _ t _ (heap_setCell_same _ _ 0 _ t _ h))

theorem Try.infoTl : (Try.prog.info? 37).map (fun i => (i.zero, i.size, i.bytes)) = some (some (.agg #[.int .i64 0, .int .i64 0, .slice none 0 0]), 3, 40) := by kernel_rfl
/-- Three cells of the row g are written, from o on. -/
def put3 (w : World) (g o : Nat) (v0 v1 v2 : Value) : World := ((w.setCell ⟨g, o, none⟩ v0).setCell ⟨g, o + 1, none⟩ v1).setCell ⟨g, o + 2, none⟩ v2
theorem put3_other (w : World) (g o l : Nat) (h : l ≠ g) (v0 v1 v2 : Value) : (put3 w g o v0 v1 v2).heap[l]? = w.heap[l]? :=
  (Below.heap_setCell _ _ _ _ (by show l ≠ g; exact h)).trans ((Below.heap_setCell _ _ _ _ (by show l ≠ g; exact h)).trans (Below.heap_setCell _ _ _ _ (by show l ≠ g; exact h)))
theorem put3_below {B : Nat} {w0 w : World} (h : Below B w0 w) (g o : Nat) (hg : B ≤ g) (v0 v1 v2 : Value) : Below B w0 (put3 w g o v0 v1 v2) := ((h.setCell hg _).setCell hg _).setCell hg _
/-- The first k tiles lie in the row g, what they have behind it. -/
def TlPre (w : World) (g k : Nat) (xs : List TP) : Prop := ∀ j, j < k → ∃ p n, Cells3 w g (j * 3) p n n (xs.getD j default) ∧ OwnU (g + 1) w p n n (xs.getD j default).hs ∧ n ≤ 1048576
theorem TlPre.kept {w w' : World} {g k : Nat} {xs : List TP} (h : TlPre w g k xs) (hg : g < w.heap.size) (hb : Below w.heap.size w w') : TlPre w' g k xs := fun j hj => by
  obtain ⟨p, n, h3, h4, h5⟩ := h j hj
  exact ⟨p, n, h3.of (fun i => hb.cell (p := ⟨g, i, none⟩) hg), h4.kept hb, h5⟩
structure Put3 (B : Nat) (w w' : World) (g n cap i : Nat) (a1 : Option Addr) (n1 d1 : Nat) (x : TP) : Prop where
  own : ∃ vs, w'.ownsRow B 37 3 (.slice (some ⟨g, 0, none⟩) n cap) n vs
  old : ∀ j, j < n * 3 → j < i * 3 ∨ i * 3 + 3 ≤ j → w'.cell? ⟨g, j, none⟩ = w.cell? ⟨g, j, none⟩
  cells : Cells3 w' g (i * 3) a1 n1 d1 x
theorem put3_is {B : Nat} {w : World} {g n cap : Nat} {vs : List Value} (h : w.ownsRow B 37 3 (.slice (some ⟨g, 0, none⟩) n cap) n vs) (i : Nat) (hi : i < n) (a1 : Option Addr) (n1 d1 : Nat) (x : TP) : Put3 B w (put3 w g (i * 3) (.int .i64 x.lv) (.int .i64 x.ix) (.slice a1 n1 d1)) g n cap i a1 n1 d1 x := by
  have h1 := (((h.stored (i * 3) (.int .i64 x.lv)).1.stored (i * 3 + 1) (.int .i64 x.ix)).1.stored (i * 3 + 2) (.slice a1 n1 d1)).1
  have hl : vs.length = n * 3 := h.1
  have cc := fun j (hj : j < n * 3) => h1.cellAt j hj
  refine ⟨⟨_, h1⟩, fun j hj ho => ?_, ⟨?_, ?_, ?_⟩⟩
  · refine (cc j hj).trans ?_
    rw [h.cellAt j hj]
    rw [List.getElem?_set_ne (by omega), List.getElem?_set_ne (by omega), List.getElem?_set_ne (by omega)]
  · refine (cc _ (by omega)).trans ?_
    rw [List.getElem?_set_ne (by omega), List.getElem?_set_ne (by omega), List.getElem?_set_self (by omega)]
  · refine (cc _ (by omega)).trans ?_
    rw [List.getElem?_set_ne (by omega), List.getElem?_set_self (by simp; omega)]
  · refine (cc _ (by omega)).trans ?_
    rw [List.getElem?_set_self (by simp; omega)]

end Go.Proofs.Ytflioloegppnmaa

namespace Go.Proofs.Ytflioloegppnmaa
open Go.RowKit Go.Sort

/-- The roots of the parts of a tile, those that are whole, of the first k. -/
def tlF (zs : List Int) (p ix : Nat) : Nat → List Int
  | 0 => []
  | k + 1 => if (4 * ix + k) * p + p ≤ zs.length then tlF zs p ix k ++ [rootL ((zs.drop ((4 * ix + k) * p)).take p)] else tlF zs p ix k
theorem tlF_len (zs : List Int) (p ix k : Nat) : (tlF zs p ix k).length ≤ k := by
  induction k with
  | zero => exact Nat.le_refl _
  | succ k ih => rw [tlF]; split; rw [List.length_append, List.length_singleton]; omega; omega
theorem tlF_bd (zs : List Int) (p ix k : Nat) (h : ∀ k, U64 (zs.getD k 0)) : ∀ j, U64 ((tlF zs p ix k).getD j 0) := by
  induction k with
  | zero => intro j; simp [tlF, U64]
  | succ k ih =>
    rw [tlF]
    split
    · exact u64_snoc ih (rootL_bd _ (u64_take (u64_drop h _) _))
    · exact ih
theorem tlF_next (zs : List Int) (p ix k : Nat) (h : (4 * ix + k) * p + p ≤ zs.length) : tlF zs p ix (k + 1) = tlF zs p ix k ++ [rootL ((zs.drop ((4 * ix + k) * p)).take p)] := by rw [tlF, if_pos h]
theorem tlF_stop (zs : List Int) (p ix k : Nat) (h : ¬ (4 * ix + k) * p + p ≤ zs.length) : ∀ j, tlF zs p ix (k + j) = tlF zs p ix k := by
  intro j
  induction j with
  | zero => rfl
  | succ j ih =>
    rw [← Nat.add_assoc, tlF, if_neg, ih]
    have : (4 * ix + k) * p ≤ (4 * ix + (k + j)) * p := Nat.mul_le_mul_right _ (by omega)
    omega
theorem tlF_full (zs : List Int) (p ix k : Nat) (h : (4 * ix + k) * p + p ≤ zs.length) : ∀ j, j ≤ k + 1 → (tlF zs p ix j).length = j := by
  intro j
  induction j with
  | zero => intro _; rfl
  | succ j ih =>
    intro hj
    have : (4 * ix + j) * p ≤ (4 * ix + k) * p := Nat.mul_le_mul_right _ (by omega)
    rw [tlF_next zs p ix j (by omega), List.length_append, ih (by omega), List.length_singleton]
def tileR (zs : List Int) (lv ix : Int) : List Int × Bool := if zs.length ≤ 200 ∧ 0 ≤ lv ∧ lv ≤ 3 ∧ 0 ≤ ix ∧ ix ≤ 200 then (tlF zs (4 ^ lv.toNat) ix.toNat 4, decide (0 < (tlF zs (4 ^ lv.toNat) ix.toNat 4).length)) else ([], false)
theorem tileR_le (zs : List Int) (lv ix : Int) : (tileR zs lv ix).1.length ≤ 1002 := by
  unfold tileR
  split
  · have := tlF_len zs (4 ^ lv.toNat) ix.toNat 4
    show (tlF zs (4 ^ lv.toNat) ix.toNat 4).length ≤ _
    omega
  · exact Nat.zero_le _
theorem pow4_le (l : Nat) (h : l ≤ 3) : 0 < 4 ^ l ∧ 4 ^ l ≤ 64 := by
  have h1 := Nat.pow_le_pow_right (n := 4) (by decide) h
  have h2 := Nat.pow_pos (n := l) (show 0 < 4 by decide)
  exact ⟨h2, h1⟩

set_option maxHeartbeats 1000000 in
theorem partSize_any (l : Nat) (w : World) (hl : l ≤ 3) :
    Calls Try.prog 23 #[.int .i64 l] w fun e w' => e = .returned (.int .i64 ((4 ^ l : Nat) : Int)) ∧ w' = w := by
  go_enter Try.func23, Try.ntmps23
  go_wp2
  go_loop [3, 5] (fun s i => ∃ k p : Nat, k ≤ l ∧ i = .int .i64 k ∧ s = .int .i64 p ∧ p ≤ 64 ∧ Hid (p = 4 ^ k)) (fun _ i => l - (intOf i).toNat)
  case atStart => exact ⟨0, 1, Nat.zero_le _, rfl, rfl, by decide, rfl⟩
  case round =>
    obtain ⟨k, p, hk, rfl, rfl, hp, HP⟩ := hrel
    by_cases hlt : k < l
    · have hi : (k : Int) < (l : Int) := by omega
      have HP2 : Hid (p * 4 = 4 ^ (k + 1)) := by show _ = _; rw [HP.out, Nat.pow_succ]
      go_wp2
      go_round
      case rel => exact ⟨k + 1, p * 4, by omega, by go_num, by go_num, by have := HP2.out; have := (pow4_le (k + 1) (by omega)).2; omega, HP2⟩
      case measure => simp [intOf]; omega
    · obtain rfl : k = l := by omega
      go_wp2
      go_ret
      exact ⟨by rw [HP.out]; rfl, rfl⟩

end Go.Proofs.Ytflioloegppnmaa

namespace Go.Proofs.Ytflioloegppnmaa
open Go.RowKit Go.Sort

/-- The first tile that has the part. -/
def fnd : List TP → Int → Int → Nat → Option Int
  | [], _, _, _ => none
  | t :: r, lv, ix, j => if t.lv = lv ∧ t.ix = ix ∧ j < t.hs.length then some (t.hs.getD j 0) else fnd r lv ix j
theorem fnd_at (xs : List TP) (lv ix : Int) (j k : Nat) (h : k < xs.length) : fnd (xs.drop k) lv ix j = if (xs.getD k default).lv = lv ∧ (xs.getD k default).ix = ix ∧ j < (xs.getD k default).hs.length then some ((xs.getD k default).hs.getD j 0) else fnd (xs.drop (k + 1)) lv ix j := by
  have e : xs.getD k default = xs[k] := by simp [h]
  rw [e, List.drop_eq_getElem_cons h, fnd]
theorem fnd_hit (xs : List TP) (lv ix : Int) (j k : Nat) (h : k < xs.length) (y : TP) (hy : y = xs.getD k default) (h1 : y.lv = lv) (h2 : y.ix = ix) (h3 : j < y.hs.length) : fnd (xs.drop k) lv ix j = some (y.hs.getD j 0) := by
  rw [fnd_at xs lv ix j k h, ← hy, if_pos ⟨h1, h2, h3⟩]
theorem fnd_miss (xs : List TP) (lv ix : Int) (j k : Nat) (h : k < xs.length) (y : TP) (hy : y = xs.getD k default) (hn : ¬ (y.lv = lv ∧ y.ix = ix ∧ j < y.hs.length)) : fnd (xs.drop k) lv ix j = fnd (xs.drop (k + 1)) lv ix j := by
  rw [fnd_at xs lv ix j k h, ← hy, if_neg hn]
theorem fnd_bd (lv ix : Int) (j : Nat) : ∀ (xs : List TP), (∀ t ∈ xs, ∀ k, U64 (t.hs.getD k 0)) → ∀ v, fnd xs lv ix j = some v → U64 v
  | [], _, v, h => by simp [fnd] at h
  | t :: r, hx, v, h => by
    rw [fnd] at h
    split at h
    · simp at h; rw [← h]; exact hx t (by simp) j
    · exact fnd_bd lv ix j r (fun t ht => hx t (by simp [ht])) v h
/-- The level whose parts are so long. -/
def lvOf (n : Nat) : Option Nat := if n = 1 then some 0 else if n = 4 then some 1 else if n = 16 then some 2 else if n = 64 then some 3 else none
theorem lvOf_pow (n l : Nat) (hl : l ≤ 3) : lvOf n = some l ↔ 4 ^ l = n := by
  have h4 : l = 0 ∨ l = 1 ∨ l = 2 ∨ l = 3 := by omega
  unfold lvOf
  rcases h4 with rfl | rfl | rfl | rfl
  · constructor
    · intro h; split at h
      · omega
      · split at h
        · simp at h
        · split at h
          · simp at h
          · split at h <;> simp at h
    · intro h; rw [if_pos (by omega)]
  · constructor
    · intro h; split at h
      · simp at h
      · split at h
        · omega
        · split at h
          · simp at h
          · split at h <;> simp at h
    · intro h; rw [if_neg (by omega), if_pos (by omega)]
  · constructor
    · intro h; split at h
      · simp at h
      · split at h
        · simp at h
        · split at h
          · omega
          · split at h <;> simp at h
    · intro h; rw [if_neg (by omega), if_neg (by omega), if_pos (by omega)]
  · constructor
    · intro h; split at h
      · simp at h
      · split at h
        · simp at h
        · split at h
          · simp at h
          · split at h
            · omega
            · simp at h
    · intro h; rw [if_neg (by omega), if_neg (by omega), if_neg (by omega), if_pos (by omega)]
theorem lvOf_le (n l : Nat) (h : lvOf n = some l) : l ≤ 3 := by
  unfold lvOf at h
  repeat (split at h; (simp at h; omega))
  simp at h
def partT (xs : List TP) (fr n : Nat) : Option Int :=
  match lvOf n with
  | some l => if fr % n = 0 then fnd xs l (fr / n / 4 : Nat) (fr / n % 4) else none
  | none => none
theorem partT_lv (xs : List TP) (fr n l : Nat) (h : lvOf n = some l) : partT xs fr n = if fr % n = 0 then fnd xs l (fr / n / 4 : Nat) (fr / n % 4) else none := by unfold partT; rw [h]
theorem partT_no (xs : List TP) (fr n : Nat) (h : lvOf n = none) : partT xs fr n = none := by unfold partT; rw [h]
theorem partT_bd (xs : List TP) (fr n : Nat) (hx : ∀ t ∈ xs, ∀ k, U64 (t.hs.getD k 0)) (v : Int) (h : partT xs fr n = some v) : U64 v := by
  unfold partT at h
  split at h
  · split at h
    · exact fnd_bd _ _ _ xs hx v h
    · simp at h
  · simp at h
/-- The root of the n digests from fr on, out of tiles, and how many of their digests are taken. -/
def tilR (xs : List TP) (fr n : Nat) : Option (Int × Nat) :=
  match partT xs fr n with
  | some h => some (h, 1)
  | none =>
    if _h : n ≤ 1 then none
    else match tilR xs fr (hk n), tilR xs (fr + hk n) (n - hk n) with
      | some a, some b => some (pairN a.1 b.1, a.2 + b.2)
      | _, _ => none
termination_by n
decreasing_by all_goals (have := hk_pos n; have := hk_lt (show 2 ≤ n by omega); omega)
theorem tilR_part (xs : List TP) (fr n : Nat) (h : Int) (e : partT xs fr n = some h) : tilR xs fr n = some (h, 1) := by rw [tilR, e]
theorem tilR_one (xs : List TP) (fr n : Nat) (e : partT xs fr n = none) (h : n ≤ 1) : tilR xs fr n = none := by rw [tilR, e]; simp [h]
theorem tilR_more (xs : List TP) (fr n : Nat) (e : partT xs fr n = none) (h : 2 ≤ n) : tilR xs fr n = match tilR xs fr (hk n), tilR xs (fr + hk n) (n - hk n) with
      | some a, some b => some (pairN a.1 b.1, a.2 + b.2)
      | _, _ => none := by
  conv => lhs; rw [tilR, e]
  simp only []
  rw [dif_neg (by omega)]
/-- What the program tells of it. -/
structure TrR (o : Option (Int × Nat)) (n : Nat) (v t : Int) (ok : Bool) : Prop where
  bd : U64 v
  lo : 0 ≤ t
  hi : t ≤ n
  yes : ∀ h c, o = some (h, c) → ok = true ∧ v = h ∧ t = c
  no : o = none → ok = false
/-- What the specification tells of it. -/
def tsV (o : Option (Int × Nat)) : Int × Int := match o with | some (h, c) => (h, c) | none => (0, -1)
theorem tilR_bd : ∀ (N : Nat) (xs : List TP) (fr n : Nat), n ≤ N → (∀ t ∈ xs, ∀ k, U64 (t.hs.getD k 0)) → 0 < n → ∀ h c, tilR xs fr n = some (h, c) → U64 h ∧ 1 ≤ c ∧ c ≤ n := by
  intro N
  induction N with
  | zero => intro xs fr n hN _ h0; omega
  | succ N ih =>
    intro xs fr n hN hx h0 h c e
    cases ep : partT xs fr n with
    | some v =>
      rw [tilR_part xs fr n v ep] at e
      simp at e
      obtain ⟨rfl, rfl⟩ := e
      exact ⟨partT_bd xs fr n hx _ ep, Nat.le_refl _, h0⟩
    | none =>
      by_cases h1 : n ≤ 1
      · rw [tilR_one xs fr n ep h1] at e; simp at e
      · have hl := hk_lt (show 2 ≤ n by omega)
        have hp := hk_pos n
        rw [tilR_more xs fr n ep (by omega)] at e
        cases ea : tilR xs fr (hk n) with
        | none => rw [ea] at e; simp at e
        | some a =>
          cases eb : tilR xs (fr + hk n) (n - hk n) with
          | none => rw [ea, eb] at e; simp at e
          | some b =>
            rw [ea, eb] at e
            simp at e
            obtain ⟨rfl, rfl⟩ := e
            have ia := ih xs fr (hk n) (by omega) hx (by omega) a.1 a.2 (by rw [ea])
            have ib := ih xs (fr + hk n) (n - hk n) (by omega) hx (by omega) b.1 b.2 (by rw [eb])
            exact ⟨pairN_bd _ _, by omega, by omega⟩
theorem Tls.rngs {w : World} {a : Option Addr} {n : Nat} {xs : List TP} (h : Tls w a n xs) : ∀ t ∈ xs, ∀ k, U64 (t.hs.getD k 0) := by
  intro t ht k
  obtain ⟨i, hi, rfl⟩ := List.getElem_of_mem ht
  obtain ⟨b, off, a1, n1, c1, _, _, _, hp, _⟩ := h.get i (by rw [← h.len]; exact hi)
  have e : xs.getD i default = xs[i] := by simp [hi]
  rw [e] at hp
  exact hp.rng k

end Go.Proofs.Ytflioloegppnmaa

namespace Go.Proofs.Ytflioloegppnmaa
open Go.RowKit Go.Sort

/-- What tiledPart tells. -/
def tpV (o : Option Int) : Int × Bool := match o with | some h => (h, true) | none => (0, false)

set_option maxRecDepth 10000 in
set_option maxHeartbeats 4000000 in
theorem tiledPart_any (a : Option Addr) (n c : Nat) (xs : List TP) (fr sz : Nat) (w : World) (h : Tls w a n xs) (hf : fr ≤ 1000) (h0 : 0 < sz) (hs : sz ≤ 1000) :
    Calls Try.prog 29 #[.slice a n c, .int .i64 fr, .int .i64 sz] w fun e w' => e = .returned (.tuple #[.int .u64 (tpV (partT xs fr sz)).1, .bool (tpV (partT xs fr sz)).2]) ∧ Below w.heap.size w w' := by
  have H0 : Hid (Tls w a n xs) := h
  have HL : Hid (xs.length = n) := h.len
  have hnm := h.max
  clear h
  obtain ⟨D, hD⟩ : ∃ D, D = fr / sz := ⟨_, rfl⟩
  obtain ⟨R, hR⟩ : ∃ R, R = fr % sz := ⟨_, rfl⟩
  obtain ⟨Q, hQ⟩ : ∃ Q, Q = D / 4 := ⟨_, rfl⟩
  obtain ⟨J, hJ⟩ : ∃ J, J = D % 4 := ⟨_, rfl⟩
  have d1 : (fr : Int) / (sz : Int) = (D : Int) := by rw [hD]; exact (Int.natCast_ediv _ _).symm
  have d2 : (fr : Int) % (sz : Int) = (R : Int) := by rw [hR]; exact (Int.natCast_emod _ _).symm
  have d3 : (D : Int) / 4 = (Q : Int) := by omega
  have d4 : (D : Int) % 4 = (J : Int) := by omega
  have hDb : D ≤ 1000 := by rw [hD]; exact Nat.le_trans (Nat.div_le_self _ _) hf
  have hRb : R ≤ 1000 := by rw [hR]; exact Nat.le_trans (Nat.mod_le _ _) hf
  have hJb : J < 4 := by rw [hJ]; exact Nat.mod_lt _ (by decide)
  have HPT : Hid (∀ l, lvOf sz = some l → partT xs fr sz = if R = 0 then fnd xs l (Q : Nat) J else none) := fun l hl => by rw [partT_lv xs fr sz l hl, ← hR, ← hD, ← hQ, ← hJ]
  clear hD hR hQ hJ
  have s0 : ¬ (sz : Int) = 0 := by omega
  go_enter Try.func29, Try.ntmps29
  go_wp2
  go_loopw [13] (fun i wr => ∃ k : Nat, k ≤ 4 ∧ i = .int .i64 k ∧ Hid (∀ l, l < k → lvOf sz = some l → partT xs fr sz = none) ∧ Below w.heap.size w wr) (fun i _ => 4 - (intOf i).toNat)
  case atStart => exact ⟨0, Nat.zero_le _, rfl, fun l hl => absurd hl (Nat.not_lt_zero _), Below.refl _ _⟩
  case round =>
    obtain ⟨k, hk, rfl, HN, hbr⟩ := hrel
    by_cases hk4 : k < 4
    · have hk4i : (k : Int) < 4 := by omega
      obtain ⟨p, hp⟩ : ∃ p, p = 4 ^ k := ⟨_, rfl⟩
      have HP : Hid (p = 4 ^ k) := hp
      clear hp
      go_wp2_with fail
      refine (partSize_any k _ (by omega)).mono ?_
      rintro e w1 ⟨rfl, hw⟩
      have hw2 := hw.symm
      subst hw2
      rw [← HP.out]
      by_cases hps : sz = p
      · have HLV : Hid (lvOf sz = some k) := (lvOf_pow sz k (by omega)).2 (by rw [hps]; exact HP.out.symm)
        have z1 : ((sz : Int) != (p : Int)) = false := by simp; omega
        have z1' : (sz : Int) = (p : Int) := by omega
        by_cases hr : R = 0
        · have HPE : Hid (partT xs fr sz = fnd xs k (Q : Nat) J) := by show _ = _; rw [HPT.out k HLV.out, if_pos hr]
          subst hr
          clear HPT HP hps z1'
          obtain ⟨W0, rfl⟩ : ∃ W0, W0 = wr := ⟨wr, rfl⟩
          clear HN
          go_wp2_with fail
          go_quiet (fail)
          go_wp2
          go_loopw [36] (fun i wr => ∃ q : Nat, q ≤ n ∧ i = .int .i64 q ∧ Hid (fnd xs k (Q : Nat) J = fnd (xs.drop q) k (Q : Nat) J) ∧ Below w.heap.size w wr) (fun i _ => n - (intOf i).toNat)
          case atStart => exact ⟨0, Nat.zero_le _, rfl, rfl, below_dnT hbr nq⟩
          case round =>
            obtain ⟨q, hq, rfl, HF, hbr2⟩ := hrel
            by_cases hqn : q < n
            · obtain ⟨b, off, a1, n1, c1, rfl, hlb, hc, hp, hm⟩ := H0.out.get q hqn
              obtain ⟨y, hy⟩ : ∃ y, y = xs.getD q default := ⟨_, rfl⟩
              rw [← hy] at hc hp
              have HY : Hid (y = xs.getD q default) := hy
              have HQL : Hid (q < xs.length) := by show _ < _; rw [HL.out]; exact hqn
              obtain ⟨e0, e1, e2⟩ := hc.of (w' := wr) (fun i => hbr2.cell (p := ⟨b, i, none⟩) hlb)
              have HP : Hid (RowU wr a1 n1 y.hs) := hp.kept hbr2
              have HHL : Hid (y.hs.length = n1) := hp.len
              have hqni : (q : Int) < (n : Int) := by omega
              obtain ⟨w2, hw2⟩ : ∃ w2, w2 = wr.alloc (.cells #[.int .i64 y.lv, .int .i64 y.ix, .slice a1 n1 c1] 37) := ⟨_, rfl⟩
              have hbk : w2.heap[wr.heap.size]? = some (.cells #[.int .i64 y.lv, .int .i64 y.ix, .slice a1 n1 c1] 37) := by rw [hw2]; exact heap_alloc_new _ _
              have hb2 : Below wr.heap.size wr w2 := by rw [hw2]; exact (Below.refl _ _).alloc (Nat.le_refl _) _
              have g0 : w2.cell? ⟨wr.heap.size, 0, none⟩ = some (.int .i64 y.lv) := (cell_of_row _ _ 0 _ 37 (0, 0) hbk).trans rfl
              have g1 : w2.cell? ⟨wr.heap.size, 1, none⟩ = some (.int .i64 y.ix) := (cell_of_row _ _ 1 _ 37 (0, 0) hbk).trans rfl
              have g2 : w2.cell? ⟨wr.heap.size, 2, none⟩ = some (.slice a1 n1 c1) := (cell_of_row _ _ 2 _ 37 (0, 0) hbk).trans rfl
              have hB2 : Below w.heap.size w w2 := keepT hbr2 hb2
              have HW2 : Hid (_ = _) := hw2
              clear hc hy hp hw2 hbk
              go_upto_region 9 with fail
              rw [← HW2.out]
              clear HW2 e0 e1 e2
              by_cases m1 : y.lv = (k : Int)
              · have z3 : (y.lv == (k : Int)) = true := by simpa using m1
                by_cases m2 : y.ix = (Q : Int)
                · have z4 : (y.ix == (Q : Int)) = true := by simpa using m2
                  by_cases m3 : J < n1
                  · have z5 : (J : Int) < (n1 : Int) := by omega
                    obtain ⟨bh, oh, rfl, hlh, hch⟩ := HP.out.get J m3
                    have hch2 : w2.cell? ⟨bh, oh + J, none⟩ = some (.int .u64 (y.hs.getD J 0)) := (hb2.cell (p := ⟨bh, oh + J, none⟩) hlh).trans hch
                    obtain ⟨v, hv⟩ : ∃ v, v = y.hs.getD J 0 := ⟨_, rfl⟩
                    have HR : Hid (partT xs fr sz = some v) := by show _ = _; rw [HPE.out, HF.out, fnd_hit xs k Q J q HQL.out y HY.out m1 m2 (by rw [HHL.out]; exact m3), hv]
                    rw [← hv] at hch2
                    clear hv hch
                    have m1' := m1
                    clear HF
                    go_wp2
                    go_ret2
                    exact ⟨by rw [HR.out]; rfl, hB2⟩
                  · have z5 : ¬ (J : Int) < (n1 : Int) := by omega
                    have HF2 : Hid (fnd xs k (Q : Nat) J = fnd (xs.drop (q + 1)) k (Q : Nat) J) := HF.out.trans (fnd_miss xs k Q J q HQL.out y HY.out (fun hh => by have := hh.2.2; rw [HHL.out] at this; exact m3 this))
                    go_wp2
                    go_roundw
                    case rel => exact ⟨q + 1, by omega, by go_num, HF2, hB2⟩
                    case measure => simp [intOf]; omega
                · have z4 : (y.ix == (Q : Int)) = false := by simpa using m2
                  have HF2 : Hid (fnd xs k (Q : Nat) J = fnd (xs.drop (q + 1)) k (Q : Nat) J) := HF.out.trans (fnd_miss xs k Q J q HQL.out y HY.out (fun hh => m2 hh.2.1))
                  go_wp2
                  go_roundw
                  case rel => exact ⟨q + 1, by omega, by go_num, HF2, hB2⟩
                  case measure => simp [intOf]; omega
              · have z3 : (y.lv == (k : Int)) = false := by simpa using m1
                have HF2 : Hid (fnd xs k (Q : Nat) J = fnd (xs.drop (q + 1)) k (Q : Nat) J) := HF.out.trans (fnd_miss xs k Q J q HQL.out y HY.out (fun hh => m1 hh.1))
                go_wp2
                go_roundw
                case rel => exact ⟨q + 1, by omega, by go_num, HF2, hB2⟩
                case measure => simp [intOf]; omega
            · obtain rfl : q = n := by omega
              have HNO : Hid (partT xs fr sz = none) := by show _ = _; rw [HPE.out, HF.out, List.drop_eq_nil_of_le (by rw [HL.out]; exact Nat.le_refl _)]; rfl
              go_wp2
              go_roundw
              case rel => exact ⟨k + 1, by omega, by go_num, fun l _ _ => HNO.out, hbr2⟩
              case measure => simp [intOf]; omega
        · have z2 : ((R : Int) != 0) = true := by simp; omega
          have z2' : ¬ (R : Int) = 0 := by omega
          have HNO : Hid (partT xs fr sz = none) := by show _ = _; rw [HPT.out k HLV.out, if_neg hr]
          clear hps z1'
          go_wp2
          go_roundw
          case rel => exact ⟨k + 1, by omega, by go_num, fun l _ _ => HNO.out, hbr⟩
          case measure => simp [intOf]; omega
      · have z1 : ((sz : Int) != (p : Int)) = true := by simp; omega
        have z1' : ¬ (sz : Int) = (p : Int) := by omega
        have HNL : Hid (¬ lvOf sz = some k) := fun hh => hps (by rw [HP.out]; exact ((lvOf_pow sz k (by omega)).1 hh).symm)
        go_wp2
        go_roundw
        case rel =>
          refine ⟨k + 1, by omega, by go_num, fun l hl hlv => ?_, hbr⟩
          by_cases hlk : l = k
          · subst hlk; exact absurd hlv HNL.out
          · exact HN.out l (by omega) hlv
        case measure => simp [intOf]; omega
    · obtain rfl : k = 4 := by omega
      have HNO : Hid (partT xs fr sz = none) := by
        show _ = _
        cases hlv : lvOf sz with
        | none => exact partT_no xs fr sz hlv
        | some l => exact HN.out l (by have := lvOf_le sz l hlv; omega) hlv
      go_wp2
      go_ret2
      exact ⟨by rw [HNO.out]; rfl, hbr⟩

set_option maxRecDepth 10000 in
set_option maxHeartbeats 4000000 in
theorem tiledRoot_any : ∀ (N : Nat) (a : Option Addr) (n c : Nat) (xs : List TP) (fr sz : Nat) (w : World), sz ≤ N → Tls w a n xs → fr + sz ≤ 1000 → 0 < sz →
    Calls Try.prog 20 #[.slice a n c, .int .i64 fr, .int .i64 sz] w fun e w' => ∃ v t ok, e = .returned (.tuple #[.int .u64 v, .int .i64 t, .bool ok]) ∧ TrR (tilR xs fr sz) sz v t ok ∧ Below w.heap.size w w' := by
  have hz : U64 0 := by simp [U64]
  intro N
  induction N with
  | zero => intro a n c xs fr sz w hN h hf h0; omega
  | succ N ih =>
    intro a n c xs fr sz w hN h hf h0
    have H0 : Hid (Tls w a n xs) := h
    have hrg := h.rngs
    clear h
    cases ep : partT xs fr sz with
    | some v =>
      have HR : Hid (TrR (tilR xs fr sz) sz v 1 true) := by
        show TrR _ _ _ _ _
        rw [tilR_part xs fr sz v ep]
        exact ⟨partT_bd xs fr sz hrg v ep, by decide, by omega, fun h c e => by simp at e; obtain ⟨rfl, rfl⟩ := e; exact ⟨rfl, rfl, rfl⟩, fun e => by simp at e⟩
      have tp := fun W (hW : Below w.heap.size w W) => tiledPart_any a n c xs fr sz W (H0.out.kept hW) (by omega) h0 (by omega)
      rw [ep] at tp
      have HTP : Hid (_) := tp
      clear tp ep ih
      go_enter Try.func20, Try.ntmps20
      go_wp2_with fail
      refine (HTP.out _ (Below.refl _ _)).mono ?_
      rintro e w1 ⟨rfl, hb1⟩
      go_wp2
      go_ret3
      exact ⟨v, 1, true, rfl, HR.out, hb1⟩
    | none =>
      have tp := fun W (hW : Below w.heap.size w W) => tiledPart_any a n c xs fr sz W (H0.out.kept hW) (by omega) h0 (by omega)
      rw [ep] at tp
      have HTP : Hid (_) := tp
      clear tp
      by_cases h1 : sz = 1
      · have HR : Hid (TrR (tilR xs fr sz) sz 0 0 false) := by
          show TrR _ _ _ _ _
          rw [tilR_one xs fr sz ep (by omega)]
          exact ⟨hz, by decide, by omega, fun h c e => by simp at e, fun _ => rfl⟩
        subst h1
        clear ep ih
        go_enter Try.func20, Try.ntmps20
        go_wp2_with fail
        refine (HTP.out _ (Below.refl _ _)).mono ?_
        rintro e w1 ⟨rfl, hb1⟩
        go_wp2
        go_ret3
        exact ⟨0, 0, false, rfl, HR.out, hb1⟩
      · have z1 : ((sz : Int) == 1) = false := by simp; omega
        have z2 : ¬ (sz : Int) = 1 := by omega
        have hkl := hk_lt (show 2 ≤ sz by omega)
        have hkp := hk_pos sz
        have HTM : Hid (_) := tilR_more xs fr sz ep (by omega)
        obtain ⟨k, hkk⟩ : ∃ k, k = hk sz := ⟨_, rfl⟩
        have HKK : Hid (k = hk sz) := hkk
        rw [← hkk] at hkl hkp
        obtain ⟨d, rfl⟩ : ∃ d, sz = k + d := ⟨sz - k, by omega⟩
        have HTM2 : Hid (tilR xs fr (k + d) = match tilR xs fr k, tilR xs (fr + k) d with
          | some a, some b => some (pairN a.1 b.1, a.2 + b.2)
          | _, _ => none) := by
          have := HTM.out
          rw [← hkk, Nat.add_sub_cancel_left] at this
          exact this
        have k2 : (k : Int) + (d : Int) - (k : Int) = (d : Int) := by omega
        have k4 : IntKind.i64.wrap (d : Int) = (d : Int) := by rw [IntKind.wrap_i64]; omega
        have IH1 : Hid (_) := fun W (hW : Below w.heap.size w W) => ih a n c xs fr k W (by omega) (H0.out.kept hW) (by omega) hkp
        have ih2 := fun W (hW : Below w.heap.size w W) => ih a n c xs (fr + k) d W (by omega) (H0.out.kept hW) (by omega) (by omega)
        have k5 : ((fr + k : Nat) : Int) = (fr : Int) + (k : Int) := by omega
        rw [k5] at ih2
        have IH2 : Hid (_) := ih2
        clear hkk ep ih ih2 HTM k5
        go_enter Try.func20, Try.ntmps20
        go_wp2_with fail
        refine (HTP.out _ (Below.refl _ _)).mono ?_
        rintro e w1 ⟨rfl, hb1⟩
        go_wp2_with fail
        refine (firstPart_any (k + d) _ (by omega)).mono ?_
        rintro e w2 ⟨rfl, hw⟩
        have hw2 := hw.symm
        subst hw2
        rw [← HKK.out]
        go_wp2_with fail
        refine (IH1.out _ hb1).mono ?_
        rintro e w2 ⟨v1, t1, ok1, rfl, hr1, hb2⟩
        have B2 := keepT hb1 hb2
        have HR1 : Hid (TrR (tilR xs fr k) k v1 t1 ok1) := hr1
        clear hr1
        cases ok1 with
        | false =>
          have HN : Hid (tilR xs fr (k + d) = none) := by
            show _ = _
            rw [HTM2.out]
            cases e1 : tilR xs fr k with
            | none => rfl
            | some z => have := (HR1.out.yes z.1 z.2 e1).1; simp at this
          have HR : Hid (TrR (tilR xs fr (k + d)) (k + d) 0 0 false) := by
            show TrR _ _ _ _ _
            rw [HN.out]
            exact ⟨hz, by decide, by omega, fun h c e => by simp at e, fun _ => rfl⟩
          go_wp2
          go_ret3
          exact ⟨0, 0, false, rfl, HR.out, B2⟩
        | true =>
          have hv1 := HR1.out.bd
          have l1 := HR1.out.lo
          have l2 := HR1.out.hi
          go_wp2_with fail
          refine (IH2.out _ B2).mono ?_
          rintro e w3 ⟨v2, t2, ok2, rfl, hr2, hb3⟩
          have B3 := keepT B2 hb3
          have hv2 := hr2.bd
          have l3 := hr2.lo
          have l4 := hr2.hi
          have HR : Hid (TrR (tilR xs fr (k + d)) (k + d) (pairN v1 v2) (t1 + t2) ok2) := by
            show TrR _ _ _ _ _
            rw [HTM2.out]
            cases e1 : tilR xs fr k with
            | none => have := HR1.out.no e1; simp at this
            | some z =>
              obtain ⟨_, rfl, rfl⟩ := HR1.out.yes z.1 z.2 e1
              cases e2 : tilR xs (fr + k) d with
              | none => exact ⟨pairN_bd _ _, by omega, by omega, fun h c e => by simp at e, fun _ => hr2.no e2⟩
              | some y =>
                obtain ⟨rfl, rfl, rfl⟩ := hr2.yes y.1 y.2 e2
                exact ⟨pairN_bd _ _, by omega, by omega, fun h c e => by simp at e; obtain ⟨rfl, rfl⟩ := e; exact ⟨rfl, rfl, by omega⟩, fun e => by simp at e⟩
          clear hr2
          go_wp2_with fail
          refine (pairOf_any v1 v2 _ hv1 hv2).mono ?_
          rintro e w4 ⟨rfl, hb4⟩
          go_wp2
          go_ret3
          exact ⟨_, _, _, rfl, HR.out, keepT B3 hb4⟩

end Go.Proofs.Ytflioloegppnmaa

namespace Go.Proofs.Ytflioloegppnmaa
open Go.RowKit Go.Sort

def FewP (xs : List TP) (n : Nat) : Prop := ∀ k, k < n → (xs.getD k default).hs.length ≤ 4
instance (xs : List TP) (n : Nat) : Decidable (FewP xs n) := inferInstanceAs (Decidable (∀ k, k < n → _))
/-- What both tell. -/
def tdV (xs : List TP) (n : Int) : Int × Int := if 1 ≤ n ∧ n ≤ 200 then (if FewP xs xs.length then tsV (tilR xs 0 n.toNat) else (0, -1)) else (0, -1)

set_option maxHeartbeats 1000000 in
theorem fewHashes_any (lv ix : Int) (a : Option Addr) (n c : Nat) (w : World) (hn : n ≤ 9223372036854775807) :
    Calls Try.prog 19 #[.agg #[.int .i64 lv, .int .i64 ix, .slice a n c]] w fun e w' => e = .returned (.bool (decide (n ≤ 4))) ∧ Below w.heap.size w w' := by
  by_cases h : n ≤ 4
  · rw [decide_eq_true h]
    have h' : (n : Int) ≤ 4 := by omega
    go_enter Try.func19, Try.ntmps19
    go_wp2
    go_ret
    exact ⟨rfl, (Below.refl _ _).alloc (Nat.le_refl _) _⟩
  · rw [decide_eq_false h]
    have h' : ¬ (n : Int) ≤ 4 := by omega
    go_enter Try.func19, Try.ntmps19
    go_wp2
    go_ret
    exact ⟨rfl, (Below.refl _ _).alloc (Nat.le_refl _) _⟩

set_option maxRecDepth 10000 in
set_option maxHeartbeats 2000000 in
theorem everyFew_any (a : Option Addr) (n c : Nat) (xs : List TP) (w : World) (h : Tls w a n xs) :
    Calls Try.prog 18 #[.slice a n c, .func (Fn.func 19) #[] #[]] w fun e w' => e = .returned (.bool (decide (FewP xs n))) ∧ Below w.heap.size w w' := by
  have H0 : Hid (Tls w a n xs) := h
  have hn := h.max
  clear h
  obtain ⟨ans, hans⟩ : ∃ ans, ans = decide (FewP xs n) := ⟨_, rfl⟩
  rw [← hans]
  have HA : Hid (ans = decide (FewP xs n)) := hans
  clear hans
  go_enter Try.func18, Try.ntmps18
  go_wp2
  go_loopw [9] (fun i wr => ∃ k : Nat, k ≤ n ∧ i = .int .i64 k ∧ Hid (FewP xs k) ∧ Below w.heap.size w wr) (fun i _ => n - (intOf i).toNat)
  case atStart => exact ⟨0, Nat.zero_le _, rfl, fun k hk => absurd hk (Nat.not_lt_zero _), Below.refl _ _⟩
  case round =>
    obtain ⟨k, hk, rfl, HE, hbr⟩ := hrel
    have hws := hbr.size
    by_cases hlt : k < n
    · obtain ⟨b, off, a1, n1, c1, rfl, hlb, hc, hp, hm⟩ := H0.out.get k hlt
      have HLN : Hid ((xs.getD k default).hs.length = n1) := hp.len
      obtain ⟨y, hy⟩ : ∃ y, y = xs.getD k default := ⟨_, rfl⟩
      rw [← hy] at hc
      obtain ⟨e0, e1, e2⟩ := hc.of (w' := wr) (fun i => hbr.cell (p := ⟨b, i, none⟩) hlb)
      have hlti : (k : Int) < (n : Int) := by omega
      have hbw : b < wr.heap.size := by omega
      clear hc hp hy
      go_wp2_with fail
      refine (fewHashes_any y.lv y.ix a1 n1 c1 _ hm).mono ?_
      rintro e w2 ⟨rfl, hb2⟩
      have hbz : Below wr.heap.size wr (wr.alloc (.cells #[.int .i64 y.lv, .int .i64 y.ix, .slice a1 n1 c1] 37)) := (Below.refl _ _).alloc (Nat.le_refl _) _
      have B2 : Below w.heap.size w w2 := hbr.trans ((keepT hbz hb2).mono hws)
      by_cases h0 : n1 ≤ 4
      · rw [decide_eq_true h0]
        go_wp2
        go_roundw
        case rel => exact ⟨k + 1, by omega, by go_num, fun j hj => by
          by_cases e : j < k
          · exact HE.out j e
          · obtain rfl : j = k := by omega
            rw [HLN.out]; exact h0, B2⟩
        case measure => simp [intOf]; omega
      · rw [decide_eq_false h0]
        go_wp2
        go_ret
        exact ⟨by rw [HA.out, decide_eq_false (fun e => absurd (e k hlt) (by rw [HLN.out]; exact h0))]; rfl, B2⟩
    · obtain rfl : k = n := by omega
      go_wp2
      go_ret
      exact ⟨by rw [HA.out, decide_eq_true HE.out]; rfl, hbr⟩

set_option maxRecDepth 10000 in
set_option maxHeartbeats 2000000 in
theorem implTiled_any (a : Option Addr) (n c : Nat) (xs : List TP) (m : Int) (w : World) (h : Tls w a n xs) :
    Calls Try.prog 8 #[.slice a n c, .int .i64 m] w fun e w' => e = .returned (.tuple #[.int .u64 (tdV xs m).1, .int .i64 (tdV xs m).2]) ∧ Below w.heap.size w w' := by
  have H0 : Hid (Tls w a n xs) := h
  have HL : Hid (xs.length = n) := h.len
  clear h
  by_cases h1 : 1 ≤ m ∧ m ≤ 200
  · obtain ⟨s, rfl⟩ := Int.eq_ofNat_of_zero_le (show 0 ≤ m by omega)
    by_cases h2 : FewP xs n
    · have HV : Hid (tdV xs s = tsV (tilR xs 0 s)) := by show _ = _; unfold tdV; rw [if_pos h1, if_pos (by rw [HL.out]; exact h2), Int.toNat_natCast]
      have HEV : Hid (_) := fun W (hW : Below w.heap.size w W) => everyFew_any a n c xs W (H0.out.kept hW)
      rw [decide_eq_true h2] at HEV
      have HTR : Hid (_) := fun W (hW : Below w.heap.size w W) => tiledRoot_any s a n c xs 0 s W (Nat.le_refl _) (H0.out.kept hW) (by omega) (by omega)
      clear h2
      go_enter Try.func8, Try.ntmps8
      go_wp2_with fail
      refine (inBounds_t (s : Int) 1 200 _ h1).mono ?_
      rintro e w1 ⟨rfl, hw⟩
      have hw2 := hw.symm
      subst hw2
      go_wp2_with fail
      refine (HEV.out _ (Below.refl _ _)).mono ?_
      rintro e w1 ⟨rfl, hb1⟩
      go_wp2_with fail
      refine (HTR.out _ hb1).mono ?_
      rintro e w2 ⟨v, t, ok, rfl, hr, hb2⟩
      have HR : Hid (TrR (tilR xs 0 s) s v t ok) := hr
      clear hr
      have B2 := keepT hb1 hb2
      cases ok with
      | false =>
        have HN : Hid (tilR xs 0 s = none) := by
          show _ = _
          cases e1 : tilR xs 0 s with
          | none => rfl
          | some z => have := (HR.out.yes z.1 z.2 e1).1; simp at this
        go_wp2
        go_ret2
        exact ⟨by rw [HV.out, HN.out]; rfl, B2⟩
      | true =>
        have HY : Hid (tsV (tilR xs 0 s) = (v, t)) := by
          show _ = _
          cases e1 : tilR xs 0 s with
          | none => have := HR.out.no e1; simp at this
          | some z => obtain ⟨_, rfl, rfl⟩ := HR.out.yes z.1 z.2 e1; rfl
        go_wp2
        go_ret2
        exact ⟨by rw [HV.out, HY.out]; rfl, B2⟩
    · have HV : Hid (tdV xs s = (0, -1)) := by show _ = _; unfold tdV; rw [if_pos h1, if_neg (by rw [HL.out]; exact h2)]
      have HEV : Hid (_) := fun W (hW : Below w.heap.size w W) => everyFew_any a n c xs W (H0.out.kept hW)
      rw [decide_eq_false h2] at HEV
      clear h2
      go_enter Try.func8, Try.ntmps8
      go_wp2_with fail
      refine (inBounds_t (s : Int) 1 200 _ h1).mono ?_
      rintro e w1 ⟨rfl, hw⟩
      have hw2 := hw.symm
      subst hw2
      go_wp2_with fail
      refine (HEV.out _ (Below.refl _ _)).mono ?_
      rintro e w1 ⟨rfl, hb1⟩
      go_wp2
      go_ret2
      exact ⟨by rw [HV.out]; rfl, hb1⟩
  · have HV : Hid (tdV xs m = (0, -1)) := by show _ = _; unfold tdV; rw [if_neg h1]
    go_enter Try.func8, Try.ntmps8
    go_wp2_with fail
    refine (inBounds_f m 1 200 _ h1).mono ?_
    rintro e w1 ⟨rfl, hw⟩
    have hw2 := hw.symm
    subst hw2
    go_wp2
    go_ret2
    exact ⟨by rw [HV.out]; rfl, Below.refl _ _⟩

end Go.Proofs.Ytflioloegppnmaa

namespace Go.Proofs.Ytflioloegppnmaa
open Go.RowKit Go.Sort

theorem tlF_hit (zs : List Int) (p ix : Nat) : ∀ (k j : Nat), j < (tlF zs p ix k).length → j < k ∧ (4 * ix + j) * p + p ≤ zs.length ∧ (tlF zs p ix k).getD j 0 = rootL ((zs.drop ((4 * ix + j) * p)).take p) := by
  intro k
  induction k with
  | zero => intro j hj; simp [tlF] at hj
  | succ k ih =>
    intro j hj
    by_cases h : (4 * ix + k) * p + p ≤ zs.length
    · rw [tlF_next zs p ix k h] at hj ⊢
      have hl := tlF_full zs p ix k h k (by omega)
      by_cases hjk : j < k
      · obtain ⟨_, h2, h3⟩ := ih j (by omega)
        refine ⟨by omega, h2, ?_⟩
        rw [← h3, List.getD_eq_getElem?_getD, List.getD_eq_getElem?_getD, List.getElem?_append_left (by omega)]
      · have e : j = k := by simp at hj; omega
        subst e
        refine ⟨by omega, h, ?_⟩
        rw [List.getD_eq_getElem?_getD, List.getElem?_append_right (by omega)]
        simp [hl]
    · have e := tlF_stop zs p ix k h 1
      rw [e] at hj ⊢
      obtain ⟨h1, h2, h3⟩ := ih j hj
      exact ⟨by omega, h2, h3⟩
theorem tlF_has (zs : List Int) (p ix j : Nat) (hj : j < 4) (h : (4 * ix + j) * p + p ≤ zs.length) : j < (tlF zs p ix 4).length := by
  by_cases h2 : j < (tlF zs p ix 4).length
  · exact h2
  exfalso
  have h1 := tlF_full zs p ix j h (j + 1) (by omega)
  have hmono : ∀ k, (tlF zs p ix k).length ≤ (tlF zs p ix (k + 1)).length := by
    intro k
    by_cases hk : (4 * ix + k) * p + p ≤ zs.length
    · rw [tlF_next zs p ix k hk]; simp
    · rw [tlF_stop zs p ix k hk 1]; exact Nat.le_refl _
  have m1 := hmono 1
  have m2 := hmono 2
  have m3 := hmono 3
  rcases (show j = 0 ∨ j = 1 ∨ j = 2 ∨ j = 3 by omega) with rfl | rfl | rfl | rfl <;> simp only [Nat.zero_add, Nat.reduceAdd] at * <;> omega

/-- Each tile is one of the row. -/
def TlAll (zs : List Int) (xs : List TP) : Prop := ∀ t ∈ xs, ∃ l ix : Nat, t.lv = l ∧ t.ix = ix ∧ t.hs = tlF zs (4 ^ l) ix 4
/-- The tiles of a level that are ahead of an index are there. -/
def TlHas (zs : List Int) (xs : List TP) (l m : Nat) : Prop := ∀ ix : Nat, ix < m → 4 * ix * 4 ^ l + 4 ^ l ≤ zs.length → (⟨l, ix, tlF zs (4 ^ l) ix 4⟩ : TP) ∈ xs
/-- The levels below are there. -/
def TlLow (zs : List Int) (xs : List TP) (L : Nat) : Prop := ∀ l, l < L → ∀ m, TlHas zs xs l m
theorem fnd_val (zs : List Int) (l ix j : Nat) : ∀ (xs : List TP), TlAll zs xs → ∀ v, fnd xs l ix j = some v → (4 * ix + j) * 4 ^ l + 4 ^ l ≤ zs.length ∧ v = rootL ((zs.drop ((4 * ix + j) * 4 ^ l)).take (4 ^ l))
  | [], _, v, h => by simp [fnd] at h
  | t :: r, hA, v, h => by
    rw [fnd] at h
    split at h
    · rename_i hc
      obtain ⟨l', ix', h1, h2, h3⟩ := hA t (by simp)
      obtain rfl : l' = l := by have := hc.1; rw [h1] at this; exact_mod_cast this
      obtain rfl : ix' = ix := by have := hc.2.1; rw [h2] at this; exact_mod_cast this
      have hj := hc.2.2
      rw [h3] at hj h
      obtain ⟨_, h5, h6⟩ := tlF_hit zs _ ix' 4 j hj
      simp only [Option.some.injEq] at h
      exact ⟨h5, by rw [← h, h6]⟩
    · exact fnd_val zs l ix j r (fun t ht => hA t (by simp [ht])) v h
theorem fnd_in (lv ix : Int) (j : Nat) (y : TP) (h1 : y.lv = lv) (h2 : y.ix = ix) (h3 : j < y.hs.length) : ∀ (xs : List TP), y ∈ xs → fnd xs lv ix j ≠ none
  | [], h => by simp at h
  | t :: r, h => by
    rw [fnd]
    split
    · simp
    · rename_i hc
      rcases List.mem_cons.1 h with rfl | h
      · exact absurd ⟨h1, h2, h3⟩ hc
      · exact fnd_in lv ix j y h1 h2 h3 r h
theorem fnd_cat (lv ix : Int) (j : Nat) (ys : List TP) : ∀ (xs : List TP), fnd xs lv ix j ≠ none → fnd (xs ++ ys) lv ix j ≠ none
  | [], h => by simp [fnd] at h
  | t :: r, h => by
    rw [List.cons_append, fnd]
    rw [fnd] at h
    split
    · simp
    · rename_i hc
      rw [if_neg hc] at h
      exact fnd_cat lv ix j ys r h
theorem partT_cat (xs ys : List TP) (fr n : Nat) (h : partT xs fr n ≠ none) : partT (xs ++ ys) fr n ≠ none := by
  unfold partT at h ⊢
  split at h
  · split at h
    · rename_i h0
      rw [if_pos h0]
      exact fnd_cat _ _ _ ys xs h
    · exact absurd rfl h
  · exact absurd rfl h
theorem seg_cut (zs : List Int) (fr n k : Nat) (hk : k ≤ n) : ((zs.drop fr).take n).take k = (zs.drop fr).take k ∧ ((zs.drop fr).take n).drop k = (zs.drop (fr + k)).take (n - k) := by
  constructor
  · rw [List.take_take, Nat.min_eq_left hk]
  · rw [List.drop_take, List.drop_drop]
theorem partT_val (zs : List Int) (xs : List TP) (hA : TlAll zs xs) (fr n : Nat) (v : Int) (h : partT xs fr n = some v) : v = rootL ((zs.drop fr).take n) := by
  unfold partT at h
  split at h
  · rename_i l hl
    have hp := (lvOf_pow n l (lvOf_le n l hl)).1 hl
    split at h
    · rename_i h0
      have e := (fnd_val zs l (fr / n / 4) (fr / n % 4) xs hA v h).2
      have e2 : (4 * (fr / n / 4) + fr / n % 4) * 4 ^ l = fr := by
        rw [Nat.div_add_mod, hp, Nat.mul_comm, Nat.mul_div_cancel' (Nat.dvd_of_mod_eq_zero h0)]
      rw [e2, hp] at e
      exact e
    · simp at h
  · simp at h
theorem partT_one (zs : List Int) (xs : List TP) (hH : TlLow zs xs 1) (fr : Nat) (hf : fr + 1 ≤ zs.length) : partT xs fr 1 ≠ none := by
  have hl : lvOf 1 = some 0 := by unfold lvOf; simp
  rw [partT_lv xs fr 1 0 hl, if_pos (Nat.mod_one fr)]
  have hm := hH 0 (by omega) (fr / 4 + 1) (fr / 4) (by omega) (by simp; omega)
  have e : fr / 1 = fr := Nat.div_one fr
  rw [e]
  refine fnd_in _ _ _ _ rfl rfl ?_ xs hm
  exact tlF_has zs _ _ _ (by omega) (by simp; omega)
/-- Of the row's own tiles each part has its root. -/
theorem tilR_all (zs : List Int) (xs : List TP) (hA : TlAll zs xs) (hH : TlLow zs xs 1) : ∀ (N fr n : Nat), n ≤ N → 0 < n → fr + n ≤ zs.length → ∃ c, tilR xs fr n = some (rootL ((zs.drop fr).take n), c) := by
  intro N
  induction N with
  | zero => intro fr n h1 h2; omega
  | succ N ih =>
    intro fr n hN h0 hf
    cases ep : partT xs fr n with
    | some v =>
      refine ⟨1, ?_⟩
      rw [tilR_part xs fr n v ep, partT_val zs xs hA fr n v ep]
    | none =>
      by_cases h1 : n = 1
      · subst h1
        exact absurd ep (partT_one zs xs hH fr hf)
      · have h2 : 2 ≤ n := by omega
        have hl := hk_lt h2
        have hp := hk_pos n
        obtain ⟨c1, e1⟩ := ih fr (hk n) (by omega) (by omega) (by omega)
        obtain ⟨c2, e2⟩ := ih (fr + hk n) (n - hk n) (by omega) (by omega) (by omega)
        refine ⟨c1 + c2, ?_⟩
        rw [tilR_more xs fr n ep h2, e1, e2]
        have hlen : ((zs.drop fr).take n).length = n := by simp; omega
        have hm := rootL_more ((zs.drop fr).take n) (by omega)
        rw [hlen] at hm
        have hc := seg_cut zs fr n (hk n) (by omega)
        rw [hc.1, hc.2] at hm
        rw [hm]
theorem TlAll.bd {zs : List Int} {xs : List TP} (h : TlAll zs xs) (hz : ∀ k, U64 (zs.getD k 0)) : ∀ t ∈ xs, ∀ k, U64 (t.hs.getD k 0) := fun t ht k => by
  obtain ⟨l, ix, _, _, h3⟩ := h t ht
  rw [h3]
  exact tlF_bd zs _ ix 4 hz k
theorem TlAll.few {zs : List Int} {xs : List TP} (h : TlAll zs xs) : ∀ t ∈ xs, t.hs.length ≤ 4 := fun t ht => by
  obtain ⟨l, ix, _, _, h3⟩ := h t ht
  rw [h3]
  exact tlF_len zs _ ix 4
/-- With more tiles no more digests are taken. -/
theorem tilR_less (zs : List Int) (hz : ∀ k, U64 (zs.getD k 0)) (xs ys : List TP) (hA : TlAll zs xs) : ∀ (N fr n : Nat), n ≤ N → 0 < n → ∀ a b c d, tilR xs fr n = some (a, c) → tilR (xs ++ ys) fr n = some (b, d) → d ≤ c := by
  intro N
  induction N with
  | zero => intro fr n h1 h2; omega
  | succ N ih =>
    intro fr n hN h0 a b c d e1 e2
    have hc := (tilR_bd n xs fr n (Nat.le_refl _) (hA.bd hz) h0 a c e1).2.1
    cases ep2 : partT (xs ++ ys) fr n with
    | some v =>
      rw [tilR_part (xs ++ ys) fr n v ep2] at e2
      simp at e2
      omega
    | none =>
      have ep : partT xs fr n = none := by
        cases ep : partT xs fr n with
        | none => rfl
        | some v => exact absurd ep2 (partT_cat xs ys fr n (by rw [ep]; simp))
      by_cases h1 : n ≤ 1
      · rw [tilR_one xs fr n ep h1] at e1; simp at e1
      · have h2 : 2 ≤ n := by omega
        have hl := hk_lt h2
        have hp := hk_pos n
        rw [tilR_more xs fr n ep h2] at e1
        rw [tilR_more (xs ++ ys) fr n ep2 h2] at e2
        cases ea : tilR xs fr (hk n) with
        | none => rw [ea] at e1; simp at e1
        | some p =>
          cases eb : tilR xs (fr + hk n) (n - hk n) with
          | none => rw [ea, eb] at e1; simp at e1
          | some q =>
            cases ea2 : tilR (xs ++ ys) fr (hk n) with
            | none => rw [ea2] at e2; simp at e2
            | some p2 =>
              cases eb2 : tilR (xs ++ ys) (fr + hk n) (n - hk n) with
              | none => rw [ea2, eb2] at e2; simp at e2
              | some q2 =>
                rw [ea, eb] at e1
                rw [ea2, eb2] at e2
                simp at e1 e2
                have i1 := ih fr (hk n) (by omega) (by omega) p.1 p2.1 p.2 p2.2 ea ea2
                have i2 := ih (fr + hk n) (n - hk n) (by omega) (by omega) q.1 q2.1 q.2 q2.2 eb eb2
                omega
/-- No tiles behind these let more digests be taken than that. -/
def Bef (zs : List Int) (xs : List TP) (m : Int) : Prop := ∀ ys, TlAll zs (xs ++ ys) → ∀ v c, tilR (xs ++ ys) 0 zs.length = some (v, c) → (c : Int) ≤ m
theorem Bef.start (zs : List Int) (hz : ∀ k, U64 (zs.getD k 0)) (h0 : 0 < zs.length) : Bef zs [] zs.length := fun ys hA v c e => by
  have := (tilR_bd _ _ 0 zs.length (Nat.le_refl _) (hA.bd hz) h0 v c e).2.2
  omega
theorem Bef.snoc {zs : List Int} {xs : List TP} {m : Int} (h : Bef zs xs m) (ys : List TP) : Bef zs (xs ++ ys) m := fun more hA v c e => by
  rw [List.append_assoc] at hA e
  exact h _ hA v c e
structure TdR (zs : List Int) (xs : List TP) (m u : Int) : Prop where
  val : tdV xs zs.length = (rootL zs, u)
  lo : 1 ≤ u
  hi : u ≤ m
  bef : Bef zs xs u
theorem tiled_own (zs : List Int) (hz : ∀ k, U64 (zs.getD k 0)) (xs : List TP) (hA : TlAll zs xs) (hH : TlLow zs xs 1) (m : Int) (hm : Bef zs xs m) (h0 : 0 < zs.length) (h1 : zs.length ≤ 200) : ∃ u, TdR zs xs m u := by
  obtain ⟨c, e⟩ := tilR_all zs xs hA hH zs.length 0 zs.length (Nat.le_refl _) h0 (by omega)
  have e0 : (zs.drop 0).take zs.length = zs := by simp
  rw [e0] at e
  have hb := tilR_bd _ xs 0 zs.length (Nat.le_refl _) (hA.bd hz) h0 _ c e
  refine ⟨c, ?_, ?_, ?_, ?_⟩
  · unfold tdV
    rw [if_pos (by omega), if_pos, Int.toNat_natCast, e]
    · rfl
    · intro k hk
      have e2 : xs.getD k default = xs[k] := by simp [hk]
      rw [e2]
      exact hA.few _ (List.getElem_mem hk)
  · omega
  · have := hm [] (by rw [List.append_nil]; exact hA) (rootL zs) c (by rw [List.append_nil]; exact e)
    exact this
  · intro ys hA2 v d e2
    have := tilR_less zs hz xs ys hA zs.length 0 zs.length (Nat.le_refl _) h0 _ _ _ _ e e2
    exact_mod_cast this
theorem TlAll.snoc {zs : List Int} {xs : List TP} (h : TlAll zs xs) (l ix : Nat) : TlAll zs (xs ++ [⟨l, ix, tlF zs (4 ^ l) ix 4⟩]) := fun t ht => by
  rcases List.mem_append.1 ht with ht | ht
  · exact h t ht
  · simp at ht; exact ⟨l, ix, by rw [ht], by rw [ht], by rw [ht]⟩
theorem TlHas.cat {zs : List Int} {xs : List TP} {l m : Nat} (h : TlHas zs xs l m) (ys : List TP) : TlHas zs (xs ++ ys) l m := fun ix h1 h2 => List.mem_append_left _ (h ix h1 h2)
theorem TlHas.snoc {zs : List Int} {xs : List TP} {l m : Nat} (h : TlHas zs xs l m) : TlHas zs (xs ++ [⟨l, m, tlF zs (4 ^ l) m 4⟩]) l (m + 1) := fun ix h1 h2 => by
  by_cases e : ix = m
  · subst e; exact List.mem_append_right _ (by simp)
  · exact List.mem_append_left _ (h ix (by omega) h2)
theorem TlHas.skip {zs : List Int} {xs : List TP} {l m : Nat} (h : TlHas zs xs l m) (hn : ¬ 4 * m * 4 ^ l + 4 ^ l ≤ zs.length) : TlHas zs xs l (m + 1) := fun ix h1 h2 => by
  by_cases e : ix = m
  · subst e; exact absurd h2 hn
  · exact h ix (by omega) h2
theorem TlLow.cat {zs : List Int} {xs : List TP} {L : Nat} (h : TlLow zs xs L) (ys : List TP) : TlLow zs (xs ++ ys) L := fun l hl m => (h l hl m).cat ys
theorem TlLow.next {zs : List Int} {xs : List TP} {L m : Nat} (h : TlLow zs xs L) (h2 : TlHas zs xs L m) (hz : zs.length ≤ 200) (hm : zs.length ≤ 4 * m * 4 ^ L ∨ 200 < m) : TlLow zs xs (L + 1) := fun l hl k ix h3 h4 => by
  by_cases e : l = L
  · subst e
    have hp : 0 < 4 ^ l := Nat.pow_pos (by decide)
    refine h2 ix ?_ h4
    rcases hm with hm | hm
    · by_cases hlt : ix < m
      · exact hlt
      · exfalso
        have : 4 * m * 4 ^ l ≤ 4 * ix * 4 ^ l := Nat.mul_le_mul_right _ (by omega)
        omega
    · have : 4 * ix ≤ 4 * ix * 4 ^ l := Nat.le_mul_of_pos_right _ hp
      omega
  · exact h l (by omega) k ix h3 h4
theorem TlLow.zero (zs : List Int) (xs : List TP) : TlLow zs xs 0 := fun _ hl => absurd hl (Nat.not_lt_zero _)

end Go.Proofs.Ytflioloegppnmaa

