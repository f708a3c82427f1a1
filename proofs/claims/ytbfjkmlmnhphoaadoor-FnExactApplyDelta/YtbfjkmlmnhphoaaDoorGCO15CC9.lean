import Derived.Test.YtbfjkmlmnhphoaaDoorCO14
import Derived.Test.YtbfjkmlmnhphoaaDoorGCO11CC8
import Derived.Maps.OwnSet
set_option linter.unusedVariables false
namespace Go.Proofs.YtbfjkmlmnhphoaaDoor
open Go.RowKit Go.Maps

theorem entP_wf {x : CP} {y : GP} (h : entP x y) : (Lit.int .i64 y.ser).wf = true := WalkArith.wf_i64 (by have := h.1; omega)
theorem ftS_max {xs : List PT} (h : nameP xs) : (ftS xs).size ≤ maxLen := by
  show (fbs xs).toArray.size ≤ maxLen
  have h1 := fbs_len xs (nameP_all h)
  have h2 := h.1
  rw [List.size_toArray]
  unfold maxLen
  omega
theorem kb_like {x : CP} {y z : GP} (hy : entP x y) (hz : entP x z) : kb y = kb z ↔ likeP y z := by
  constructor
  · intro h
    have h2 : kl (ftS y.parts) y.ser = kl (ftS z.parts) z.ser := congrArg Lit.string h
    obtain ⟨e1, e2⟩ := key_inj (ftS_max (entP_name hy)) (ftS_max (entP_name hz)) (entP_wf hy) (entP_wf hz) h2
    exact ⟨e2, (ftS_same (entP_name hy) (entP_name hz)).1 e1⟩
  · rintro ⟨e1, e2⟩
    unfold kb
    rw [e1, (ftS_same (entP_name hy) (entP_name hz)).2 e2]
theorem Sn_size (x : CP) (xs : List GP) (n : Nat) (hn : xs.length = n) (h : ∀ k, k < n → entP x (xs.getD k default)) : Maps.size (Sn xs n) = n ↔ ∀ i k, i < n → k < i → ¬ likeP (xs.getD k default) (xs.getD i default) := by
  have hm : ∀ y ∈ xs, entP x y := fun y hy => by
    obtain ⟨k, hk, rfl⟩ := List.getElem_of_mem hy
    have := h k (by omega)
    rw [List.getD_eq_getElem?_getD, List.getElem?_eq_getElem hk] at this
    exact this
  have e0 : (xs.take n).map (fun y => Lit.string (kb y)) = (xs.map kb).map Lit.string := by
    rw [List.take_of_length_le (by omega), List.map_map]
    rfl
  have e1 : Maps.size (Sn xs n) = ((xs.map kb).foldl addS []).length := by
    unfold Sn
    rw [e0, size_setOf _ _ (fun l hl => ?_)]
    · have := fold_str (xs.map kb) []
      rw [List.map_nil] at this
      rw [this, List.length_map]
    · obtain ⟨b, hb, rfl⟩ := List.mem_map.1 hl
      obtain ⟨y, hy, rfl⟩ := List.mem_map.1 hb
      exact isKey (ftS_max (entP_name (hm y hy))) (entP_wf (hm y hy))
  have e2 := (fold_len (xs.map kb) []).2
  rw [List.length_nil, Nat.zero_add, List.length_map, hn] at e2
  rw [e1, e2]
  have e3 : (∀ y ∈ xs.map kb, y ∉ ([] : List (List UInt8))) := fun y _ hy => by cases hy
  rw [List.Nodup, List.pairwise_iff_getElem]
  constructor
  · rintro ⟨_, q⟩ i k hi hk hl
    have hi' : i < xs.length := by omega
    have hk' : k < xs.length := by omega
    have := q k i (by simpa using hk') (by simpa using hi') hk
    apply this
    simp only [List.getElem_map]
    have a1 := hm _ (List.getElem_mem hk')
    have a2 := hm _ (List.getElem_mem hi')
    rw [List.getD_eq_getElem?_getD, List.getElem?_eq_getElem hk', List.getD_eq_getElem?_getD, List.getElem?_eq_getElem hi'] at hl
    exact (kb_like a1 a2).2 hl
  · intro q
    refine ⟨e3, fun k i hk hi hki e => ?_⟩
    have hk' : k < xs.length := by simpa using hk
    have hi' : i < xs.length := by simpa using hi
    simp only [List.getElem_map] at e
    have a1 := hm _ (List.getElem_mem hk')
    have a2 := hm _ (List.getElem_mem hi')
    refine q i k (by omega) hki ?_
    rw [List.getD_eq_getElem?_getD, List.getElem?_eq_getElem hk', List.getD_eq_getElem?_getD, List.getElem?_eq_getElem hi']
    exact (kb_like a1 a2).1 e

end Go.Proofs.YtbfjkmlmnhphoaaDoor

set_option linter.unusedVariables false
namespace Go.Proofs.YtbfjkmlmnhphoaaDoor
open Go.RowKit Go.Sort Go.Maps

/-- The last of the first k entries that bears this key. -/
def lastK (xs : List GP) (q : List UInt8) : Nat → Option Nat
  | 0 => none
  | k + 1 => if kb (xs.getD k default) = q then some k else lastK xs q k
theorem lastK_lt {xs : List GP} {q : List UInt8} : ∀ {k j : Nat}, lastK xs q k = some j → j < k ∧ kb (xs.getD j default) = q
  | 0, j, h => by cases h
  | k + 1, j, h => by
    unfold lastK at h
    by_cases e : kb (xs.getD k default) = q
    · rw [if_pos e] at h
      cases h
      exact ⟨Nat.lt_succ_self _, e⟩
    · rw [if_neg e] at h
      have := lastK_lt h
      exact ⟨by omega, this.2⟩
theorem lastK_none {xs : List GP} {q : List UInt8} : ∀ {k : Nat}, lastK xs q k = none → ∀ j, j < k → kb (xs.getD j default) ≠ q
  | 0, _, j, hj => by omega
  | k + 1, h, j, hj => by
    unfold lastK at h
    by_cases e : kb (xs.getD k default) = q
    · rw [if_pos e] at h
      cases h
    · rw [if_neg e] at h
      by_cases ej : j = k
      · rw [ej]; exact e
      · exact lastK_none h j (by omega)
/-- A right entry's key is one. -/
def kOk (y : GP) : Prop := nameP y.parts ∧ (Lit.int .i64 y.ser).wf = true
theorem kOk.key {y : GP} (h : kOk y) : WideAt.IsKeyLit (.string (kb y)) := isKey (ftS_max h.1) h.2
theorem kOk.at {y : GP} (h : kOk y) : Go.keyOf Tryd.prog 99 (.agg #[.string (ftS y.parts), .int .i64 y.ser]) = some (.string (kb y)) := key_is (ftS_max h.1) h.2
theorem kOk_like {y z : GP} (hy : kOk y) (hz : kOk z) : kb y = kb z ↔ likeP y z := by
  constructor
  · intro h
    have h2 : kl (ftS y.parts) y.ser = kl (ftS z.parts) z.ser := congrArg Lit.string h
    obtain ⟨e1, e2⟩ := key_inj (ftS_max hy.1) (ftS_max hz.1) hy.2 hz.2 h2
    exact ⟨e2, (ftS_same hy.1 hz.1).1 e1⟩
  · rintro ⟨e1, e2⟩
    unfold kb
    rw [e1, (ftS_same hy.1 hz.1).2 e2]
theorem Vn_isMap (w : World) (a : Option Addr) (xs : List GP) : ∀ k, IsMap (Vn w a xs k)
  | 0 => isMap_empty
  | k + 1 => by rw [Vn_succ]; exact (Vn_isMap w a xs k).put _ _
theorem Vn_at (w : World) (a : Option Addr) (xs : List GP) (q : List UInt8) (z : DataW Value) : ∀ k, (∀ j, j < k → kOk (xs.getD j default)) → (Vn w a xs k).atKey (.string q) z = (match lastK xs q k with | some j => .held (entV w a j) | none => z) ∧ has (Vn w a xs k) (.string q) = (lastK xs q k).isSome
  | 0, _ => ⟨rfl, rfl⟩
  | k + 1, h => by
    have ih := Vn_at w a xs q z k (fun j hj => h j (by omega))
    rw [Vn_succ]
    unfold lastK
    by_cases e : kb (xs.getD k default) = q
    · rw [if_pos e, ← e]
      exact ⟨atKey_put_same (Vn_isMap w a xs k) (h k (Nat.lt_succ_self _)).key _ _, has_put_same (Vn_isMap w a xs k) (h k (Nat.lt_succ_self _)).key _⟩
    · have hne : Lit.string q ≠ Lit.string (kb (xs.getD k default)) := fun e2 => e (by simpa using e2.symm)
      rw [if_neg e, atKey_put_other hne, has_put_other hne]
      exact ih
/-- The map without the keys of the first k entries. -/
def Dn (D : DataW Value) (ys : List GP) : Nat → DataW Value
  | 0 => D
  | k + 1 => (Dn D ys k).del (.string (kb (ys.getD k default)))
theorem Dn_new (D : DataW Value) (ys : List GP) (q : List UInt8) (z : DataW Value) : ∀ k, (∀ i, i < k → kb (ys.getD i default) ≠ q) → (Dn D ys k).atKey (.string q) z = D.atKey (.string q) z ∧ has (Dn D ys k) (.string q) = has D (.string q)
  | 0, _ => ⟨rfl, rfl⟩
  | k + 1, h => by
    have ih := Dn_new D ys q z k (fun i hi => h i (by omega))
    have hne : Lit.string q ≠ Lit.string (kb (ys.getD k default)) := fun e2 => h k (Nat.lt_succ_self _) (by simpa using e2.symm)
    unfold Dn
    rw [atKey_del_other hne, has_del_other hne]
    exact ih
theorem Dn_has (D : DataW Value) (ys : List GP) (q : List UInt8) : ∀ k, has (Dn D ys k) (.string q) = (has D (.string q) && (lastK ys q k).isNone)
  | 0 => by simp [Dn, lastK]
  | k + 1 => by
    unfold Dn lastK
    by_cases e : kb (ys.getD k default) = q
    · rw [if_pos e, e, has_del_same]; simp
    · have hne : Lit.string q ≠ Lit.string (kb (ys.getD k default)) := fun e2 => e (by simpa using e2.symm)
      rw [if_neg e, has_del_other hne]
      exact Dn_has D ys q k

/-- What is told of y: whether it stands so among xs. -/
def sameE (xs : List GP) (y : GP) : Bool := match lastK xs (kb y) xs.length with
  | some j => decide ((xs.getD j default).tm = y.tm) && decide ((xs.getD j default).rs = y.rs)
  | none => false
def chA (xs ys : List GP) : Nat → List GP
  | 0 => []
  | k + 1 => chA xs ys k ++ if sameE xs (ys.getD k default) then [] else [ys.getD k default]
def outE (tm : Int) (x : GP) : GP := ⟨x.parts, x.ser, tm, 7⟩
def chB (xs ys : List GP) (tm : Int) : Nat → List GP
  | 0 => []
  | k + 1 => chB xs ys tm k ++ if (lastK ys (kb (xs.getD k default)) ys.length).isSome then [] else [outE tm (xs.getD k default)]
def chgs (xs ys : List GP) (tm : Int) : List GP := chA xs ys ys.length ++ chB xs ys tm xs.length
theorem chA_len (xs ys : List GP) : ∀ k, (chA xs ys k).length ≤ k
  | 0 => Nat.le_refl _
  | k + 1 => by
    have := chA_len xs ys k
    unfold chA
    split <;> simp <;> omega
theorem chB_len (xs ys : List GP) (tm : Int) : ∀ k, (chB xs ys tm k).length ≤ k
  | 0 => Nat.le_refl _
  | k + 1 => by
    have := chB_len xs ys tm k
    unfold chB
    split <;> simp <;> omega

/-- A row of entries of our own; their names lie where they lay at the beginning. -/
structure GsO (w0 : World) (B : Nat) (w : World) (a : Option Addr) (k c : Nat) (zs : List GP) (sl : Nat → Sl) : Prop where
  len : zs.length = k
  row : w.ownsRow B 63 4 (.slice a k c) k (flG zs sl k)
  pts : ∀ j, j < k → Pts w0 (sl j).1 (sl j).2.1 (zs.getD j default).parts ∧ ((sl j).1 = none → (sl j).2.2 = 0) ∧ (sl j).2.1 ≤ 1048576
theorem GsO.empty (w0 : World) (B : Nat) (w : World) (sl : Nat → Sl) : GsO w0 B w none 0 0 [] sl := ⟨rfl, World.ownsRow_nil _ _ _ _, fun j hj => absurd hj (Nat.not_lt_zero _)⟩
theorem GsO.below {B : Nat} {w0 w w' : World} {a : Option Addr} {k c : Nat} {zs : List GP} {sl : Nat → Sl} (h : GsO w0 B w a k c zs sl) (hb : Below w.heap.size w w') : GsO w0 B w' a k c zs sl := ⟨h.len, ownsRow_below h.row hb, h.pts⟩
theorem GsO.lower {B B' : Nat} {w0 w : World} {a : Option Addr} {k c : Nat} {zs : List GP} {sl : Nat → Sl} (h : GsO w0 B w a k c zs sl) (hB : B' ≤ B) : GsO w0 B' w a k c zs sl := ⟨h.len, owns_monoC h.row hB, h.pts⟩
theorem flG_ext {xs ys : List GP} {sl sm : Nat → Sl} : ∀ k, (∀ j, j < k → xs.getD j default = ys.getD j default ∧ sl j = sm j) → flG xs sl k = flG ys sm k := by
  intro k
  induction k with
  | zero => intro _; rfl
  | succ k ih => intro h; simp only [flG]; rw [ih (fun j hj => h j (by omega)), (h k (by omega)).1, (h k (by omega)).2]
theorem getD_left {xs ys : List GP} {j : Nat} (h : j < xs.length) : (xs ++ ys).getD j default = xs.getD j default := by
  rw [List.getD_eq_getElem?_getD, List.getD_eq_getElem?_getD, List.getElem?_append_left h]
theorem getD_last (xs : List GP) (y : GP) : (xs ++ [y]).getD xs.length default = y := by
  rw [List.getD_eq_getElem?_getD, List.getElem?_append_right (Nat.le_refl _), Nat.sub_self]
  rfl
theorem GsO.appended {B : Nat} {w0 w w7 : World} {a : Option Addr} {k c : Nat} {zs : List GP} {sl : Nat → Sl} (h : GsO w0 B w a k c zs sl) {y : GP} {a2 : Option Addr} {n2 c2 : Nat} (hp : Pts w0 a2 n2 y.parts) (hc : a2 = none → c2 = 0) (hn : n2 ≤ 1048576)
    {a7 : Option Addr} {c7 : Nat} (hv : w7.ownsRow B 63 4 (.slice a7 (k + 1) c7) (k + 1) (flG zs sl k ++ [.slice a2 n2 c2, .int .i64 y.ser, .int .i64 y.tm, .int .i64 y.rs])) : GsO w0 B w7 a7 (k + 1) c7 (zs ++ [y]) (fun j => if j = k then (a2, n2, c2) else sl j) := by
  have hl := h.len
  have hlast : (zs ++ [y]).getD k default = y := by rw [← hl]; exact getD_last zs y
  refine ⟨by simp [hl], ?_, fun j hj => ?_⟩
  · simp only [flG, if_true, hlast]
    rw [flG_ext (ys := zs) (sm := sl) k (fun j hj => ⟨getD_left (by omega), by simp only [if_neg (show ¬ j = k by omega)]⟩)]
    exact hv
  · by_cases e : j = k
    · subst e
      simp only [if_true, hlast]
      exact ⟨hp, hc, hn⟩
    · simp only [if_neg e]
      rw [getD_left (by omega)]
      exact h.pts j (by omega)
theorem GsO.gns {B : Nat} {w0 w : World} {a : Option Addr} {k c : Nat} {zs : List GP} {sl : Nat → Sl} (h : GsO w0 B w a k c zs sl) (hb : Below w0.heap.size w0 w) (hn : k ≤ 9223372036854775807) : Gns w a k zs := by
  refine ⟨h.len, hn, fun j hj => ?_⟩
  obtain ⟨g, rfl, _, hg⟩ := ownsRow_shape h.row (by omega)
  obtain ⟨f0, f1, f2, f3⟩ := flG_get zs sl k j hj
  refine ⟨g, 0, (sl j).1, (sl j).2.1, (sl j).2.2, rfl, hg, ⟨?_, ?_, ?_, ?_⟩, (h.pts j hj).1.kept hb⟩
  · rw [Nat.zero_add]; exact (h.row.cellAt (j * 4) (by omega)).trans f0
  · rw [Nat.zero_add]; exact (h.row.cellAt (j * 4 + 1) (by omega)).trans f1
  · rw [Nat.zero_add]; exact (h.row.cellAt (j * 4 + 2) (by omega)).trans f2
  · rw [Nat.zero_add]; exact (h.row.cellAt (j * 4 + 3) (by omega)).trans f3
theorem GsO.caps {B : Nat} {w0 w : World} {a : Option Addr} {k c : Nat} {zs : List GP} {sl : Nat → Sl} (h : GsO w0 B w a k c zs sl) : ∀ j, j < k → ∀ b off an nn cn, a = some ⟨b, off, none⟩ → w.cell? ⟨b, off + j * 4, none⟩ = some (.slice an nn cn) → (an = none → cn = 0) ∧ nn ≤ 1048576 := by
  intro j hj b off an nn cn e hc
  obtain ⟨g, e2, _, hg⟩ := ownsRow_shape h.row (by omega)
  rw [e] at e2
  simp only [Option.some.injEq, Addr.mk.injEq] at e2
  obtain ⟨rfl, rfl, _⟩ := e2
  subst e
  have := (h.row.cellAt (j * 4) (by omega)).trans (flG_get zs sl k j hj).1
  rw [Nat.zero_add] at hc
  rw [hc] at this
  simp only [Option.some.injEq, Value.slice.injEq] at this
  obtain ⟨rfl, rfl, rfl⟩ := this
  exact (h.pts j hj).2

theorem MpV.below {b n : Nat} {D : DataW Value} {w w2 : World} (h : MpV b n D w) (hb : Below w.heap.size w w2) : MpV b n D w2 := h.kept hb
/-- The row of our own is no map. -/
theorem row_map {w : World} {B t s n c b m : Nat} {a : Option Addr} {vs : List Value} {D : DataW Value} (h : w.ownsRow B t s (.slice a n c) n vs) (hm : MpV b m D w) : ∀ g, a = some ⟨g, 0, none⟩ → g ≠ b := by
  rintro g e rfl
  obtain ⟨es, clock, hb, _⟩ := hm
  rcases h.2 with ⟨z, _⟩ | ⟨g1, k1, cur, y1, _, hg1, _⟩
  · simp only [Value.slice.injEq] at z; rw [e] at z; simp at z
  · simp only [Value.slice.injEq] at y1
    have e1 := y1.1.symm.trans e
    simp only [Option.some.injEq, Addr.mk.injEq] at e1
    rw [e1.1, hb] at hg1
    cases hg1
theorem MpV.grown {w w7 : World} {B t s n c b m : Nat} {a : Option Addr} {vs : List Value} {D : DataW Value} (hm : MpV b m D w) (h : w.ownsRow B t s (.slice a n c) n vs) (hg : w.grownBy w7 (Value.slice a n c).ownBlock) : MpV b m D w7 :=
  World.ownsMap.kept hm hg (fun e => row_map h hm b (ownsRow_ownBlock h b e.symm) rfl)
theorem GsO.turned {B : Nat} {w0 w w' : World} {a : Option Addr} {k c b m : Nat} {zs : List GP} {sl : Nat → Sl} {D : DataW Value} (h : GsO w0 B w a k c zs sl) (hm : MpV b m D w) (ht : w.mapTurned w' b) : GsO w0 B w' a k c zs sl := by
  have hg := ht.grown
  exact ⟨h.len, ownsRow_keepS (S := fun i => i = b) h.row ⟨hg.os, hg.tape, hg.output, hg.size, fun i hi hne => hg.block i hi (by intro e; simp only [Option.some.injEq] at e; exact hne e)⟩ (fun g e _ e2 => row_map h.row hm g e e2), h.pts⟩

/-- The lookup, with the value written out. -/
theorem wpList_lookupV {P : Program} (w : World) {ops : Array Oper} {rest : List Oper} {o : Oper} {a : Act} {Q : Exit → Act → World → Prop} (hg : o.guard = none) (m x : Operand) (t : TypeId) (hop : o.op = Op.lookup t m x true)
    (k e : TypeId) (K : Keyed P k) (ht : P.underlying t = some (.map k e)) {z : Value} (hz : (zeroValue e).run P w = .ok z w) (b n : Nat) (D : DataW Value)
    (hm : a.eval m = .map (some b)) (hown : w.ownsMap P k RV b n D) (key : Value) (kl : Lit) (hx : a.eval x = key) (hkey : Go.keyOf P k key = some kl) (V : Value) (hb : Bool) (hV : D.atKey kl (.held z) = .held V) (hh : has D kl = hb)
    (hK : wpList P ops Q rest (a.put o.dst (.tuple #[V, .bool hb])) w) : wpList P ops Q (o :: rest) a w :=
  wpList_lookup_own_ok w hg m x t hop k e K ht RV hz (.held z) [] rfl b n D hm hown key kl hx hkey (fun v ps hv => by
    simp only [RV, Option.some.injEq, Prod.mk.injEq] at hv
    rw [hV] at hv
    obtain ⟨e1, _⟩ := hv
    cases e1
    rw [hh]
    exact hK)
theorem zeroGone (w : World) : (zeroValue 63).run Tryd.prog w = .ok (.agg #[.slice none 0 0, .int .i64 0, .int .i64 0, .int .i64 0]) w := by
  simp [zeroValue, Result.andThen]
  rfl

end Go.Proofs.YtbfjkmlmnhphoaaDoor
