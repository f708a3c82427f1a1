import Derived.Test.YtbfjkmlmnhphoaaDoorGCC7MJ0
import Derived.Test.YtbfjkmlmnhphoaaDoorCC12
import Derived.Test.YtbfjkmlmnhphoaaDoorCC10
set_option linter.unusedVariables false
namespace Go.Proofs.YtbfjkmlmnhphoaaDoor
open Go.RowKit Go.Sort

theorem cpOk_zero : CpOk 0 0 0 zeroC := ⟨by omega, fun k hk => absurd hk (Nat.not_lt_zero _), by omega, fun k hk => absurd hk (Nat.not_lt_zero _), by omega⟩
/-- Both answer the same. -/
theorem md_out {x y : CP} {n1 n2 n3 m1 m2 m3 : Nat} (hz : CpOk n1 n2 n3 x) (hz' : CpOk m1 m2 m3 y) (hl : x.ents.length = n2) (hl' : y.ents.length = m2) : ∃ z m n cd, CpOk m n 0 z ∧ (∀ w e w', SdQ x y m1 w e w' → AnsS z m n cd w e w') ∧ (∀ w e w', MdQ x y m1 w e w' → AnsI z m n cd w e w') := by
  by_cases h1 : OkP x y
  · by_cases h2 : fitV x y = 0
    · by_cases h3 : 60 < (chgs x.ents y.ents y.tm).length
      · refine ⟨zeroC, 0, 0, 5, cpOk_zero, ?_, ?_⟩
        · rintro w e w' ⟨hb, ⟨q, _⟩ | ⟨_, q, _⟩ | ⟨_, _, _, rfl⟩ | ⟨_, _, q, _⟩⟩
          · exact absurd h1 q
          · exact absurd h2 q
          · exact ansS_zero hb
          · exact absurd h3 q
        · rintro w e w' (⟨q, _⟩ | ⟨_, q, _⟩ | ⟨_, _, hb, ⟨_, rfl⟩ | ⟨q, _⟩⟩)
          · exact absurd h1 q
          · exact absurd h2 q
          · exact ansI_zero hb
          · exact absurd h3 q
      · refine ⟨noSig (dlV x y), m1, (chgs x.ents y.ents y.tm).length, 0, ⟨hz'.1, hz'.2.1, by omega, fun k hk => chgs_ok (fun j hj => hz.2.2.2.1 j (hl ▸ hj)) (fun j hj => hz'.2.2.2.1 j (hl' ▸ hj)) k hk, by omega⟩, ?_, ?_⟩
        · rintro w e w' ⟨hb, ⟨q, _⟩ | ⟨_, q, _⟩ | ⟨_, _, q, _⟩ | ⟨_, _, _, p1, f1, p2, f2, p3, f3, rfl, hc⟩⟩
          · exact absurd h1 q
          · exact absurd h2 q
          · exact absurd q h3
          · exact ⟨p1, f1, p2, f2, p3, f3, rfl, hc, hb⟩
        · rintro w e w' (⟨q, _⟩ | ⟨_, q, _⟩ | ⟨_, _, hb, ⟨q, _⟩ | ⟨_, p1, f1, p2, f2, p3, f3, sl, rfl, hc, ho⟩⟩)
          · exact absurd h1 q
          · exact absurd h2 q
          · exact absurd q h3
          · exact ⟨p1, f1, p2, f2, p3, f3, rfl, ⟨sl, ⟨ho.nm, ho.en, hc.now.nm.len, rfl, rfl, fun j hj => own_slen ho.en hc.now.en j hj⟩, _, _, _, ho⟩, hb⟩
    · refine ⟨zeroC, 0, 0, fitV x y, cpOk_zero, ?_, ?_⟩
      · rintro w e w' ⟨hb, ⟨q, _⟩ | ⟨_, _, rfl⟩ | ⟨_, q, _⟩ | ⟨_, q, _⟩⟩
        · exact absurd h1 q
        · exact ansS_zero hb
        · exact absurd q h2
        · exact absurd q h2
      · rintro w e w' (⟨q, _⟩ | ⟨_, _, rfl, hb⟩ | ⟨_, q, _⟩)
        · exact absurd h1 q
        · exact ansI_zero hb
        · exact absurd q h2
  · refine ⟨zeroC, 0, 0, 1, cpOk_zero, ?_, ?_⟩
    · rintro w e w' ⟨hb, ⟨_, rfl⟩ | ⟨q, _⟩ | ⟨q, _⟩ | ⟨q, _⟩⟩
      · exact ansS_zero hb
      · exact absurd q h1
      · exact absurd q h1
      · exact absurd q h1
    · rintro w e w' (⟨_, rfl, hb⟩ | ⟨q, _⟩ | ⟨q, _⟩)
      · exact ansI_zero hb
      · exact absurd q h1
      · exact absurd q h1
theorem specMakeDelta_g (a1 : Option Addr) (n1 : Nat) (a2 : Option Addr) (n2 : Nat) (a3 : Option Addr) (n3 : Nat) (x : CP) (b1 : Option Addr) (m1 : Nat) (b2 : Option Addr) (m2 : Nat) (b3 : Option Addr) (m3 : Nat) (y : CP) (w : World) (h : CrG w a1 n1 a2 n2 a3 n3 x) (h' : CrG w b1 m1 b2 m2 b3 m3 y) (hz : CpOk n1 n2 n3 x) (hz' : CpOk m1 m2 m3 y) :
    Calls Tryd.prog 12 #[crv a1 n1 n1 a2 n2 n2 a3 n3 n3 x, crv b1 m1 m1 b2 m2 m2 b3 m3 m3 y] w fun e w' => SdQ x y m1 w e w' :=
  specMakeDelta_any a1 n1 n1 a2 n2 n2 a3 n3 n3 x b1 m1 m1 b2 m2 m2 b3 m3 m3 y w h.crs h'.crs hz hz' h'.caps.nm h'.caps.sg h.caps.en h'.caps.en
theorem implMakeDelta_g (a1 : Option Addr) (n1 : Nat) (a2 : Option Addr) (n2 : Nat) (a3 : Option Addr) (n3 : Nat) (x : CP) (b1 : Option Addr) (m1 : Nat) (b2 : Option Addr) (m2 : Nat) (b3 : Option Addr) (m3 : Nat) (y : CP) (w : World) (htab : Lib.TabIs Tryd.prog w "internal/strconv.uint64pow10" .u64 Lib.pow10Tab) (h : CrG w a1 n1 a2 n2 a3 n3 x) (h' : CrG w b1 m1 b2 m2 b3 m3 y) (hz : CpOk n1 n2 n3 x) (hz' : CpOk m1 m2 m3 y) (hsc : -9223372036854775808 ≤ x.scope ∧ x.scope ≤ 9223372036854775807) (hsc' : -9223372036854775808 ≤ y.scope ∧ y.scope ≤ 9223372036854775807) :
    Calls Tryd.prog 13 #[crv a1 n1 n1 a2 n2 n2 a3 n3 n3 x, crv b1 m1 m1 b2 m2 m2 b3 m3 m3 y] w fun e w' => MdQ x y m1 w e w' :=
  implMakeDelta_any a1 n1 n1 a2 n2 n2 a3 n3 n3 x b1 m1 m1 b2 m2 m2 b3 m3 m3 y w htab h.crs h'.crs hz hz' hsc hsc' h'.caps.nm h.caps.en h'.caps.en

end Go.Proofs.YtbfjkmlmnhphoaaDoor

set_option linter.unusedVariables false
namespace Go.Proofs.YtbfjkmlmnhphoaaDoor
open Go.RowKit Go.Sort Go.Maps

/-- What a map says of each key. -/
def FunK : Type := List UInt8 → Option GP
def FunK.set (f : FunK) (q : List UInt8) (v : Option GP) : FunK := fun r => if r = q then v else f r
/-- The value of an entry. -/
def valG (a : Option Addr) (n c : Nat) (y : GP) : Value := .agg #[.slice a n c, .int .i64 y.ser, .int .i64 y.tm, .int .i64 y.rs]
structure MpF (w0 : World) (D : DataW Value) (f : FunK) : Prop where
  map : IsMap D
  no : ∀ q, f q = none → has D (.string q) = false ∧ ∀ z, D.atKey (.string q) z = z
  yes : ∀ q y, f q = some y → has D (.string q) = true ∧ ∃ an nn cn, (∀ z, D.atKey (.string q) z = .held (valG an nn cn y)) ∧ Pts w0 an nn y.parts ∧ (an = none → cn = 0) ∧ nn ≤ 1048576
theorem MpF.put {w0 : World} {D : DataW Value} {f : FunK} (h : MpF w0 D f) {y : GP} (hk : kOk y) {an : Option Addr} {nn cn : Nat} (hp : Pts w0 an nn y.parts) (hc : an = none → cn = 0) (hn : nn ≤ 1048576) : MpF w0 (D.put (.string (kb y)) (.held (valG an nn cn y))) (f.set (kb y) (some y)) := by
  refine ⟨h.map.put _ _, fun q hq => ?_, fun q z hq => ?_⟩
  · unfold FunK.set at hq
    by_cases e : q = kb y
    · rw [if_pos e] at hq; cases hq
    · rw [if_neg e] at hq
      have hne : Lit.string q ≠ Lit.string (kb y) := by simpa using e
      exact ⟨(has_put_other hne _).trans (h.no q hq).1, fun z => (atKey_put_other hne _ _).trans ((h.no q hq).2 z)⟩
  · unfold FunK.set at hq
    by_cases e : q = kb y
    · rw [if_pos e] at hq
      cases hq
      subst e
      exact ⟨has_put_same h.map hk.key _, an, nn, cn, fun z => atKey_put_same h.map hk.key _ _, hp, hc, hn⟩
    · rw [if_neg e] at hq
      have hne : Lit.string q ≠ Lit.string (kb y) := by simpa using e
      obtain ⟨h1, an', nn', cn', h2, h3⟩ := h.yes q z hq
      exact ⟨(has_put_other hne _).trans h1, an', nn', cn', fun u => (atKey_put_other hne _ _).trans (h2 u), h3⟩
theorem MpF.del {w0 : World} {D : DataW Value} {f : FunK} (h : MpF w0 D f) (q : List UInt8) : MpF w0 (D.del (.string q)) (f.set q none) := by
  refine ⟨h.map.del _, fun r hr => ?_, fun r z hr => ?_⟩
  · unfold FunK.set at hr
    by_cases e : r = q
    · rw [e]; exact ⟨has_del_same, fun z => atKey_del_same _⟩
    · rw [if_neg e] at hr
      have hne : Lit.string r ≠ Lit.string q := by simpa using e
      exact ⟨(has_del_other hne).trans (h.no r hr).1, fun z => (atKey_del_other hne _).trans ((h.no r hr).2 z)⟩
  · unfold FunK.set at hr
    by_cases e : r = q
    · rw [if_pos e] at hr; cases hr
    · rw [if_neg e] at hr
      have hne : Lit.string r ≠ Lit.string q := by simpa using e
      obtain ⟨h1, an', nn', cn', h2, h3⟩ := h.yes r z hr
      exact ⟨(has_del_other hne).trans h1, an', nn', cn', fun u => (atKey_del_other hne _).trans (h2 u), h3⟩
theorem MpF.congr {w0 : World} {D : DataW Value} {f g : FunK} (h : MpF w0 D f) (e : ∀ q, f q = g q) : MpF w0 D g := ⟨h.map, fun q hq => h.no q ((e q).trans hq), fun q y hq => h.yes q y ((e q).trans hq)⟩
/-- The map by key of a list's entries. -/
def f0 (xs : List GP) (n : Nat) : FunK := fun q => (lastK xs q n).map fun j => xs.getD j default
theorem mpF_of {w0 w : World} (hb0 : Below w0.heap.size w0 w) {a : Option Addr} {n : Nat} {xs : List GP} (hG : Gns w0 a n xs) (hp : ∀ j, j < n → kOk (xs.getD j default)) (hc : ∀ j, j < n → ∀ b off an nn cn, a = some ⟨b, off, none⟩ → w0.cell? ⟨b, off + j * 4, none⟩ = some (.slice an nn cn) → (an = none → cn = 0) ∧ nn ≤ 1048576) : MpF w0 (Vn w a xs n) (f0 xs n) := by
  refine ⟨Vn_isMap w a xs n, fun q hq => ?_, fun q y hq => ?_⟩
  · unfold f0 at hq
    cases e : lastK xs q n with
    | none => exact ⟨by rw [(Vn_at w a xs q (.held undef) n hp).2, e]; rfl, fun z => by rw [(Vn_at w a xs q z n hp).1, e]⟩
    | some j => rw [e] at hq; cases hq
  · unfold f0 at hq
    cases e : lastK xs q n with
    | none => rw [e] at hq; cases hq
    | some j =>
      rw [e] at hq
      simp only [Option.map_some, Option.some.injEq] at hq
      subst hq
      obtain ⟨b, off, an, nn, cn, rfl, hlb, hcc, hpp⟩ := hG.get j (lastK_lt e).1
      refine ⟨by rw [(Vn_at w _ xs q (.held undef) n hp).2, e]; rfl, an, nn, cn, fun z => ?_, hpp, hc j (lastK_lt e).1 b off an nn cn rfl hcc.c0⟩
      rw [(Vn_at w _ xs q z n hp).1, e]
      show DataW.held (entV w (some ⟨b, off, none⟩) j) = _
      rw [entV_eq (hcc.of (fun i => hb0.cell (p := ⟨b, i, none⟩) hlb))]
      rfl
/-- After the first k changes. -/
def f1 (xs : List GP) (n : Nat) (ys : List GP) : Nat → FunK
  | 0 => f0 xs n
  | k + 1 => (f1 xs n ys k).set (kb (ys.getD k default)) (if (ys.getD k default).rs = 7 then none else some (ys.getD k default))
/-- After the first i of both are told. -/
def f2 (f : FunK) (zs : List GP) : Nat → FunK
  | 0 => f
  | i + 1 => (f2 f zs i).set (kb (zs.getD i default)) none
def outK (f : FunK) (zs : List GP) : Nat → List GP
  | 0 => []
  | i + 1 => outK f zs i ++ (match f2 f zs i (kb (zs.getD i default)) with | some y => [y] | none => [])
theorem outK_len (f : FunK) (zs : List GP) : ∀ i, (outK f zs i).length ≤ i
  | 0 => Nat.le_refl _
  | i + 1 => by
    have := outK_len f zs i
    unfold outK
    split <;> simp <;> omega
theorem f1_at (xs : List GP) (n : Nat) (ys : List GP) (q : List UInt8) : ∀ k, f1 xs n ys k q = match lastK ys q k with | some j => if (ys.getD j default).rs = 7 then none else some (ys.getD j default) | none => f0 xs n q
  | 0 => rfl
  | k + 1 => by
    unfold f1 lastK FunK.set
    by_cases e : kb (ys.getD k default) = q
    · rw [if_pos e.symm, if_pos e]
    · rw [if_neg (fun e2 => e e2.symm), if_neg e]
      exact f1_at xs n ys q k
theorem f2_at (f : FunK) (zs : List GP) (q : List UInt8) : ∀ i, f2 f zs i q = if (lastK zs q i).isSome then none else f q
  | 0 => rfl
  | i + 1 => by
    unfold f2 lastK FunK.set
    by_cases e : kb (zs.getD i default) = q
    · rw [if_pos e.symm, if_pos e]; rfl
    · rw [if_neg (fun e2 => e e2.symm), if_neg e]
      exact f2_at f zs q i
/-- What the document asks: each older entry as it is changed, then what is new. -/
def newE (ys : List GP) (x : GP) : GP := match lastK ys (kb x) ys.length with
  | some j => ys.getD j default
  | none => x
def apA (xs ys : List GP) : Nat → List GP
  | 0 => []
  | k + 1 => apA xs ys k ++ if (newE ys (xs.getD k default)).rs = 7 then [] else [newE ys (xs.getD k default)]
def apB (xs ys : List GP) : Nat → List GP
  | 0 => []
  | k + 1 => apB xs ys k ++ if (lastK xs (kb (ys.getD k default)) xs.length).isSome ∨ (ys.getD k default).rs = 7 then [] else [ys.getD k default]
def apl (xs ys : List GP) : List GP := apA xs ys xs.length ++ apB xs ys ys.length
theorem lastK_left (xs ys : List GP) (q : List UInt8) : ∀ k, k ≤ xs.length → lastK (xs ++ ys) q k = lastK xs q k
  | 0, _ => rfl
  | k + 1, h => by
    unfold lastK
    rw [getD_left (by omega), lastK_left xs ys q k (by omega)]
theorem getD_right {xs ys : List GP} {j : Nat} : (xs ++ ys).getD (xs.length + j) default = ys.getD j default := by
  rw [List.getD_eq_getElem?_getD, List.getD_eq_getElem?_getD, List.getElem?_append_right (by omega), show xs.length + j - xs.length = j by omega]
theorem lastK_right (xs ys : List GP) (q : List UInt8) : ∀ k, lastK (xs ++ ys) q (xs.length + k) = none ↔ lastK xs q xs.length = none ∧ lastK ys q k = none
  | 0 => by rw [Nat.add_zero, lastK_left _ _ _ _ (Nat.le_refl _)]; simp [lastK]
  | k + 1 => by
    rw [← Nat.add_assoc]
    show (if kb ((xs ++ ys).getD (xs.length + k) default) = q then some (xs.length + k) else lastK (xs ++ ys) q (xs.length + k)) = none ↔ _ ∧ (if kb (ys.getD k default) = q then some k else lastK ys q k) = none
    rw [getD_right]
    by_cases e : kb (ys.getD k default) = q
    · rw [if_pos e, if_pos e]; simp
    · rw [if_neg e, if_neg e]; exact lastK_right xs ys q k
theorem lastK_self {xs : List GP} (hd : ∀ i k, i < xs.length → k < i → kb (xs.getD k default) ≠ kb (xs.getD i default)) {i : Nat} (hi : i < xs.length) : lastK xs (kb (xs.getD i default)) i = none ∧ lastK xs (kb (xs.getD i default)) xs.length = some i := by
  have h1 : lastK xs (kb (xs.getD i default)) i = none := lastK_apart (fun j hj => hd i j hi hj)
  refine ⟨h1, ?_⟩
  cases e : lastK xs (kb (xs.getD i default)) xs.length with
  | none => exact absurd rfl (lastK_none e i hi)
  | some j =>
    have h2 := lastK_lt e
    rcases Nat.lt_trichotomy i j with h | h | h
    · exact absurd h2.2.symm (hd j i h2.1 h)
    · rw [h]
    · exact absurd h2.2 (hd i j hi h)
/-- Both ways tell the same. -/
theorem outK_is (xs ys : List GP) (hx : ∀ i k, i < xs.length → k < i → kb (xs.getD k default) ≠ kb (xs.getD i default)) (hy : ∀ i k, i < ys.length → k < i → kb (ys.getD k default) ≠ kb (ys.getD i default)) (hr : ∀ k, k < xs.length → (xs.getD k default).rs ≠ 7) : outK (f1 xs xs.length ys ys.length) (xs ++ ys) (xs.length + ys.length) = apl xs ys := by
  have hA : ∀ k, k ≤ xs.length → outK (f1 xs xs.length ys ys.length) (xs ++ ys) k = apA xs ys k := by
    intro k
    induction k with
    | zero => intro _; rfl
    | succ k ih =>
      intro hk
      unfold outK apA
      rw [ih (by omega), f2_at, getD_left (by omega), lastK_left _ _ _ _ (by omega), (lastK_self hx (show k < xs.length by omega)).1]
      congr 1
      show (match f1 xs xs.length ys ys.length (kb (xs.getD k default)) with | some y => [y] | none => []) = _
      rw [f1_at]
      unfold newE
      cases e : lastK ys (kb (xs.getD k default)) ys.length with
      | none =>
        have h1 : f0 xs xs.length (kb (xs.getD k default)) = some (xs.getD k default) := by
          unfold f0
          rw [(lastK_self hx (show k < xs.length by omega)).2]
          rfl
        simp only [h1]
        rw [if_neg (hr k (by omega))]
      | some j =>
        by_cases h7 : (ys.getD j default).rs = 7
        · simp only [h7, if_true]
        · simp only [h7, if_false]
  have hB : ∀ k, k ≤ ys.length → outK (f1 xs xs.length ys ys.length) (xs ++ ys) (xs.length + k) = apA xs ys xs.length ++ apB xs ys k := by
    intro k
    induction k with
    | zero => intro _; rw [Nat.add_zero, hA _ (Nat.le_refl _)]; simp [apB]
    | succ k ih =>
      intro hk
      rw [← Nat.add_assoc]
      unfold outK apB
      rw [ih (by omega), f2_at, getD_right, List.append_assoc]
      congr 2
      have hs := lastK_self hy (show k < ys.length by omega)
      have hl := lastK_right xs ys (kb (ys.getD k default)) k
      by_cases e : lastK xs (kb (ys.getD k default)) xs.length = none
      · have h1 := hl.2 ⟨e, hs.1⟩
        rw [h1, e, f1_at, hs.2]
        by_cases h7 : (ys.getD k default).rs = 7
        · simp only [h7, if_true, or_true, Option.isSome_none, Bool.false_eq_true, if_false]
        · simp only [h7, Option.isSome_none, Bool.false_eq_true, if_false, false_or]
      · have h1 : (lastK (xs ++ ys) (kb (ys.getD k default)) (xs.length + k)).isSome = true := by
          cases e2 : lastK (xs ++ ys) (kb (ys.getD k default)) (xs.length + k) with
          | some _ => rfl
          | none => exact absurd (hl.1 e2).1 e
        have h2 : (lastK xs (kb (ys.getD k default)) xs.length).isSome = true := by
          cases e2 : lastK xs (kb (ys.getD k default)) xs.length with
          | some _ => rfl
          | none => exact absurd e2 e
        rw [h1, h2]
        simp
  exact hB ys.length (Nat.le_refl _)

end Go.Proofs.YtbfjkmlmnhphoaaDoor
