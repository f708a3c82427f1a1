import Derived.Test.YtmhijbcbckljmaaGreatMRa
import Derived.Test.YtmhijbcbckljmaaGreatTT1
import Derived.Test.YtmhijbcbckljmaaGreatMRs
import Derived.Deep.DeepCutAuto
set_option linter.unusedVariables false
namespace Go.Proofs.YtmhijbcbckljmaaGreat
open Go.RowKit Go.Sort

/-- The slot d of the operation i is nobody else's, but of those that wait for i, or that i drops. -/
def RSpec.free2 (S : RSpec) (i d : Nat) : Bool := (List.range S.n).all fun k => k == i || S.slot k != d || (S.pre k).contains i || (S.kill k).contains i
theorem RSpec.free2_of {S : RSpec} {i d : Nat} (h : S.free2 i d = true) {k : Nat} (hk : k < S.n) (hne : k ≠ i) (hs : S.slot k = d) : i ∈ S.pre k ∨ i ∈ S.kill k := by
  have := List.all_eq_true.1 h k (List.mem_range.2 hk)
  simpa [hne, hs] using this
/-- A value is put, and the world has turned: what is not dropped is shown to stay. -/
theorem RI.turn {S : RSpec} {D : List Nat} {B : Nat} {w0 : World} {a0 : Act} {l : Nat → Bool} {a : Act} {w : World} (h : RI S D B w0 a0 l a w) (i d : Nat) {v : Value} {w' : World} (hpre : ∀ j ∈ S.pre i, l j = true)
    (hd : D.contains d = true) (hs : d < a0.tmps.size) (hsl : S.slot i = d) (hli : l i = false) (hne : S.free2 i d = true) (hb : Below B w0 w')
    (hst : ∀ k, k < S.n → k ≠ i → l k = true → (∀ j ∈ S.kill k, upd l i j = false) → ∀ u, S.fact k u w → S.fact k u w') (hf : S.fact i v w') : RI S D B w0 a0 (upd l i) (a.put (some d) v) w' := by
  refine ⟨h.fr.put (List.contains_iff_mem.1 hd) v, hb, fun k hk => upd_mono (h.vt k hk), fun k hk hl j hj => ?_, fun k hk hl hkill => ?_⟩
  · by_cases e : k = i
    · subst e
      exact upd_mono (hpre j hj)
    · rw [upd_ne e] at hl
      exact upd_mono (h.cl k hk hl j hj)
  · by_cases e : k = i
    · subst e
      rw [hsl, aT_put_eq (by rw [h.fr.size]; exact hs)]
      exact hf
    · rw [upd_ne e] at hl
      have hsk : S.slot k ≠ d := fun e2 => by
        rcases S.free2_of hne hk e e2 with h1 | h1
        · have := h.cl k hk hl i h1
          rw [hli] at this
          cases this
        · have := hkill i h1
          rw [upd_same] at this
          cases this
      rw [aT_put_ne (Ne.symm hsk)]
      exact hst k hk e hl hkill _ (h.fact k hk hl (fun j hj => of_upd (hkill j hj)))
theorem RI.putp {S : RSpec} {D : List Nat} {B : Nat} {w0 : World} {a0 : Act} {l : Nat → Bool} {a : Act} {w : World} (h : RI S D B w0 a0 l a w) (i d : Nat) {v : Value} {w' : World} (hpre : ∀ j ∈ S.pre i, l j = true)
    (hd : D.contains d = true) (hs : d < a0.tmps.size) (hsl : S.slot i = d) (hli : l i = false) (hne : S.free2 i d = true) (hB : B ≤ w0.heap.size)
    (hst : ∀ k, k < S.n → StB (S.fact k)) (hb : Below w.heap.size w w') (hf : S.fact i v w') : RI S D B w0 a0 (upd l i) (a.put (some d) v) w' :=
  h.turn i d hpre hd hs hsl hli hne (h.bel.trans (hb.mono (Nat.le_trans hB h.bel.size))) (fun k hk _ _ _ u hu => hst k hk _ _ _ hu hb) hf
theorem own_grownLt {R : Nat} {w w' : World} {a : Option Addr} {n c : Nat} {bs : List Int} {row : Option Nat} (h : Own R w a n c bs) (hg : w.grownBy w' row) (hlt : ∀ j, row = some j → j < R) : Own R w' a n c bs := by
  refine ⟨h.row.kept hg ?_, h.byte⟩
  cases hb : (Value.slice a n c).ownBlock with
  | none => exact .inl rfl
  | some k =>
    right
    intro e
    have h1 := (h.row.lt k hb).1
    have h2 := hlt k e.symm
    omega
theorem box_grown {w w' : World} {g t B e s m0 : Nat} {cs : Array Value} {fr : Nat × Nat} {v : Value} {vs : List Value} (h : w.heap[g]? = some (.cells cs t fr)) (hg : w.grownBy w' v.ownBlock) (ho : w.ownsRow B e s v m0 vs) (hne : t ≠ e) : w'.heap[g]? = some (.cells cs t fr) := by
  refine (hg.block g (Array.getElem?_eq_some_iff.1 h).1 (fun e2 => ?_)).trans h
  rcases ho.2 with ⟨rfl, _⟩ | ⟨g', cap, cur, rfl, hb, hgg, _⟩
  · simp [Value.ownBlock] at e2
  · simp [Value.ownBlock] at e2
    subst e2
    rw [h] at hgg
    simp only [Option.some.injEq, Obj.cells.injEq] at hgg
    exact hne hgg.2.1
/-- append as an operation of a region. -/
theorem opw_append_row {P : Program} {o : Oper} {a : Act} {w : World} {K : Act → World → Prop} {Q : Exit → Act → World → Prop}
    (s x : Nat) (t : TypeId) (hop : o.op = Op.call { callee := Callee.builtin Builtin.append, args := #[.tmp s, .tmp x], argTypes := #[t, t] })
    (base : Nat) (i : TypeInfo) (h1 : P.underlying t = some (.slice 5)) (h2 : P.info? 5 = some i) (h3 : i.zero = some (.int .u8 0)) (h4 : i.size = 1) (h5 : i.bytes = 1)
    (v : Value) (n : Nat) (xs : List Value) (hs : aT a s = v) (hown : w.ownsRow base 5 1 v n xs)
    (ao : Option Addr) (m c : Nat) (ys : List Int) (hx : aT a x = .slice ao m c) (hrow : Row w ao m ys) (hnil : ao = none → c = 0)
    (b1 : n + m ≤ 140737488355328) (b3 : base ≤ w.heap.size)
    (hK : ∀ v' w', w'.ownsRow base 5 1 v' (n + m) (xs ++ ys.map (Value.int .u8)) → w.grownBy w' v.ownBlock → K (a.put o.dst v') w') : o.wp P a w K Q := by
  have hs' : a.eval (.tmp s) = v := hs
  have hx' : a.eval (.tmp x) = .slice ao m c := hx
  cases ao with
  | some ad =>
    obtain ⟨v', w', hrun, r1, r2, _⟩ := run_append_own (P := P) w base t o.type 5 i (.int .u8 0) 1 1 h1 h2 h3 h4 h5 rfl (by decide) v n xs hown ad m c (ys.map (Value.int .u8)) (by rw [List.length_map, hrow.len, Nat.mul_one]) (row_cells hrow) (ints_oneCell _ _) (by unfold maxLen; omega) (by omega) b3
    unfold Oper.wp
    simp [execOp, hop, resolve, invoke, builtin, hs', hx', hrun, Result.andThen]
    exact hK v' w' r1 r2
  | none =>
    obtain ⟨rfl, rfl⟩ := row_none hrow
    obtain rfl := hnil rfl
    have hrun := run_append_owned_none (P := P) (w := w) base t o.type 5 i 1 h1 h2 v n xs hown
    unfold Oper.wp
    simp [execOp, hop, resolve, invoke, builtin, hs', hx', hrun, Result.andThen]
    exact hK v w (by simpa using hown) (World.grownBy.refl _ _)
theorem covd_next (doc : List Int) (xs : List StP) (k : Nat) : covd doc xs (k + 1) = covd doc xs k ++ cvB (xs.getD k default) := by simp [covd, covL_next]
theorem covd_len (doc : List Int) (xs : List StP) (n : Nat) (hs : AllSt xs n) (k : Nat) (hk : k ≤ n) : (covd doc xs k).length ≤ doc.length + 1100 * k := by
  have := covL_total xs n hs k hk
  rw [total_flat] at this
  simp only [covd, List.length_append]
  omega

/-- What is known of a region (RJ). -/
def cvT (x : StP) (a : Option Addr) (n c : Nat) (l : List Int) (ao : Option Addr) (m cc : Nat) (bs : List Int) (gx R B : Nat) : RSpec where
  m := 23
  n := 26
  slots := [21, 22, 23, 24, 25, 26, 27, 28, 29, 30, 31, 32, 33, 34, 35, 36, 37, 38, 39, 40, 41, 42, 5, 100023, 100024, 5]
  kills := [[], [], [], [], [], [], [], [], [], [], [], [], [], [], [], [], [], [], [19], [20], [], [], [], [], [21], [22]]
  pres := [[], [], [], [], [], [], [], [], [], [], [], [], [], [], [], [], [], [], [], [], [19], [], [0, 21], [], [], []]
  fact := fun k v w => match k with
    | 0 => v = .slice ao m cc
    | 1 => v = .pointer (some ⟨gx, 0, none⟩)
    | 2 => v = .int .i64 x.alg
    | 3 => ∃ b1 e1, v = .agg #[.int .i64 0, .int .i64 2, .bool false, .slice b1 (wsz x.alg) e1, .slice none 0 0] ∧ Own R w b1 (wsz x.alg) e1 (wbL x.alg)
    | 4 => v = .pointer (some ⟨gx, 1, none⟩)
    | 5 => v = .int .u64 x.dg
    | 6 => ∃ b2 e2, v = .slice b2 8 e2 ∧ Own R w b2 8 e2 (eightI x.dg)
    | 7 => ∃ b3 e3, v = .agg #[.int .i64 0, .int .i64 4, .bool false, .slice b3 8 e3, .slice none 0 0] ∧ Own R w b3 8 e3 (eightI x.dg)
    | 8 => v = .pointer (some ⟨gx, 2, none⟩)
    | 9 => v = .int .i64 x.at2
    | 10 => ∃ b4 e4, v = .agg #[.int .i64 0, .int .i64 2, .bool false, .slice b4 (wsz x.at2) e4, .slice none 0 0] ∧ Own R w b4 (wsz x.at2) e4 (wbL x.at2)
    | 11 => v = .pointer (some ⟨gx, 3, none⟩)
    | 12 => v = .int .u64 x.ky
    | 13 => ∃ b5 e5, v = .slice b5 8 e5 ∧ Own R w b5 8 e5 (eightI x.ky)
    | 14 => ∃ b6 e6, v = .agg #[.int .i64 0, .int .i64 4, .bool false, .slice b6 8 e6, .slice none 0 0] ∧ Own R w b6 8 e6 (eightI x.ky)
    | 15 => v = .pointer (some ⟨gx, 4, none⟩)
    | 16 => v = .slice a n c
    | 17 => ∃ b7 e7, v = .agg #[.int .i64 0, .int .i64 4, .bool false, .slice b7 n e7, .slice none 0 0] ∧ Own R w b7 n e7 x.sg
    | 18 => ∃ gk, v = .slice (some ⟨gk, 0, none⟩) 5 5 ∧ Kids 2 w (some ⟨gk, 0, none⟩) 5 [numI x.alg, bytI (eightI x.dg), numI x.at2, bytI (eightI x.ky), bytI x.sg]
    | 19 => ∃ gk, v = .agg #[.int .i64 1, .int .i64 12, .bool true, .slice none 0 0, .slice (some ⟨gk, 0, none⟩) 5 5] ∧ Kids 2 w (some ⟨gk, 0, none⟩) 5 [numI x.alg, bytI (eightI x.dg), numI x.at2, bytI (eightI x.ky), bytI x.sg]
    | 20 => ∃ b9 e9, v = .slice b9 l.length e9 ∧ Own R w b9 l.length e9 l
    | 21 => ∃ a' c', v = .slice a' (m + l.length) c' ∧ Own B w a' (m + l.length) c' (bs ++ l)
    | 22 => ∃ a' c', v = .slice a' (m + l.length) c' ∧ Own B w a' (m + l.length) c' (bs ++ l)
    | 23 => w.heap[gx]? = some (.cells #[.int .i64 x.alg, .int .u64 x.dg, .int .i64 x.at2, .int .u64 x.ky, .slice a n c] 45 (0, 0))
    | 24 => Own B w ao m cc bs
    | _ => v = .slice ao m cc
set_option linter.unusedVariables false in
theorem cvT_stb (x : StP) (a : Option Addr) (n c : Nat) (l : List Int) (ao : Option Addr) (m cc : Nat) (bs : List Int) (gx R B : Nat) (k : Nat) (hk : k < 26) : StB ((cvT x a n c l ao m cc bs gx R (B)).fact k) := by
  match k, hk with
  | 0, _ => exact fun _ _ _ h _ => h
  | 1, _ => exact fun _ _ _ h _ => h
  | 2, _ => exact fun _ _ _ h _ => h
  | 3, _ => exact fun _ _ _ ⟨b1, e1, hv, q_0⟩ hb => ⟨b1, e1, hv, q_0.kept hb⟩
  | 4, _ => exact fun _ _ _ h _ => h
  | 5, _ => exact fun _ _ _ h _ => h
  | 6, _ => exact fun _ _ _ ⟨b2, e2, hv, q_0⟩ hb => ⟨b2, e2, hv, q_0.kept hb⟩
  | 7, _ => exact fun _ _ _ ⟨b3, e3, hv, q_0⟩ hb => ⟨b3, e3, hv, q_0.kept hb⟩
  | 8, _ => exact fun _ _ _ h _ => h
  | 9, _ => exact fun _ _ _ h _ => h
  | 10, _ => exact fun _ _ _ ⟨b4, e4, hv, q_0⟩ hb => ⟨b4, e4, hv, q_0.kept hb⟩
  | 11, _ => exact fun _ _ _ h _ => h
  | 12, _ => exact fun _ _ _ h _ => h
  | 13, _ => exact fun _ _ _ ⟨b5, e5, hv, q_0⟩ hb => ⟨b5, e5, hv, q_0.kept hb⟩
  | 14, _ => exact fun _ _ _ ⟨b6, e6, hv, q_0⟩ hb => ⟨b6, e6, hv, q_0.kept hb⟩
  | 15, _ => exact fun _ _ _ h _ => h
  | 16, _ => exact fun _ _ _ h _ => h
  | 17, _ => exact fun _ _ _ ⟨b7, e7, hv, q_0⟩ hb => ⟨b7, e7, hv, q_0.kept hb⟩
  | 18, _ => exact fun _ _ _ ⟨gk, hv, q_0⟩ hb => ⟨gk, hv, q_0.kept hb⟩
  | 19, _ => exact fun _ _ _ ⟨gk, hv, q_0⟩ hb => ⟨gk, hv, q_0.kept hb⟩
  | 20, _ => exact fun _ _ _ ⟨b9, e9, hv, q_0⟩ hb => ⟨b9, e9, hv, q_0.kept hb⟩
  | 21, _ => exact fun _ _ _ ⟨a', c', hv, q_0⟩ hb => ⟨a', c', hv, q_0.kept hb⟩
  | 22, _ => exact fun _ _ _ ⟨a', c', hv, q_0⟩ hb => ⟨a', c', hv, q_0.kept hb⟩
  | 23, _ => exact fun _ _ _ q_0 hb => below_kept q_0 hb
  | 24, _ => exact fun _ _ _ q_0 hb => q_0.kept hb
  | 25, _ => exact fun _ _ _ h _ => h
  | k + 26, hk => omega
set_option linter.unusedVariables false in
theorem cvT_st21 (x : StP) (a : Option Addr) (n c : Nat) (l : List Int) (ao : Option Addr) (m cc : Nat) (bs : List Int) (gx R B : Nat) {W W2 : World} {vs : List Value} {m0 : Nat} (hown : W.ownsRow B 5 1 (.slice ao m cc) m0 vs) (hg : W.grownBy W2 (Value.slice ao m cc).ownBlock) (hlt : ∀ j, (Value.slice ao m cc).ownBlock = some j → j < R) {lq : Nat → Bool} (l19 : lq 19 = true) (l20 : lq 20 = true) (l22 : lq 22 = false) (k : Nat) (hk : k < 26) (hne : k ≠ 21) (hl : lq k = true) (hkill : ∀ j ∈ (cvT x a n c l ao m cc bs gx R (B)).kill k, upd lq 21 j = false) (v : Value) (hfact : (cvT x a n c l ao m cc bs gx R (B)).fact k v W) : (cvT x a n c l ao m cc bs gx R (B)).fact k v W2 := by
  match k, hk, hne, hl, hkill, hfact with
  | 0, _, _, _, _, hq => exact hq
  | 1, _, _, _, _, hq => exact hq
  | 2, _, _, _, _, hq => exact hq
  | 3, _, _, _, _, ⟨b1, e1, hv, q_0⟩ => exact ⟨b1, e1, hv, own_grownLt q_0 hg hlt⟩
  | 4, _, _, _, _, hq => exact hq
  | 5, _, _, _, _, hq => exact hq
  | 6, _, _, _, _, ⟨b2, e2, hv, q_0⟩ => exact ⟨b2, e2, hv, own_grownLt q_0 hg hlt⟩
  | 7, _, _, _, _, ⟨b3, e3, hv, q_0⟩ => exact ⟨b3, e3, hv, own_grownLt q_0 hg hlt⟩
  | 8, _, _, _, _, hq => exact hq
  | 9, _, _, _, _, hq => exact hq
  | 10, _, _, _, _, ⟨b4, e4, hv, q_0⟩ => exact ⟨b4, e4, hv, own_grownLt q_0 hg hlt⟩
  | 11, _, _, _, _, hq => exact hq
  | 12, _, _, _, _, hq => exact hq
  | 13, _, _, _, _, ⟨b5, e5, hv, q_0⟩ => exact ⟨b5, e5, hv, own_grownLt q_0 hg hlt⟩
  | 14, _, _, _, _, ⟨b6, e6, hv, q_0⟩ => exact ⟨b6, e6, hv, own_grownLt q_0 hg hlt⟩
  | 15, _, _, _, _, hq => exact hq
  | 16, _, _, _, _, hq => exact hq
  | 17, _, _, _, _, ⟨b7, e7, hv, q_0⟩ => exact ⟨b7, e7, hv, own_grownLt q_0 hg hlt⟩
  | 18, _, _, _, hkill, _ => exact absurd (hkill 19 (List.Mem.head _)) (by rw [upd_mono l19]; decide)
  | 19, _, _, _, hkill, _ => exact absurd (hkill 20 (List.Mem.head _)) (by rw [upd_mono l20]; decide)
  | 20, _, _, _, _, ⟨b9, e9, hv, q_0⟩ => exact ⟨b9, e9, hv, own_grownLt q_0 hg hlt⟩
  | 21, _, hne, _, _, _ => exact absurd rfl hne
  | 22, _, _, hl, _, _ => exact absurd hl (by rw [l22]; decide)
  | 23, _, _, _, _, q_0 => exact box_grown q_0 hg hown (by decide)
  | 24, _, _, _, hkill, _ => exact absurd (hkill 21 (List.Mem.head _)) (by rw [upd_same]; decide)
  | 25, _, _, _, _, hq => exact hq
  | k + 26, hk, _, _, _, _ => omega

set_option maxRecDepth 10000 in
set_option maxHeartbeats 4000000 in
theorem l18Covers_any (ad : Option Addr) (nd cd : Nat) (doc : List Int) (av : Option Addr) (nv cv : Nat) (xs : List StP) (w : World) (hd : Row w ad nd doc) (hd0 : ad = none → cd = 0) (hd4 : nd ≤ 4000) (h : Sts (fun n c => n = c ∧ n ≤ 1048576) w av nv xs) (hs : AllSt xs nv) (hn : nv ≤ 8) :
    Calls Tryz.prog 20 #[.slice ad nd cd, .slice av nv cv] w fun e w' => ∃ a' c', e = .returned (.slice a' (covd doc xs nv).length c') ∧ Own w.heap.size w' a' (covd doc xs nv).length c' (covd doc xs nv) ∧ Below w.heap.size w w' := by
  obtain ⟨i0, hi, hz0, hz1, hz2⟩ := info_parts Tryz.info5
  have H0 : Hid (Sts (fun n c => n = c ∧ n ≤ 1048576) w av nv xs) := h
  have HAS : Hid (AllSt xs nv) := hs
  have HLD : Hid (doc.length = nd) := hd.len
  have hB1 : Below w.heap.size w (w.alloc (.cells #[] 5)) := (Below.refl _ _).alloc (Nat.le_refl _) _
  have HO : Hid (Own w.heap.size (w.alloc (.cells #[] 5)) (some ⟨w.heap.size, 0, none⟩) 0 0 []) := own_zeroE _ _ _ rfl (Nat.le_refl _)
  have HR : Hid (Row (w.alloc (.cells #[] 5)) ad nd doc) := hd.kept hB1
  clear h hs hd
  go_enter Tryz.func20, Tryz.ntmps20
  go_wp2_with (at_builtin; refine wpList_append_row _ rfl (.tmp 8) (.tmp 9) 22 rfl w.heap.size i0 Tryz.underlying22 hi hz0 hz1 hz2 _ _ _ rfl HO.out.row ad nd cd doc rfl HR.out hd0 (by omega) hB1.size ?_; intro v1 w1 hv1 hg1; obtain ⟨a1, c1, rfl, ho1⟩ := own_appended (xs := []) (ys := doc) hv1 HO.out.byte HR.out.byte; have hb1 : Below w.heap.size w w1 := below_appended hB1 hB1.size HO.out.row hg1; have HO1 : Hid (Own w.heap.size w1 a1 nd c1 (covd doc xs 0)) := (by show Own _ _ _ _ _ _; simpa [covd, covL] using ho1); clear ho1 hv1 hg1)
  go_loopw [5, 6] (fun o i wr => ∃ (k m : Nat) (ao : Option Addr) (cc : Nat), k ≤ nv ∧ i = .int .i64 k ∧ o = .slice ao m cc ∧ Hid (m = (covd doc xs k).length) ∧ Hid (Own w.heap.size wr ao m cc (covd doc xs k)) ∧ Below w.heap.size w wr) (fun _ i _ => nv - (intOf i).toNat)
  case atStart => exact ⟨0, nd, a1, c1, Nat.zero_le _, rfl, rfl, by show _ = _; simp [covd, covL, HLD.out], HO1, hb1⟩
  case round =>
    obtain ⟨k, m, ao, cc, hk, rfl, rfl, HM0, HOK, hbr⟩ := hrel
    have hws := hbr.size
    have hml : m ≤ 12800 := by have h1 := HM0.out; have h2 := covd_len doc xs nv HAS.out k hk; have := HLD.out; omega
    by_cases hlt : k < nv
    · obtain ⟨b, off, a, n, c, rfl, hlb, hc, hp, hm, hu, hK⟩ := H0.out.get k hlt
      obtain ⟨x, hx⟩ : ∃ x, x = xs.getD k default := ⟨_, rfl⟩
      obtain ⟨bs, hbs⟩ : ∃ bs, bs = covd doc xs k := ⟨_, rfl⟩
      have hst : stP x := by rw [hx]; exact HAS.out k hlt
      rw [← hx] at hc hp hu
      obtain ⟨l, hl⟩ : ∃ l, l = cvB x := ⟨_, rfl⟩
      have HE : Hid (covd doc xs (k + 1) = bs ++ l) := by show _ = _; rw [covd_next, hbs, hl, hx]
      have hn5 : n ≤ 500 := by have := hst.2.2; rw [hp.len] at this; exact this
      have HL : Hid (enc 12 (boxI 12 [numI x.alg, bytI (eightI x.dg), numI x.at2, bytI (eightI x.ky), bytI x.sg]) = some l) := by show _ = _; rw [hl]; exact (cvB_enc x hst.2.2).1
      have hll : l.length ≤ 1100 := by rw [hl]; exact (cvB_enc x hst.2.2).2
      have HM : Hid (m + l.length = (covd doc xs (k + 1)).length) := by show _ = _; rw [HE.out, List.length_append, hbs, ← HM0.out]
      have z1 := wsz_bd x.alg
      have z2 := wsz_bd x.at2
      obtain ⟨c0, c1', c2, c3, c4⟩ := hc.of (w' := wr) (fun i => hbr.cell (p := ⟨b, i, none⟩) hlb)
      have hkni : (k : Int) < (nv : Int) := by omega
      have hbw : b < wr.heap.size := by omega
      have hc0 : a = none → c = 0 := fun e => by
        subst e
        by_cases h0 : 0 < n
        · obtain ⟨_, _, h1, _⟩ := hp.get 0 h0
          cases h1
        · have := hK.1
          omega
      have h2 := hu.1
      have h4 := hu.2
      obtain ⟨wy, hwy⟩ : ∃ wy, wy = wr.alloc (.cells #[.int .i64 x.alg, .int .u64 x.dg, .int .i64 x.at2, .int .u64 x.ky, .slice a n c] 45) := ⟨_, rfl⟩
      have hby0 : Below wr.heap.size wr wy := by rw [hwy]; exact (Below.refl _ _).alloc (Nat.le_refl _) _
      have hby : Below w.heap.size w wy := hbr.trans (hby0.mono hws)
      have HYB : Hid (wy.heap[wr.heap.size]? = some (.cells #[.int .i64 x.alg, .int .u64 x.dg, .int .i64 x.at2, .int .u64 x.ky, .slice a n c] 45 (0, 0))) := by show _ = _; rw [hwy]; exact heap_alloc_new _ _
      have HSG : Hid (∀ W, Below w.heap.size wy W → Row W a n x.sg) := fun W hW => hp.kept (hby.trans hW)
      have HOY : Hid (Own w.heap.size wy ao m cc bs) := by show Own _ _ _ _ _ _; rw [hbs]; exact HOK.out.kept hby0
      have HBB : w.heap.size ≤ wy.heap.size := hby.size
      have HJ : Hid (∀ j, (Value.slice ao m cc).ownBlock = some j → j < wy.heap.size) := fun j hj => (HOY.out.row.lt j hj).2
      have HWY : Hid (_ = _) := hwy
      clear hc hx hp hu hm hK hwy hbs hl hst HOK HO1 HO HR HM0
      go_upto_region 6 with fail
      rw [← HWY.out]
      clear HWY c0 c1' c2 c3 c4
      refine wp_region_ri (cvT x a n c l ao m cc bs wr.heap.size wy.heap.size (w.heap.size)) [5, 21, 22, 23, 24, 25, 26, 27, 28, 29, 30, 31, 32, 33, 34, 35, 36, 37, 38, 39, 40, 41, 42] (w.heap.size) (fun a0 => a0.tmps.size = 44 ∧ aT a0 7 = .pointer (some ⟨wr.heap.size, 0, none⟩)) (by kernel_rfl) rfl (by kernel_rfl) rfl ⟨rfl, rfl⟩ (cvT_stb x a n c l ao m cc bs wr.heap.size wy.heap.size (w.heap.size)) ?_ ?_ ?_
      · intro k hk hk2
        match k, hk, hk2 with
        | 23, _, _ => exact HYB.out
        | 24, _, _ => exact HOY.out
        | 25, _, _ => exact rfl
        | 0, hk, _ => exact absurd hk (by show ¬ (23 ≤ 0); omega)
        | 1, hk, _ => exact absurd hk (by show ¬ (23 ≤ 1); omega)
        | 2, hk, _ => exact absurd hk (by show ¬ (23 ≤ 2); omega)
        | 3, hk, _ => exact absurd hk (by show ¬ (23 ≤ 3); omega)
        | 4, hk, _ => exact absurd hk (by show ¬ (23 ≤ 4); omega)
        | 5, hk, _ => exact absurd hk (by show ¬ (23 ≤ 5); omega)
        | 6, hk, _ => exact absurd hk (by show ¬ (23 ≤ 6); omega)
        | 7, hk, _ => exact absurd hk (by show ¬ (23 ≤ 7); omega)
        | 8, hk, _ => exact absurd hk (by show ¬ (23 ≤ 8); omega)
        | 9, hk, _ => exact absurd hk (by show ¬ (23 ≤ 9); omega)
        | 10, hk, _ => exact absurd hk (by show ¬ (23 ≤ 10); omega)
        | 11, hk, _ => exact absurd hk (by show ¬ (23 ≤ 11); omega)
        | 12, hk, _ => exact absurd hk (by show ¬ (23 ≤ 12); omega)
        | 13, hk, _ => exact absurd hk (by show ¬ (23 ≤ 13); omega)
        | 14, hk, _ => exact absurd hk (by show ¬ (23 ≤ 14); omega)
        | 15, hk, _ => exact absurd hk (by show ¬ (23 ≤ 15); omega)
        | 16, hk, _ => exact absurd hk (by show ¬ (23 ≤ 16); omega)
        | 17, hk, _ => exact absurd hk (by show ¬ (23 ≤ 17); omega)
        | 18, hk, _ => exact absurd hk (by show ¬ (23 ≤ 18); omega)
        | 19, hk, _ => exact absurd hk (by show ¬ (23 ≤ 19); omega)
        | 20, hk, _ => exact absurd hk (by show ¬ (23 ≤ 20); omega)
        | 21, hk, _ => exact absurd hk (by show ¬ (23 ≤ 21); omega)
        | 22, hk, _ => exact absurd hk (by show ¬ (23 ≤ 22); omega)
        | k + 26, _, hk2 => exact absurd hk2 (by show ¬ (k + 26 < 26); omega)
      · rintro a0 ⟨hz, g7⟩
        refine StepsRI.cons ?_ (StepsRI.cons ?_ (StepsRI.cons ?_ (StepsRI.cons ?_ (StepsRI.cons ?_ (StepsRI.cons ?_ (StepsRI.cons ?_ (StepsRI.cons ?_ (StepsRI.cons ?_ (StepsRI.cons ?_ (StepsRI.cons ?_ (StepsRI.cons ?_ (StepsRI.cons ?_ (StepsRI.cons ?_ (StepsRI.cons ?_ (StepsRI.cons ?_ (StepsRI.cons ?_ (StepsRI.cons ?_ (StepsRI.cons ?_ (StepsRI.cons ?_ (StepsRI.cons ?_ (StepsRI.cons ?_ (StepsRI.cons ?_ (StepsRI.nil)))))))))))))))))))))))
        · intro lQ b W hI hUN hED KQ hKQ
          have l22 : lQ 22 = false := by
            cases h : lQ 22 with
            | false => rfl
            | true =>
              have h2 := hI.cl 22 (of_decide_eq_true rfl) h 0 (List.Mem.head _)
              rw [show lQ 0 = false from hUN] at h2
              cases h2
          have f : aT b 5 = .slice ao m cc := hI.vot1 25 22 (of_decide_eq_true rfl) (of_decide_eq_true rfl) l22 rfl
          exact opw_move 5 rfl (hKQ.out _ _ (hI.put 0 21 rfl rfl (by rw [hz]; decide) rfl hUN rfl HBB (cvT_stb x a n c l ao m cc bs wr.heap.size wy.heap.size (w.heap.size)) (Below.refl _ _) f))
        · intro lQ b W hI hUN hED KQ hKQ
          exact opw_field 45 7 0 rfl _ ((hI.fr.same 7 (by decide)).trans g7) _ (by kernel_rfl) (hKQ.out _ _ (hI.put 1 22 rfl rfl (by rw [hz]; decide) rfl hUN rfl HBB (cvT_stb x a n c l ao m cc bs wr.heap.size wy.heap.size (w.heap.size)) (Below.refl _ _) rfl))
        · intro lQ b W hI hUN hED KQ hKQ
          have f := hI.got 1 (of_decide_eq_true rfl) (edge hED 1 (by kernel_rfl)) rfl
          have hg := (hI.vot 23 (of_decide_eq_true rfl) (of_decide_eq_true rfl) rfl)
          have hc : W.cell? ⟨wr.heap.size, 0, none⟩ = some (.int .i64 x.alg) := (cell_of_row _ _ 0 _ _ (0, 0) hg).trans rfl
          exact opw_load1 2 22 rfl _ f _ (by simp [Instr.loadAt, go_sem, hc]) (hKQ.out _ _ (hI.put 2 23 rfl rfl (by rw [hz]; decide) rfl hUN rfl HBB (cvT_stb x a n c l ao m cc bs wr.heap.size wy.heap.size (w.heap.size)) (Below.refl _ _) rfl))
        · intro lQ b W hI hUN hED KQ hKQ
          have f0 := hI.got 2 (of_decide_eq_true rfl) (edge hED 2 (by kernel_rfl)) rfl
          replace f0 : aT b 23 = .int .i64 x.alg := f0
          refine opw_call 43 #[.tmp 23] _ _ _ rfl Tryz.func43 (by kernel_rfl) rfl #[.int .i64 x.alg] (by simp [ev, f0]) ?_
          refine (l9Num_agg x.alg W).mono ?_
          rintro e W2 ⟨b1, e1, rfl, ho, hb⟩
          exact ⟨_, rfl, hKQ.out _ _ (hI.put 3 24 rfl rfl (by rw [hz]; decide) rfl hUN rfl HBB (cvT_stb x a n c l ao m cc bs wr.heap.size wy.heap.size (w.heap.size)) hb ⟨b1, e1, rfl, ho.mono (by have := hI.bel.size; omega)⟩)⟩
        · intro lQ b W hI hUN hED KQ hKQ
          exact opw_field 45 7 1 rfl _ ((hI.fr.same 7 (by decide)).trans g7) _ (by kernel_rfl) (hKQ.out _ _ (hI.put 4 25 rfl rfl (by rw [hz]; decide) rfl hUN rfl HBB (cvT_stb x a n c l ao m cc bs wr.heap.size wy.heap.size (w.heap.size)) (Below.refl _ _) rfl))
        · intro lQ b W hI hUN hED KQ hKQ
          have f := hI.got 4 (of_decide_eq_true rfl) (edge hED 4 (by kernel_rfl)) rfl
          have hg := (hI.vot 23 (of_decide_eq_true rfl) (of_decide_eq_true rfl) rfl)
          have hc : W.cell? ⟨wr.heap.size, 1, none⟩ = some (.int .u64 x.dg) := (cell_of_row _ _ 1 _ _ (0, 0) hg).trans rfl
          exact opw_load1 24 25 rfl _ f _ (by simp [Instr.loadAt, go_sem, hc]) (hKQ.out _ _ (hI.put 5 26 rfl rfl (by rw [hz]; decide) rfl hUN rfl HBB (cvT_stb x a n c l ao m cc bs wr.heap.size wy.heap.size (w.heap.size)) (Below.refl _ _) rfl))
        · intro lQ b W hI hUN hED KQ hKQ
          have f0 := hI.got 5 (of_decide_eq_true rfl) (edge hED 5 (by kernel_rfl)) rfl
          replace f0 : aT b 26 = .int .u64 x.dg := f0
          refine opw_call 45 #[.tmp 26] _ _ _ rfl Tryz.func45 (by kernel_rfl) rfl #[.int .u64 x.dg] (by simp [ev, f0]) ?_
          refine (l1Eight_any x.dg W h2.1 h2.2).mono ?_
          rintro e W2 ⟨b2, e2, rfl, ho, hb⟩
          exact ⟨_, rfl, hKQ.out _ _ (hI.put 6 27 rfl rfl (by rw [hz]; decide) rfl hUN rfl HBB (cvT_stb x a n c l ao m cc bs wr.heap.size wy.heap.size (w.heap.size)) hb ⟨b2, e2, rfl, ho.mono (by have := hI.bel.size; omega)⟩)⟩
        · intro lQ b W hI hUN hED KQ hKQ
          have f0 := hI.got 6 (of_decide_eq_true rfl) (edge hED 6 (by kernel_rfl)) rfl
          obtain ⟨b2, e2, f0, o0_0⟩ := f0
          replace f0 : aT b 27 = .slice b2 8 e2 := f0
          refine opw_call 44 #[.tmp 27] _ _ _ rfl Tryz.func44 (by kernel_rfl) rfl #[.slice b2 8 e2] (by simp [ev, f0]) ?_
          refine (l9Bytes_agg b2 8 e2 (eightI x.dg) W o0_0.toRow o0_0.nil (by decide)).mono ?_
          rintro e W2 ⟨b3, e3, rfl, ho, hb⟩
          exact ⟨_, rfl, hKQ.out _ _ (hI.put 7 28 rfl rfl (by rw [hz]; decide) rfl hUN rfl HBB (cvT_stb x a n c l ao m cc bs wr.heap.size wy.heap.size (w.heap.size)) hb ⟨b3, e3, rfl, ho.mono (by have := hI.bel.size; omega)⟩)⟩
        · intro lQ b W hI hUN hED KQ hKQ
          exact opw_field 45 7 2 rfl _ ((hI.fr.same 7 (by decide)).trans g7) _ (by kernel_rfl) (hKQ.out _ _ (hI.put 8 29 rfl rfl (by rw [hz]; decide) rfl hUN rfl HBB (cvT_stb x a n c l ao m cc bs wr.heap.size wy.heap.size (w.heap.size)) (Below.refl _ _) rfl))
        · intro lQ b W hI hUN hED KQ hKQ
          have f := hI.got 8 (of_decide_eq_true rfl) (edge hED 8 (by kernel_rfl)) rfl
          have hg := (hI.vot 23 (of_decide_eq_true rfl) (of_decide_eq_true rfl) rfl)
          have hc : W.cell? ⟨wr.heap.size, 2, none⟩ = some (.int .i64 x.at2) := (cell_of_row _ _ 2 _ _ (0, 0) hg).trans rfl
          exact opw_load1 2 29 rfl _ f _ (by simp [Instr.loadAt, go_sem, hc]) (hKQ.out _ _ (hI.put 9 30 rfl rfl (by rw [hz]; decide) rfl hUN rfl HBB (cvT_stb x a n c l ao m cc bs wr.heap.size wy.heap.size (w.heap.size)) (Below.refl _ _) rfl))
        · intro lQ b W hI hUN hED KQ hKQ
          have f0 := hI.got 9 (of_decide_eq_true rfl) (edge hED 9 (by kernel_rfl)) rfl
          replace f0 : aT b 30 = .int .i64 x.at2 := f0
          refine opw_call 43 #[.tmp 30] _ _ _ rfl Tryz.func43 (by kernel_rfl) rfl #[.int .i64 x.at2] (by simp [ev, f0]) ?_
          refine (l9Num_agg x.at2 W).mono ?_
          rintro e W2 ⟨b4, e4, rfl, ho, hb⟩
          exact ⟨_, rfl, hKQ.out _ _ (hI.put 10 31 rfl rfl (by rw [hz]; decide) rfl hUN rfl HBB (cvT_stb x a n c l ao m cc bs wr.heap.size wy.heap.size (w.heap.size)) hb ⟨b4, e4, rfl, ho.mono (by have := hI.bel.size; omega)⟩)⟩
        · intro lQ b W hI hUN hED KQ hKQ
          exact opw_field 45 7 3 rfl _ ((hI.fr.same 7 (by decide)).trans g7) _ (by kernel_rfl) (hKQ.out _ _ (hI.put 11 32 rfl rfl (by rw [hz]; decide) rfl hUN rfl HBB (cvT_stb x a n c l ao m cc bs wr.heap.size wy.heap.size (w.heap.size)) (Below.refl _ _) rfl))
        · intro lQ b W hI hUN hED KQ hKQ
          have f := hI.got 11 (of_decide_eq_true rfl) (edge hED 11 (by kernel_rfl)) rfl
          have hg := (hI.vot 23 (of_decide_eq_true rfl) (of_decide_eq_true rfl) rfl)
          have hc : W.cell? ⟨wr.heap.size, 3, none⟩ = some (.int .u64 x.ky) := (cell_of_row _ _ 3 _ _ (0, 0) hg).trans rfl
          exact opw_load1 24 32 rfl _ f _ (by simp [Instr.loadAt, go_sem, hc]) (hKQ.out _ _ (hI.put 12 33 rfl rfl (by rw [hz]; decide) rfl hUN rfl HBB (cvT_stb x a n c l ao m cc bs wr.heap.size wy.heap.size (w.heap.size)) (Below.refl _ _) rfl))
        · intro lQ b W hI hUN hED KQ hKQ
          have f0 := hI.got 12 (of_decide_eq_true rfl) (edge hED 12 (by kernel_rfl)) rfl
          replace f0 : aT b 33 = .int .u64 x.ky := f0
          refine opw_call 45 #[.tmp 33] _ _ _ rfl Tryz.func45 (by kernel_rfl) rfl #[.int .u64 x.ky] (by simp [ev, f0]) ?_
          refine (l1Eight_any x.ky W h4.1 h4.2).mono ?_
          rintro e W2 ⟨b5, e5, rfl, ho, hb⟩
          exact ⟨_, rfl, hKQ.out _ _ (hI.put 13 34 rfl rfl (by rw [hz]; decide) rfl hUN rfl HBB (cvT_stb x a n c l ao m cc bs wr.heap.size wy.heap.size (w.heap.size)) hb ⟨b5, e5, rfl, ho.mono (by have := hI.bel.size; omega)⟩)⟩
        · intro lQ b W hI hUN hED KQ hKQ
          have f0 := hI.got 13 (of_decide_eq_true rfl) (edge hED 13 (by kernel_rfl)) rfl
          obtain ⟨b5, e5, f0, o0_0⟩ := f0
          replace f0 : aT b 34 = .slice b5 8 e5 := f0
          refine opw_call 44 #[.tmp 34] _ _ _ rfl Tryz.func44 (by kernel_rfl) rfl #[.slice b5 8 e5] (by simp [ev, f0]) ?_
          refine (l9Bytes_agg b5 8 e5 (eightI x.ky) W o0_0.toRow o0_0.nil (by decide)).mono ?_
          rintro e W2 ⟨b6, e6, rfl, ho, hb⟩
          exact ⟨_, rfl, hKQ.out _ _ (hI.put 14 35 rfl rfl (by rw [hz]; decide) rfl hUN rfl HBB (cvT_stb x a n c l ao m cc bs wr.heap.size wy.heap.size (w.heap.size)) hb ⟨b6, e6, rfl, ho.mono (by have := hI.bel.size; omega)⟩)⟩
        · intro lQ b W hI hUN hED KQ hKQ
          exact opw_field 45 7 4 rfl _ ((hI.fr.same 7 (by decide)).trans g7) _ (by kernel_rfl) (hKQ.out _ _ (hI.put 15 36 rfl rfl (by rw [hz]; decide) rfl hUN rfl HBB (cvT_stb x a n c l ao m cc bs wr.heap.size wy.heap.size (w.heap.size)) (Below.refl _ _) rfl))
        · intro lQ b W hI hUN hED KQ hKQ
          have f := hI.got 15 (of_decide_eq_true rfl) (edge hED 15 (by kernel_rfl)) rfl
          have hg := (hI.vot 23 (of_decide_eq_true rfl) (of_decide_eq_true rfl) rfl)
          have hc : W.cell? ⟨wr.heap.size, 4, none⟩ = some (.slice a n c) := (cell_of_row _ _ 4 _ _ (0, 0) hg).trans rfl
          exact opw_load1 22 36 rfl _ f _ (by simp [Instr.loadAt, go_sem, hc]) (hKQ.out _ _ (hI.put 16 37 rfl rfl (by rw [hz]; decide) rfl hUN rfl HBB (cvT_stb x a n c l ao m cc bs wr.heap.size wy.heap.size (w.heap.size)) (Below.refl _ _) rfl))
        · intro lQ b W hI hUN hED KQ hKQ
          have f0 := hI.got 16 (of_decide_eq_true rfl) (edge hED 16 (by kernel_rfl)) rfl
          replace f0 : aT b 37 = .slice a n c := f0
          refine opw_call 44 #[.tmp 37] _ _ _ rfl Tryz.func44 (by kernel_rfl) rfl #[.slice a n c] (by simp [ev, f0]) ?_
          refine (l9Bytes_agg a n c x.sg W (HSG.out W hI.bel) hc0 (by omega)).mono ?_
          rintro e W2 ⟨b7, e7, rfl, ho, hb⟩
          exact ⟨_, rfl, hKQ.out _ _ (hI.put 17 38 rfl rfl (by rw [hz]; decide) rfl hUN rfl HBB (cvT_stb x a n c l ao m cc bs wr.heap.size wy.heap.size (w.heap.size)) hb ⟨b7, e7, rfl, ho.mono (by have := hI.bel.size; omega)⟩)⟩
        · intro lQ b W hI hUN hED KQ hKQ
          have f0 := hI.got 3 (of_decide_eq_true rfl) (edge hED 3 (by kernel_rfl)) rfl
          obtain ⟨b1, e1, f0, r0⟩ := f0
          replace f0 : aT b 24 = .agg #[.int .i64 0, .int .i64 2, .bool false, .slice b1 (wsz x.alg) e1, .slice none 0 0] := f0
          have f1 := hI.got 7 (of_decide_eq_true rfl) (edge hED 7 (by kernel_rfl)) rfl
          obtain ⟨b3, e3, f1, r1⟩ := f1
          replace f1 : aT b 28 = .agg #[.int .i64 0, .int .i64 4, .bool false, .slice b3 8 e3, .slice none 0 0] := f1
          have f2 := hI.got 10 (of_decide_eq_true rfl) (edge hED 10 (by kernel_rfl)) rfl
          obtain ⟨b4, e4, f2, r2⟩ := f2
          replace f2 : aT b 31 = .agg #[.int .i64 0, .int .i64 2, .bool false, .slice b4 (wsz x.at2) e4, .slice none 0 0] := f2
          have f3 := hI.got 14 (of_decide_eq_true rfl) (edge hED 14 (by kernel_rfl)) rfl
          obtain ⟨b6, e6, f3, r3⟩ := f3
          replace f3 : aT b 35 = .agg #[.int .i64 0, .int .i64 4, .bool false, .slice b6 8 e6, .slice none 0 0] := f3
          have f4 := hI.got 17 (of_decide_eq_true rfl) (edge hED 17 (by kernel_rfl)) rfl
          obtain ⟨b7, e7, f4, r4⟩ := f4
          replace f4 : aT b 38 = .agg #[.int .i64 0, .int .i64 4, .bool false, .slice b7 n e7, .slice none 0 0] := f4
          refine opw_buildSlice _ 5 _ rfl #[(0, .agg #[.int .i64 0, .int .i64 2, .bool false, .slice b1 (wsz x.alg) e1, .slice none 0 0]), (1, .agg #[.int .i64 0, .int .i64 4, .bool false, .slice b3 8 e3, .slice none 0 0]), (2, .agg #[.int .i64 0, .int .i64 2, .bool false, .slice b4 (wsz x.at2) e4, .slice none 0 0]), (3, .agg #[.int .i64 0, .int .i64 4, .bool false, .slice b6 8 e6, .slice none 0 0]), (4, .agg #[.int .i64 0, .int .i64 4, .bool false, .slice b7 n e7, .slice none 0 0])] (by simp [ev, f0, f1, f2, f3, f4]) (.slice (some ⟨W.heap.size, 0, none⟩) 5 5) (W.alloc (.cells #[.int .i64 0, .int .i64 2, .bool false, .slice b1 (wsz x.alg) e1, .slice none 0 0, .int .i64 0, .int .i64 4, .bool false, .slice b3 8 e3, .slice none 0 0, .int .i64 0, .int .i64 2, .bool false, .slice b4 (wsz x.at2) e4, .slice none 0 0, .int .i64 0, .int .i64 4, .bool false, .slice b6 8 e6, .slice none 0 0, .int .i64 0, .int .i64 4, .bool false, .slice b7 n e7, .slice none 0 0] 73)) (by kernel_rfl) ?_
          exact hKQ.out _ _ (hI.put 18 39 rfl rfl (by rw [hz]; decide) rfl hUN rfl HBB (cvT_stb x a n c l ao m cc bs wr.heap.size wy.heap.size (w.heap.size)) ((Below.refl _ _).alloc (Nat.le_refl _) _) ⟨W.heap.size, rfl, kids_five W 73 (numI x.alg) (bytI (eightI x.dg)) (numI x.at2) (bytI (eightI x.ky)) (bytI x.sg) _ _ _ _ _ _ _ _ _ _ _ _ _ _ _ r0.toRow r1.toRow r2.toRow r3.toRow r4.toRow r0.nil r1.nil r2.nil r3.nil r4.nil (by omega) (by decide) (by omega) (by decide) (by omega) rfl rfl rfl rfl rfl⟩)
        · intro lQ b W hI hUN hED KQ hKQ
          have f2 := hI.got1 18 19 (of_decide_eq_true rfl) (edge hED 18 (by kernel_rfl)) hUN rfl
          obtain ⟨gk, f2, o2_0⟩ := f2
          replace f2 : aT b 39 = .slice (some ⟨gk, 0, none⟩) 5 5 := f2
          refine opw_call 42 #[.const (.int .i64 1), .const (.int .i64 12), .tmp 39] _ _ _ rfl Tryz.func42 (by kernel_rfl) rfl #[.int .i64 1, .int .i64 12, .slice (some ⟨gk, 0, none⟩) 5 5] (by simp [ev, evc, f2]) ?_
          refine (l2Box_agg 12 (some ⟨gk, 0, none⟩) 5 5 W).mono ?_
          rintro e W2 ⟨rfl, hb⟩
          exact ⟨_, rfl, hKQ.out _ _ (hI.put 19 40 rfl rfl (by rw [hz]; decide) rfl hUN rfl HBB (cvT_stb x a n c l ao m cc bs wr.heap.size wy.heap.size (w.heap.size)) hb ⟨gk, rfl, o2_0.kept hb⟩)⟩
        · intro lQ b W hI hUN hED KQ hKQ
          have f0 := hI.got1 19 20 (of_decide_eq_true rfl) (edge hED 19 (by kernel_rfl)) hUN rfl
          obtain ⟨gk, f0, o0_0⟩ := f0
          replace f0 : aT b 40 = .agg #[.int .i64 1, .int .i64 12, .bool true, .slice none 0 0, .slice (some ⟨gk, 0, none⟩) 5 5] := f0
          refine opw_call 41 #[.tmp 40] _ _ _ rfl Tryz.func41 (by kernel_rfl) rfl #[.agg #[.int .i64 1, .int .i64 12, .bool true, .slice none 0 0, .slice (some ⟨gk, 0, none⟩) 5 5]] (by simp [ev, f0]) ?_
          refine (l2Bytes_agg 12 (some ⟨gk, 0, none⟩) 5 5 [numI x.alg, bytI (eightI x.dg), numI x.at2, bytI (eightI x.ky), bytI x.sg] l W o0_0 HL.out).mono ?_
          rintro e W2 ⟨b9, e9, rfl, ho, hb⟩
          exact ⟨_, rfl, hKQ.out _ _ (hI.putp 20 41 (fun j hj => by rcases List.mem_singleton.1 hj with rfl; exact (edge hED 19 (by kernel_rfl))) rfl (by rw [hz]; decide) rfl hUN rfl HBB (cvT_stb x a n c l ao m cc bs wr.heap.size wy.heap.size (w.heap.size)) hb ⟨b9, e9, rfl, ho.mono (by have := hI.bel.size; omega)⟩)⟩
        · intro lQ b W hI hUN hED KQ hKQ
          have f0 : aT b 21 = .slice ao m cc := hI.got 0 (of_decide_eq_true rfl) (edge hED 0 (by kernel_rfl)) rfl
          obtain ⟨b9, e9, f1, r9⟩ := hI.got 20 (of_decide_eq_true rfl) (edge hED 20 (by kernel_rfl)) rfl
          replace f1 : aT b 41 = .slice b9 l.length e9 := f1
          have l20 := edge hED 20 (by kernel_rfl)
          have l19 := hI.cl 20 (of_decide_eq_true rfl) l20 19 (List.Mem.head _)
          have l22 : lQ 22 = false := by
            cases h : lQ 22 with
            | false => rfl
            | true =>
              have h2 := hI.cl 22 (of_decide_eq_true rfl) h 21 (List.Mem.tail _ (List.Mem.head _))
              rw [show lQ 21 = false from hUN] at h2
              cases h2
          have hown := hI.vot1 24 21 (of_decide_eq_true rfl) (of_decide_eq_true rfl) hUN rfl
          refine opw_append_row 21 41 22 rfl w.heap.size i0 Tryz.underlying22 hi hz0 hz1 hz2 (.slice ao m cc) m _ f0 hown.row b9 l.length e9 l f1 r9.toRow r9.nil (by omega) (Nat.le_trans HBB hI.bel.size) ?_
          intro v' w' hv' hg'
          obtain ⟨a', c', rfl, ho'⟩ := own_appended hv' hown.byte r9.byte
          exact hKQ.out _ _ (hI.turn 21 42 (fun j hj => by cases hj) rfl (by rw [hz]; decide) rfl hUN rfl (hI.bel.grown hg' (Nat.le_trans HBB hI.bel.size) (fun k hk => (hown.row.lt k hk).1)) (cvT_st21 x a n c l ao m cc bs wr.heap.size wy.heap.size w.heap.size hown.row hg' HJ.out l19 l20 l22) ⟨a', c', rfl, ho'⟩)
        · intro lQ b W hI hUN hED KQ hKQ
          have f := hI.got 21 (of_decide_eq_true rfl) (edge hED 21 (by kernel_rfl)) rfl
          exact opw_assign 42 rfl (hKQ.out _ _ (hI.putp 22 5 (fun j hj => by simp [RSpec.pre, cvT] at hj; rcases hj with rfl | rfl; exact (edge hED 0 (by kernel_rfl)); exact (edge hED 21 (by kernel_rfl))) rfl (by rw [hz]; decide) rfl hUN rfl HBB (cvT_stb x a n c l ao m cc bs wr.heap.size wy.heap.size (w.heap.size)) (Below.refl _ _) f))
      · intro b W hf hb F
        obtain ⟨a', c', e5, ho⟩ := F 22 (of_decide_eq_true rfl) rfl
        replace e5 : aT b 5 = _ := e5
        have HN : Hid (Own w.heap.size W a' (m + l.length) c' (covd doc xs (k + 1))) := by show Own _ _ _ _ _ _; rw [HE.out]; exact ho
        have hbq := hby.trans hb
        rw [hf.eq]
        simp only [puts, Act.put, List.setIfInBounds_toArray, List.set_cons_zero, List.set_cons_succ, e5]
        clear hf F e5 ho hb
        generalize aT b = AT
        clear b
        go_wp2
        go_roundw
        case rel => exact ⟨k + 1, m + l.length, a', c', by omega, by go_num, rfl, HM, HN, hbq⟩
        case measure => simp [intOf]; omega
    · obtain rfl : k = nv := by omega
      go_wp2
      go_ret
      exact ⟨ao, cc, by rw [← HM0.out]; rfl, by rw [← HM0.out]; exact HOK.out, hbr⟩

end Go.Proofs.YtmhijbcbckljmaaGreat

set_option linter.unusedVariables false
namespace Go.Proofs.YtmhijbcbckljmaaGreat
open Go.RowKit Go.Sort

theorem ownS_empty {B : Nat} (w : World) (h : B ≤ w.heap.size) : OwnS B (w.alloc (.cells #[] 45)) (some ⟨w.heap.size, 0, none⟩) 0 0 [] :=
  ⟨World.ownsRow_lit w #[] 0 h (Nat.zero_le _) rfl, rfl, fun _ hj => absurd hj (Nat.not_lt_zero _), fun _ _ _ hi => absurd hi (Nat.not_lt_zero _), fun _ hj => absurd hj (Nat.not_lt_zero _)⟩

set_option maxRecDepth 10000 in
set_option maxHeartbeats 4000000 in
theorem l18Copy_any (a : Option Addr) (n c : Nat) (xs : List StP) (w : World) (h : Sts (fun n c => n = c ∧ n ≤ 1048576) w a n xs) (hn : n ≤ 8) :
    Calls Tryz.prog 21 #[.slice a n c] w fun e w' => ∃ a' c' ps, e = .returned (.slice a' n c') ∧ (OwnS w.heap.size w' a' n c' ps ∧ xsOf ps = xs) ∧ Below w.heap.size w w' := by
  obtain ⟨i0, hi, hz0, hz1, hz2⟩ := info_parts Tryz.infoSt
  obtain ⟨j0, ji, jz0, jz1, jz2⟩ := info_parts Tryz.info5
  have H0 : Hid (Sts (fun n c => n = c ∧ n ≤ 1048576) w a n xs) := h
  have HLX : Hid (xs.length = n) := h.len
  clear h
  go_enter Tryz.func21, Tryz.ntmps21
  go_wp2
  go_loopw [3, 4] (fun o i wr => ∃ (k : Nat) (ao : Option Addr) (cc : Nat), k ≤ n ∧ i = .int .i64 k ∧ o = .slice ao k cc ∧ Hid (∃ ps, OwnS w.heap.size wr ao k cc ps ∧ xsOf ps = xs.take k) ∧ Below w.heap.size w wr) (fun _ i _ => n - (intOf i).toNat)
  case atStart => exact ⟨0, _, 0, Nat.zero_le _, rfl, rfl, ⟨[], ownS_empty _ (Nat.le_refl _), by simp [xsOf]⟩, (Below.refl _ _).alloc (Nat.le_refl _) _⟩
  case round =>
    obtain ⟨k, ao, cc, hk, rfl, rfl, HO, hbr⟩ := hrel
    have hws := hbr.size
    by_cases hlt : k < n
    · obtain ⟨b, off, a1, n1, d1, rfl, hlb, hc, hp, hm, hu, hK⟩ := H0.out.get k hlt
      obtain ⟨y, hy⟩ : ∃ y, y = xs.getD k default := ⟨_, rfl⟩
      rw [← hy] at hc hp hu
      have HXK : Hid (xs.take (k + 1) = xs.take k ++ [y]) := by
        show _ = _
        have hkl : k < xs.length := by rw [HLX.out]; exact hlt
        rw [List.take_add_one, hy]
        simp [hkl]
      obtain ⟨c0, c1, c2, c3, c4⟩ := hc.of (w' := wr) (fun i => hbr.cell (p := ⟨b, i, none⟩) hlb)
      have hkni : (k : Int) < (n : Int) := by omega
      have hbw : b < wr.heap.size := by omega
      have hnl : a1 = none → d1 = 0 := fun e => by
        subst e
        by_cases h0 : 0 < n1
        · obtain ⟨_, _, h1, _⟩ := hp.get 0 h0
          cases h1
        · have := hK.1
          omega
      have hn1 := hK.2
      obtain ⟨wy, hwy⟩ : ∃ wy, wy = wr.alloc (.cells #[.int .i64 y.alg, .int .u64 y.dg, .int .i64 y.at2, .int .u64 y.ky, .slice a1 n1 d1] 45) := ⟨_, rfl⟩
      have hby : Below wr.heap.size wr wy := by rw [hwy]; exact (Below.refl _ _).alloc (Nat.le_refl _) _
      have hyb : wy.heap[wr.heap.size]? = some (.cells #[.int .i64 y.alg, .int .u64 y.dg, .int .i64 y.at2, .int .u64 y.ky, .slice a1 n1 d1] 45 (0, 0)) := by rw [hwy]; exact heap_alloc_new _ _
      have hys : wy.heap.size = wr.heap.size + 1 := by rw [hwy]; simp
      have HRY : Hid (Row (wy.alloc (.cells #[] 5)) a1 n1 y.sg) := (((hp.kept hbr).kept hby)).kept ((Below.refl _ _).alloc (Nat.le_refl _) _)
      have HU : Hid (U64 y.dg ∧ U64 y.ky) := hu
      have HWY : Hid (_ = _) := hwy
      have HE : Hid (Own wy.heap.size (wy.alloc (.cells #[] 5)) (some ⟨wr.heap.size + 1, 0, none⟩) 0 0 []) := by show Own _ _ _ _ _ _; rw [← hys]; exact own_zeroE _ _ _ rfl (Nat.le_refl _)
      have HYB : Hid (wy.heap[wr.heap.size]? = some (.cells #[.int .i64 y.alg, .int .u64 y.dg, .int .i64 y.at2, .int .u64 y.ky, .slice a1 n1 d1] 45 (0, 0))) := hyb
      have hbE : Below wy.heap.size wy (wy.alloc (.cells #[] 5)) := (Below.refl _ _).alloc (Nat.le_refl _) _
      have HBY : Hid (Below wr.heap.size wr wy) := hby
      have hy5 := cells5r (below_kept hyb hbE)
      obtain ⟨x0, x1, x2, x3, x4⟩ := hy5
      clear hc hy hp hu hm hK hwy hyb hby
      go_upto_region 6 with fail
      rw [← HWY.out]
      clear HWY c0 c1 c2 c3 c4
      go_upto_region 7 with (at_builtin; go_loud ((refine wpList_append_row _ rfl _ _ 22 rfl wy.heap.size j0 Tryz.underlying22 ji jz0 jz1 jz2 _ _ _ rfl HE.out.row a1 n1 d1 y.sg rfl HRY.out hnl (by omega) hbE.size ?_); intro v4 w4 hv4 hg4; obtain ⟨a4, c4, rfl, ho4⟩ := own_appended (xs := []) (ys := y.sg) hv4 HE.out.byte HRY.out.byte; have hb4 : Below wy.heap.size wy w4 := below_appended hbE hbE.size HE.out.row hg4; have HO4 : Hid (Own wy.heap.size w4 a4 n1 c4 y.sg) := (by show Own _ _ _ _ _ _; simpa using ho4); have H4 : Hid (w4.heap[wr.heap.size]? = some (.cells #[.int .i64 y.alg, .int .u64 y.dg, .int .i64 y.at2, .int .u64 y.ky, .slice a1 n1 d1] 45 (0, 0))) := below_kept HYB.out hb4; clear hv4 hg4 ho4 x0 x1 x2 x3 x4; obtain ⟨x0, x1, x2, x3, x4⟩ := cells5r H4.out; obtain ⟨f0, f1, f2, f3, f4⟩ := frozen5r H4.out))
      obtain ⟨w5, hw5⟩ : ∃ w5, w5 = w4.setCell ⟨wr.heap.size, 4, none⟩ (.slice a4 n1 c4) := ⟨_, rfl⟩
      have H5 : Hid (w5.heap[wr.heap.size]? = some (.cells #[.int .i64 y.alg, .int .u64 y.dg, .int .i64 y.at2, .int .u64 y.ky, .slice a4 n1 c4] 45 (0, 0))) := by show _ = _; rw [hw5]; exact heap_setCell_same w4 _ 4 _ _ _ H4.out
      have ht5 : Touch wr.heap.size (wr.heap.size + 1) w4 w5 := by rw [hw5]; exact touch_set1 _ _ _ _
      have HO5 : Hid (Own wy.heap.size w5 a4 n1 c4 y.sg) := ⟨ownsRow_box HO4.out.row H4.out (by decide) ht5, HO4.out.byte⟩
      have hb4r : Below wr.heap.size wr w4 := HBY.out.trans (hb4.mono HBY.out.size)
      have hb5r : Below wr.heap.size wr w5 := hb4r.trans (ht5.below (Nat.le_refl _) hb4r.size)
      have B2 : Below w.heap.size w w5 := hbr.trans (hb5r.mono hws)
      have hw2 := B2.size
      obtain ⟨ps, hps, hxp⟩ := HO.out
      have HAP : Hid (∀ j l, j < k → (rqv (ps.getD j sq0).1).ownBlock = some l → (rqv ((a4, n1, c4) : Rq)).ownBlock = some l → False) := by
        intro j l hj h1 h2
        have e1 := ((hps.each j hj).row.lt l h1).2
        have e2 := (HO5.out.row.lt l h2).1
        omega
      have HXP : Hid (xsOf ps = xs.take k) := hxp
      have HQ3 : Hid (OwnS w.heap.size (w5.alloc (.cells #[.int .i64 y.alg, .int .u64 y.dg, .int .i64 y.at2, .int .u64 y.ky, .slice a4 n1 c4] 45)) ao k cc ps) := (hps.kept hb5r).kept ((Below.refl _ _).alloc (Nat.le_refl _) _)
      have HO3 : Hid (Own w.heap.size (w5.alloc (.cells #[.int .i64 y.alg, .int .u64 y.dg, .int .i64 y.at2, .int .u64 y.ky, .slice a4 n1 c4] 45)) a4 n1 c4 y.sg) := (HO5.out.mono (by omega)).kept ((Below.refl _ _).alloc (Nat.le_refl _) _)
      have HW5 : Hid (_ = _) := hw5
      clear hps hxp HO hw5 H4 HO4 HRY HE HBY HYB hbE hb4 hb4r ht5
      rw [← HW5.out]
      clear HW5 x0 x1 x2 x3 x4 f0 f1 f2 f3 f4
      obtain ⟨x0, x1, x2, x3, x4⟩ := cells5r H5.out
      go_wp2_with (at_builtin; refine wpList_append_own _ rfl _ _ 28 rfl w.heap.size 45 i0 _ 5 56 Tryz.underlying28 hi hz0 hz1 hz2 rfl (by decide) _ k _ rfl HQ3.out.row ⟨w5.heap.size, 0, none⟩ 1 1 [.int .i64 y.alg, .int .u64 y.dg, .int .i64 y.at2, .int .u64 y.ky, .slice a4 n1 c4] rfl rfl (cell_fiveR _ _ _ _ _ _ _) (by intro u hu; simp only [List.mem_cons, List.not_mem_nil, or_false] at hu; rcases hu with rfl | rfl | rfl | rfl | rfl <;> rfl) (by unfold maxLen; omega) (by omega) (by simp; omega) ?_; intro v7 w7 hv7 hg7 _; obtain ⟨a7, c7, rfl⟩ := owns_shapeR hv7; have hbq : Below w.heap.size w w7 := (B2.alloc hw2 _).grown hg7 (by simp; omega) (fun j hj => (HQ3.out.row.lt j hj).1); have HN : Hid (∃ ps, OwnS w.heap.size w7 a7 (k + 1) c7 ps ∧ xsOf ps = xs.take (k + 1)) := ⟨ps ++ [((a4, n1, c4), y)], HQ3.out.appended (p := ((a4, n1, c4), y)) HO3.out HU.out HAP.out (by rw [List.flatMap_append]; exact hv7) hg7, by rw [HXK.out]; simp [xsOf, ← HXP.out]⟩; clear hv7 hg7)
      go_roundw
      case rel => exact ⟨k + 1, a7, c7, by omega, by go_num, rfl, HN, hbq⟩
      case measure => simp [intOf]; omega
    · obtain rfl : k = n := by omega
      obtain ⟨ps, hps, hxp⟩ := HO.out
      have HQ : Hid (OwnS w.heap.size wr ao k cc ps) := hps
      have HX : Hid (xsOf ps = xs) := by show _ = _; rw [hxp, List.take_of_length_le (by rw [HLX.out]; exact Nat.le_refl _)]
      clear hps hxp HO
      go_wp2
      go_ret
      exact ⟨ao, cc, ps, rfl, ⟨HQ.out, HX.out⟩, hbr⟩

end Go.Proofs.YtmhijbcbckljmaaGreat

set_option linter.unusedVariables false
namespace Go.Proofs.YtmhijbcbckljmaaGreat
open Go.RowKit Go.Sort

/-- What Renew answers. -/
structure RnV where
  xs : List StP
  t : Sc4
  cd : Int
def rnBad (cd : Int) : RnV := ⟨[], (0, 0, 0, 0), cd⟩
def stOf (v : StV) : StP := ⟨v.alg, v.dg, v.at2, v.ky, v.sg⟩
def rnP (doc : List Int) (xs : List StP) (n : Nat) (at2 : Int) : Prop := n < 8 ∧ doc.length ≤ 4000 ∧ AllSt xs n ∧ (0 < n → (xs.getD (n - 1) default).at2 ≤ at2)
open Classical in
noncomputable def rnV (doc : List Int) (xs : List StP) (n : Nat) (alg at2 sc x h nn : Int) : RnV :=
  if rnP doc xs n at2 then
    (if (stV alg (dgR alg (covd doc xs n)) at2 sc x h nn).cd = 0 then ⟨xs ++ [stOf (stV alg (dgR alg (covd doc xs n)) at2 sc x h nn)], (stV alg (dgR alg (covd doc xs n)) at2 sc x h nn).t, 0⟩
    else rnBad (stV alg (dgR alg (covd doc xs n)) at2 sc x h nn).cd)
  else rnBad 1
def rnOut (v : RnV) (a : Option Addr) (c : Nat) : Value := .tuple #[.slice a v.xs.length c, .agg #[.int .i64 v.t.1, .int .u64 v.t.2.1, .int .i64 v.t.2.2.1, .int .i64 v.t.2.2.2], .int .i64 v.cd]
theorem dgR_bd (alg : Int) (bs : List Int) : U64 (dgR alg bs) := by
  unfold dgR
  split
  · exact triN_bd _ _ _
  · exact ⟨by decide, by decide⟩
theorem stV_rng (alg dg at2 sc x h n : Int) (hdg : U64 dg) : U64 (stV alg dg at2 sc x h n).dg ∧ U64 (stV alg dg at2 sc x h n).ky := by
  have z : U64 0 := ⟨by decide, by decide⟩
  unfold stV
  split
  · split
    · refine ⟨hdg, ?_⟩
      unfold asV
      split
      · exact hashL_bd _
      · exact z
    · exact ⟨z, z⟩
  · exact ⟨z, z⟩
theorem results_rn {fn : Func} {t u z : Tmp} (h : fn.results = #[.tmp t, .cell u 29, .tmp z]) (tmps : Array Value) (g : Nat) (q0 : Value) (ht : tmps.getD t undef = q0) (hu : tmps.getD u undef = .pointer (some ⟨g, 0, none⟩)) (q : Value) (hz : tmps.getD z undef = q) (w : World) (c2 : Array Value)
    (b2 : w.heap[g]? = some (.cells c2 29 (0, 0))) (s2 : c2.size = 4) : (results fn tmps).run Tryz.prog w = .ok (.tuple #[q0, .agg c2, q]) w := by
  have i2 : (Tryz.prog.info? 29).map (·.size) = some c2.size := by rw [s2]; kernel_rfl
  have ht' : tmps[t]?.getD undef = q0 := by rw [← ht]; simp
  have hu' : tmps[u]?.getD undef = .pointer (some ⟨g, 0, none⟩) := by rw [← hu]; simp
  have hz' : tmps[z]?.getD undef = q := by rw [← hz]; simp
  simp [results, h, ht', hu', hz', asAddr, run_loadVar_row w g _ _ c2 (0, 0) _ b2 Tryz.underlying29 rfl i2]
theorem OwnS.touched {B : Nat} {w w' : World} {a : Option Addr} {n cap g t : Nat} {ps : List Sq} {cs : Array Value} {fr : Nat × Nat} (h : OwnS B w a n cap ps) (hg : w.heap[g]? = some (.cells cs t fr)) (h1 : t ≠ 45) (h2 : t ≠ 5) (ht : Touch g (g + 1) w w') : OwnS B w' a n cap ps :=
  ⟨ownsRow_box h.row hg h1 ht, h.len, fun j hj => ⟨ownsRow_box (h.each j hj).row hg h2 ht, (h.each j hj).byte⟩, h.apart, h.rng⟩
theorem ownsRow_mono {w : World} {B B' e k n : Nat} {v : Value} {xs : List Value} (h : w.ownsRow B e k v n xs) (hB : B' ≤ B) : w.ownsRow B' e k v n xs :=
  ⟨h.1, by rcases h.2 with h | ⟨g, cap, cur, hv, hb, r⟩; exact .inl h; exact .inr ⟨g, cap, cur, hv, by omega, r⟩⟩
theorem own_grownGe {B R : Nat} {w w' : World} {a : Option Addr} {n c : Nat} {bs : List Int} {row : Option Nat} (h : Own B w a n c bs) (hg : w.grownBy w' row) (hlo : ∀ k, row = some k → R ≤ k) (hj : ∀ k, (Value.slice a n c).ownBlock = some k → k < R) : Own B w' a n c bs := by
  refine ⟨h.row.kept hg ?_, h.byte⟩
  cases hb : (Value.slice a n c).ownBlock with
  | none => exact .inl rfl
  | some k =>
    right
    intro e
    have h1 := hj k hb
    have h2 := hlo k e.symm
    omega
theorem cells_of5 {W : World} {g : Nat} {t : TypeId} {v0 v1 v2 v3 v4 : Value} (hh : W.heap[g]? = some (.cells #[v0, v1, v2, v3, v4] t (0, 0))) : ∀ j u, [v0, v1, v2, v3, v4][j]? = some u → W.cell? ((⟨g, 0, none⟩ : Addr).add j) = some u := by
  intro j u hu
  have hj : j < 5 := by
    have := (List.getElem?_eq_some_iff.1 hu).1
    simpa using this
  rw [Addr.add_lit]
  rcases (show j = 0 ∨ j = 1 ∨ j = 2 ∨ j = 3 ∨ j = 4 by omega) with rfl | rfl | rfl | rfl | rfl
  all_goals (simp at hu; subst hu; exact (cell_of_row _ _ _ _ t (0, 0) hh).trans rfl)
/-- append of structures as an operation of a region. -/
theorem opw_append_st {P : Program} {o : Oper} {a : Act} {w : World} {K : Act → World → Prop} {Q : Exit → Act → World → Prop}
    (s x : Nat) (t : TypeId) (hop : o.op = Op.call { callee := Callee.builtin Builtin.append, args := #[.tmp s, .tmp x], argTypes := #[t, t] })
    (base : Nat) (e : TypeId) (i : TypeInfo) (z : Value) (size bytes : Nat) (h1 : P.underlying t = some (.slice e)) (h2 : P.info? e = some i) (h3 : i.zero = some z) (h4 : i.size = size) (h5 : i.bytes = bytes) (h6 : z.cells.size = size) (h7 : 0 < size)
    (v : Value) (n : Nat) (xs : List Value) (hs : aT a s = v) (hown : w.ownsRow base e size v n xs)
    (ad : Addr) (m c : Nat) (news : List Value) (hx : aT a x = .slice (some ad) m c) (hl : news.length = m * size) (hnews : ∀ j u, news[j]? = some u → w.cell? (ad.add j) = some u) (hone : ∀ u ∈ news, u.oneCell' = true)
    (b1 : n + m ≤ maxLen) (b2 : (n + m) * bytes ≤ 140737488355328) (b3 : base ≤ w.heap.size)
    (hK : ∀ v' w', w'.ownsRow base e size v' (n + m) (xs ++ news) → w.grownBy w' v.ownBlock → K (a.put o.dst v') w') : o.wp P a w K Q := by
  have hs' : a.eval (.tmp s) = v := hs
  have hx' : a.eval (.tmp x) = .slice (some ad) m c := hx
  obtain ⟨v', w', hrun, r1, r2, _⟩ := run_append_own (P := P) w base t o.type e i z size bytes h1 h2 h3 h4 h5 h6 h7 v n xs hown ad m c news hl hnews hone b1 b2 b3
  unfold Oper.wp
  simp [execOp, hop, resolve, invoke, builtin, hs', hx', hrun, Result.andThen]
  exact hK v' w' r1 r2

/-- What is known of a region (RJ). -/
def rzA (cd : Int) (G B : Nat) : RSpec where
  m := 4
  n := 5
  slots := [30, 10, 100002, 12, 100004]
  kills := [[], [], [], [], [2]]
  pres := [[], [], [], [], []]
  fact := fun k v w => match k with
    | 0 => v = .agg #[.int .i64 0, .int .u64 0, .int .i64 0, .int .i64 0]
    | 1 => v = .slice none 0 0
    | 2 => w.heap[(G + 1)]? = some (.cells #[.int .i64 0, .int .u64 0, .int .i64 0, .int .i64 0] 29 (0, 0))
    | 3 => v = .int .i64 1
    | _ => w.heap[(G + 1)]? = some (.cells #[.int .i64 0, .int .u64 0, .int .i64 0, .int .i64 0] 29 (0, 0))
set_option linter.unusedVariables false in
theorem rzA_stb (cd : Int) (G B : Nat) (k : Nat) (hk : k < 5) : StB ((rzA cd G (B)).fact k) := by
  match k, hk with
  | 0, _ => exact fun _ _ _ h _ => h
  | 1, _ => exact fun _ _ _ h _ => h
  | 2, _ => exact fun _ _ _ q_0 hb => below_kept q_0 hb
  | 3, _ => exact fun _ _ _ h _ => h
  | 4, _ => exact fun _ _ _ q_0 hb => below_kept q_0 hb
  | k + 5, hk => omega
set_option linter.unusedVariables false in
theorem rzA_st2 (cd : Int) (G B : Nat) {W W2 : World} {cs : Array Value} {fr : Nat × Nat} (hg : W.heap[(G + 1)]? = some (.cells cs 29 fr)) (ht : Touch ((G + 1)) ((G + 1) + 1) W W2) (k : Nat) (hk : k < 5) (hne : k ≠ 2) (hkill : 2 ∉ (rzA cd G (B)).kill k) (v : Value) (hfact : (rzA cd G (B)).fact k v W) : (rzA cd G (B)).fact k v W2 := by
  match k, hk, hne, hkill, hfact with
  | 0, _, _, _, hq => exact hq
  | 1, _, _, _, hq => exact hq
  | 2, _, hne, _, _ => exact absurd rfl hne
  | 3, _, _, _, hq => exact hq
  | 4, _, _, hkill, _ => exact absurd (List.Mem.head _) hkill
  | k + 5, hk, _, _, _ => omega
/-- What is known of a region (RJ). -/
def rzB (cd : Int) (G B : Nat) : RSpec where
  m := 4
  n := 5
  slots := [45, 10, 100002, 12, 100004]
  kills := [[], [], [], [], [2]]
  pres := [[], [], [], [], []]
  fact := fun k v w => match k with
    | 0 => v = .agg #[.int .i64 0, .int .u64 0, .int .i64 0, .int .i64 0]
    | 1 => v = .slice none 0 0
    | 2 => w.heap[(G + 1)]? = some (.cells #[.int .i64 0, .int .u64 0, .int .i64 0, .int .i64 0] 29 (0, 0))
    | 3 => v = .int .i64 1
    | _ => w.heap[(G + 1)]? = some (.cells #[.int .i64 0, .int .u64 0, .int .i64 0, .int .i64 0] 29 (0, 0))
set_option linter.unusedVariables false in
theorem rzB_stb (cd : Int) (G B : Nat) (k : Nat) (hk : k < 5) : StB ((rzB cd G (B)).fact k) := by
  match k, hk with
  | 0, _ => exact fun _ _ _ h _ => h
  | 1, _ => exact fun _ _ _ h _ => h
  | 2, _ => exact fun _ _ _ q_0 hb => below_kept q_0 hb
  | 3, _ => exact fun _ _ _ h _ => h
  | 4, _ => exact fun _ _ _ q_0 hb => below_kept q_0 hb
  | k + 5, hk => omega
set_option linter.unusedVariables false in
theorem rzB_st2 (cd : Int) (G B : Nat) {W W2 : World} {cs : Array Value} {fr : Nat × Nat} (hg : W.heap[(G + 1)]? = some (.cells cs 29 fr)) (ht : Touch ((G + 1)) ((G + 1) + 1) W W2) (k : Nat) (hk : k < 5) (hne : k ≠ 2) (hkill : 2 ∉ (rzB cd G (B)).kill k) (v : Value) (hfact : (rzB cd G (B)).fact k v W) : (rzB cd G (B)).fact k v W2 := by
  match k, hk, hne, hkill, hfact with
  | 0, _, _, _, hq => exact hq
  | 1, _, _, _, hq => exact hq
  | 2, _, hne, _, _ => exact absurd rfl hne
  | 3, _, _, _, hq => exact hq
  | 4, _, _, hkill, _ => exact absurd (List.Mem.head _) hkill
  | k + 5, hk, _, _, _ => omega
/-- What is known of a region (RJ). -/
def rzC (cd : Int) (G B : Nat) : RSpec where
  m := 5
  n := 6
  slots := [61, 62, 10, 100003, 12, 100005]
  kills := [[], [], [], [], [], [3]]
  pres := [[], [], [], [], [], []]
  fact := fun k v w => match k with
    | 0 => v = .agg #[.int .i64 0, .int .u64 0, .int .i64 0, .int .i64 0]
    | 1 => v = .int .i64 cd
    | 2 => v = .slice none 0 0
    | 3 => w.heap[(G + 1)]? = some (.cells #[.int .i64 0, .int .u64 0, .int .i64 0, .int .i64 0] 29 (0, 0))
    | 4 => v = .int .i64 cd
    | _ => w.heap[(G + 1)]? = some (.cells #[.int .i64 0, .int .u64 0, .int .i64 0, .int .i64 0] 29 (0, 0))
set_option linter.unusedVariables false in
theorem rzC_stb (cd : Int) (G B : Nat) (k : Nat) (hk : k < 6) : StB ((rzC cd G (B)).fact k) := by
  match k, hk with
  | 0, _ => exact fun _ _ _ h _ => h
  | 1, _ => exact fun _ _ _ h _ => h
  | 2, _ => exact fun _ _ _ h _ => h
  | 3, _ => exact fun _ _ _ q_0 hb => below_kept q_0 hb
  | 4, _ => exact fun _ _ _ h _ => h
  | 5, _ => exact fun _ _ _ q_0 hb => below_kept q_0 hb
  | k + 6, hk => omega
set_option linter.unusedVariables false in
theorem rzC_st3 (cd : Int) (G B : Nat) {W W2 : World} {cs : Array Value} {fr : Nat × Nat} (hg : W.heap[(G + 1)]? = some (.cells cs 29 fr)) (ht : Touch ((G + 1)) ((G + 1) + 1) W W2) (k : Nat) (hk : k < 6) (hne : k ≠ 3) (hkill : 3 ∉ (rzC cd G (B)).kill k) (v : Value) (hfact : (rzC cd G (B)).fact k v W) : (rzC cd G (B)).fact k v W2 := by
  match k, hk, hne, hkill, hfact with
  | 0, _, _, _, hq => exact hq
  | 1, _, _, _, hq => exact hq
  | 2, _, _, _, hq => exact hq
  | 3, _, hne, _, _ => exact absurd rfl hne
  | 4, _, _, _, hq => exact hq
  | 5, _, _, hkill, _ => exact absurd (List.Mem.head _) hkill
  | k + 6, hk, _, _, _ => omega
/-- What is known of a region (RJ). -/
def r6Sp (ad : Option Addr) (nd cd : Nat) (A0 : Option Addr) (N0 c : Nat) (alg at2 sc x h nn dv : Int) (F : List Int) (V1 : StV) (G B : Nat) : RSpec where
  m := 18
  n := 19
  slots := [47, 48, 49, 50, 51, 52, 53, 54, 55, 46, 56, 57, 58, 14, 15, 14, 15, 16, 100018]
  kills := [[], [], [], [], [], [], [], [], [], [], [], [], [], [15], [16], [], [], [], []]
  pres := [[], [], [], [], [], [], [], [], [], [], [], [], [], [], [], [13], [14], [], []]
  fact := fun k v w => match k with
    | 0 => v = .int .i64 alg
    | 1 => v = .int .i64 alg
    | 2 => v = .slice ad nd cd
    | 3 => v = .slice A0 N0 c
    | 4 => ∃ a5 c5, v = .slice a5 F.length c5 ∧ Own B w a5 F.length c5 F
    | 5 => v = .int .u64 dv
    | 6 => v = .int .i64 at2
    | 7 => v = .agg #[.int .i64 sc, .int .u64 x, .int .i64 h, .int .i64 nn]
    | 8 => ∃ a2 c2, v = .tuple #[.agg #[.int .i64 V1.alg, .int .u64 V1.dg, .int .i64 V1.at2, .int .u64 V1.ky, .slice a2 V1.sg.length c2], .agg #[.int .i64 V1.t.1, .int .u64 V1.t.2.1, .int .i64 V1.t.2.2.1, .int .i64 V1.t.2.2.2], .int .i64 V1.cd] ∧ Own B w a2 V1.sg.length c2 V1.sg
    | 9 => ∃ a2 c2, v = .tuple #[.agg #[.int .i64 V1.alg, .int .u64 V1.dg, .int .i64 V1.at2, .int .u64 V1.ky, .slice a2 V1.sg.length c2], .agg #[.int .i64 V1.t.1, .int .u64 V1.t.2.1, .int .i64 V1.t.2.2.1, .int .i64 V1.t.2.2.2], .int .i64 V1.cd] ∧ Own B w a2 V1.sg.length c2 V1.sg
    | 10 => ∃ a2 c2, v = .agg #[.int .i64 V1.alg, .int .u64 V1.dg, .int .i64 V1.at2, .int .u64 V1.ky, .slice a2 V1.sg.length c2] ∧ Own B w a2 V1.sg.length c2 V1.sg
    | 11 => v = .agg #[.int .i64 V1.t.1, .int .u64 V1.t.2.1, .int .i64 V1.t.2.2.1, .int .i64 V1.t.2.2.2]
    | 12 => v = .int .i64 V1.cd
    | 13 => ∃ gb13, v = .pointer (some ⟨gb13, 0, none⟩) ∧ w.heap[gb13]? = some (.cells #[.int .i64 0, .int .u64 0, .int .i64 0, .int .u64 0, .slice none 0 0] 45 (0, 0)) ∧ B ≤ gb13
    | 14 => ∃ gb14, v = .pointer (some ⟨gb14, 0, none⟩) ∧ w.heap[gb14]? = some (.cells #[.int .i64 0, .int .u64 0, .int .i64 0, .int .i64 0] 29 (0, 0)) ∧ B ≤ gb14
    | 15 => ∃ gs15 a2 c2, v = .pointer (some ⟨gs15, 0, none⟩) ∧ w.heap[gs15]? = some (.cells #[.int .i64 V1.alg, .int .u64 V1.dg, .int .i64 V1.at2, .int .u64 V1.ky, .slice a2 V1.sg.length c2] 45 (0, 0)) ∧ B ≤ gs15 ∧ Own B w a2 V1.sg.length c2 V1.sg
    | 16 => ∃ gs16, v = .pointer (some ⟨gs16, 0, none⟩) ∧ w.heap[gs16]? = some (.cells #[.int .i64 V1.t.1, .int .u64 V1.t.2.1, .int .i64 V1.t.2.2.1, .int .i64 V1.t.2.2.2] 29 (0, 0)) ∧ B ≤ gs16
    | 17 => v = .int .i64 V1.cd
    | _ => w.heap[G]? = some (.cells #[.int .i64 sc, .int .u64 x, .int .i64 h, .int .i64 nn] 29 (0, 0)) ∧ G < B
set_option linter.unusedVariables false in
theorem r6Sp_stb (ad : Option Addr) (nd cd : Nat) (A0 : Option Addr) (N0 c : Nat) (alg at2 sc x h nn dv : Int) (F : List Int) (V1 : StV) (G B : Nat) (k : Nat) (hk : k < 19) : StB ((r6Sp ad nd cd A0 N0 c alg at2 sc x h nn dv F V1 G (B)).fact k) := by
  match k, hk with
  | 0, _ => exact fun _ _ _ h _ => h
  | 1, _ => exact fun _ _ _ h _ => h
  | 2, _ => exact fun _ _ _ h _ => h
  | 3, _ => exact fun _ _ _ h _ => h
  | 4, _ => exact fun _ _ _ ⟨a5, c5, hv, q_0⟩ hb => ⟨a5, c5, hv, q_0.kept hb⟩
  | 5, _ => exact fun _ _ _ h _ => h
  | 6, _ => exact fun _ _ _ h _ => h
  | 7, _ => exact fun _ _ _ h _ => h
  | 8, _ => exact fun _ _ _ ⟨a2, c2, hv, q_0⟩ hb => ⟨a2, c2, hv, q_0.kept hb⟩
  | 9, _ => exact fun _ _ _ ⟨a2, c2, hv, q_0⟩ hb => ⟨a2, c2, hv, q_0.kept hb⟩
  | 10, _ => exact fun _ _ _ ⟨a2, c2, hv, q_0⟩ hb => ⟨a2, c2, hv, q_0.kept hb⟩
  | 11, _ => exact fun _ _ _ h _ => h
  | 12, _ => exact fun _ _ _ h _ => h
  | 13, _ => exact fun _ _ _ ⟨gb13, hv, q_0, q_1⟩ hb => ⟨gb13, hv, below_kept q_0 hb, q_1⟩
  | 14, _ => exact fun _ _ _ ⟨gb14, hv, q_0, q_1⟩ hb => ⟨gb14, hv, below_kept q_0 hb, q_1⟩
  | 15, _ => exact fun _ _ _ ⟨gs15, a2, c2, hv, q_0, q_1, q_2⟩ hb => ⟨gs15, a2, c2, hv, below_kept q_0 hb, q_1, q_2.kept hb⟩
  | 16, _ => exact fun _ _ _ ⟨gs16, hv, q_0, q_1⟩ hb => ⟨gs16, hv, below_kept q_0 hb, q_1⟩
  | 17, _ => exact fun _ _ _ h _ => h
  | 18, _ => exact fun _ _ _ ⟨q_0, q_1⟩ hb => ⟨below_kept q_0 hb, q_1⟩
  | k + 19, hk => omega
set_option linter.unusedVariables false in
theorem r6Sp_st15 (ad : Option Addr) (nd cd : Nat) (A0 : Option Addr) (N0 c : Nat) (alg at2 sc x h nn dv : Int) (F : List Int) (V1 : StV) (G B : Nat) {W W2 : World} {g : Nat} {cs : Array Value} {fr : Nat × Nat} (hg : W.heap[g]? = some (.cells cs 45 fr)) (ht : Touch (g) (g + 1) W W2) (hge : B ≤ g) (k : Nat) (hk : k < 19) (hne : k ≠ 15) (hkill : 15 ∉ (r6Sp ad nd cd A0 N0 c alg at2 sc x h nn dv F V1 G (B)).kill k) (v : Value) (hfact : (r6Sp ad nd cd A0 N0 c alg at2 sc x h nn dv F V1 G (B)).fact k v W) : (r6Sp ad nd cd A0 N0 c alg at2 sc x h nn dv F V1 G (B)).fact k v W2 := by
  match k, hk, hne, hkill, hfact with
  | 0, _, _, _, hq => exact hq
  | 1, _, _, _, hq => exact hq
  | 2, _, _, _, hq => exact hq
  | 3, _, _, _, hq => exact hq
  | 4, _, _, _, ⟨a5, c5, hv, q_0⟩ => exact ⟨a5, c5, hv, ⟨ownsRow_box q_0.row hg (by decide) ht, q_0.byte⟩⟩
  | 5, _, _, _, hq => exact hq
  | 6, _, _, _, hq => exact hq
  | 7, _, _, _, hq => exact hq
  | 8, _, _, _, ⟨a2, c2, hv, q_0⟩ => exact ⟨a2, c2, hv, ⟨ownsRow_box q_0.row hg (by decide) ht, q_0.byte⟩⟩
  | 9, _, _, _, ⟨a2, c2, hv, q_0⟩ => exact ⟨a2, c2, hv, ⟨ownsRow_box q_0.row hg (by decide) ht, q_0.byte⟩⟩
  | 10, _, _, _, ⟨a2, c2, hv, q_0⟩ => exact ⟨a2, c2, hv, ⟨ownsRow_box q_0.row hg (by decide) ht, q_0.byte⟩⟩
  | 11, _, _, _, hq => exact hq
  | 12, _, _, _, hq => exact hq
  | 13, _, _, hkill, _ => exact absurd (List.Mem.head _) hkill
  | 14, _, _, _, ⟨gb14, hv, q_0, q_1⟩ => exact ⟨gb14, hv, box_box q_0 hg (by decide) ht, q_1⟩
  | 15, _, hne, _, _ => exact absurd rfl hne
  | 16, _, _, _, ⟨gs16, hv, q_0, q_1⟩ => exact ⟨gs16, hv, box_box q_0 hg (by decide) ht, q_1⟩
  | 17, _, _, _, hq => exact hq
  | 18, _, _, _, ⟨q_0, q_1⟩ => exact ⟨box_box q_0 hg (by decide) ht, q_1⟩
  | k + 19, hk, _, _, _ => omega
set_option linter.unusedVariables false in
theorem r6Sp_st16 (ad : Option Addr) (nd cd : Nat) (A0 : Option Addr) (N0 c : Nat) (alg at2 sc x h nn dv : Int) (F : List Int) (V1 : StV) (G B : Nat) {W W2 : World} {g : Nat} {cs : Array Value} {fr : Nat × Nat} (hg : W.heap[g]? = some (.cells cs 29 fr)) (ht : Touch (g) (g + 1) W W2) (hge : B ≤ g) (k : Nat) (hk : k < 19) (hne : k ≠ 16) (hkill : 16 ∉ (r6Sp ad nd cd A0 N0 c alg at2 sc x h nn dv F V1 G (B)).kill k) (v : Value) (hfact : (r6Sp ad nd cd A0 N0 c alg at2 sc x h nn dv F V1 G (B)).fact k v W) : (r6Sp ad nd cd A0 N0 c alg at2 sc x h nn dv F V1 G (B)).fact k v W2 := by
  match k, hk, hne, hkill, hfact with
  | 0, _, _, _, hq => exact hq
  | 1, _, _, _, hq => exact hq
  | 2, _, _, _, hq => exact hq
  | 3, _, _, _, hq => exact hq
  | 4, _, _, _, ⟨a5, c5, hv, q_0⟩ => exact ⟨a5, c5, hv, ⟨ownsRow_box q_0.row hg (by decide) ht, q_0.byte⟩⟩
  | 5, _, _, _, hq => exact hq
  | 6, _, _, _, hq => exact hq
  | 7, _, _, _, hq => exact hq
  | 8, _, _, _, ⟨a2, c2, hv, q_0⟩ => exact ⟨a2, c2, hv, ⟨ownsRow_box q_0.row hg (by decide) ht, q_0.byte⟩⟩
  | 9, _, _, _, ⟨a2, c2, hv, q_0⟩ => exact ⟨a2, c2, hv, ⟨ownsRow_box q_0.row hg (by decide) ht, q_0.byte⟩⟩
  | 10, _, _, _, ⟨a2, c2, hv, q_0⟩ => exact ⟨a2, c2, hv, ⟨ownsRow_box q_0.row hg (by decide) ht, q_0.byte⟩⟩
  | 11, _, _, _, hq => exact hq
  | 12, _, _, _, hq => exact hq
  | 13, _, _, _, ⟨gb13, hv, q_0, q_1⟩ => exact ⟨gb13, hv, box_box q_0 hg (by decide) ht, q_1⟩
  | 14, _, _, hkill, _ => exact absurd (List.Mem.head _) hkill
  | 15, _, _, _, ⟨gs15, a2, c2, hv, q_0, q_1, q_2⟩ => exact ⟨gs15, a2, c2, hv, box_box q_0 hg (by decide) ht, q_1, ⟨ownsRow_box q_2.row hg (by decide) ht, q_2.byte⟩⟩
  | 16, _, hne, _, _ => exact absurd rfl hne
  | 17, _, _, _, hq => exact hq
  | 18, _, _, _, ⟨q_0, q_1⟩ => exact ⟨(ht.block _ (Array.getElem?_eq_some_iff.1 q_0).1 (by omega)).trans q_0, q_1⟩
  | k + 19, hk, _, _, _ => omega
/-- What is known of a region (RJ). -/
def r9Sp (A0 : Option Addr) (N0 c : Nat) (xs : List StP) (V1 : StV) (a2 : Option Addr) (c2 gst gsc G R B : Nat) : RSpec where
  m := 9
  n := 13
  slots := [63, 64, 65, 66, 67, 68, 10, 100007, 12, 100009, 100010, 100011, 100012]
  kills := [[], [4], [], [4], [], [], [], [], [], [], [], [7], []]
  pres := [[], [], [], [], [], [], [4], [], [], [], [], [], []]
  fact := fun k v w => match k with
    | 0 => v = .slice A0 N0 c
    | 1 => ∃ a1 c1 ps, v = .slice a1 N0 c1 ∧ OwnS R w a1 N0 c1 ps ∧ xsOf ps = xs
    | 2 => v = .agg #[.int .i64 V1.alg, .int .u64 V1.dg, .int .i64 V1.at2, .int .u64 V1.ky, .slice a2 V1.sg.length c2]
    | 3 => ∃ gk, v = .slice (some ⟨gk, 0, none⟩) 1 1 ∧ w.heap[gk]? = some (.cells #[.int .i64 V1.alg, .int .u64 V1.dg, .int .i64 V1.at2, .int .u64 V1.ky, .slice a2 V1.sg.length c2] 45 (0, 0))
    | 4 => ∃ a' c' ps', v = .slice a' (N0 + 1) c' ∧ OwnS B w a' (N0 + 1) c' ps' ∧ xsOf ps' = xs ++ [stOf V1]
    | 5 => v = .agg #[.int .i64 V1.t.1, .int .u64 V1.t.2.1, .int .i64 V1.t.2.2.1, .int .i64 V1.t.2.2.2]
    | 6 => ∃ a' c' ps', v = .slice a' (N0 + 1) c' ∧ OwnS B w a' (N0 + 1) c' ps' ∧ xsOf ps' = xs ++ [stOf V1]
    | 7 => w.heap[(G + 1)]? = some (.cells #[.int .i64 V1.t.1, .int .u64 V1.t.2.1, .int .i64 V1.t.2.2.1, .int .i64 V1.t.2.2.2] 29 (0, 0))
    | 8 => v = .int .i64 0
    | 9 => w.heap[gst]? = some (.cells #[.int .i64 V1.alg, .int .u64 V1.dg, .int .i64 V1.at2, .int .u64 V1.ky, .slice a2 V1.sg.length c2] 45 (0, 0))
    | 10 => w.heap[gsc]? = some (.cells #[.int .i64 V1.t.1, .int .u64 V1.t.2.1, .int .i64 V1.t.2.2.1, .int .i64 V1.t.2.2.2] 29 (0, 0)) ∧ gsc ≠ G + 1
    | 11 => w.heap[(G + 1)]? = some (.cells #[.int .i64 0, .int .u64 0, .int .i64 0, .int .i64 0] 29 (0, 0))
    | _ => Own B w a2 V1.sg.length c2 V1.sg
set_option linter.unusedVariables false in
theorem r9Sp_stb (A0 : Option Addr) (N0 c : Nat) (xs : List StP) (V1 : StV) (a2 : Option Addr) (c2 gst gsc G R B : Nat) (k : Nat) (hk : k < 13) : StB ((r9Sp A0 N0 c xs V1 a2 c2 gst gsc G R (B)).fact k) := by
  match k, hk with
  | 0, _ => exact fun _ _ _ h _ => h
  | 1, _ => exact fun _ _ _ ⟨a1, c1, ps, hv, q_0, q_1⟩ hb => ⟨a1, c1, ps, hv, q_0.kept hb, q_1⟩
  | 2, _ => exact fun _ _ _ h _ => h
  | 3, _ => exact fun _ _ _ ⟨gk, hv, q_0⟩ hb => ⟨gk, hv, below_kept q_0 hb⟩
  | 4, _ => exact fun _ _ _ ⟨a', c', ps', hv, q_0, q_1⟩ hb => ⟨a', c', ps', hv, q_0.kept hb, q_1⟩
  | 5, _ => exact fun _ _ _ h _ => h
  | 6, _ => exact fun _ _ _ ⟨a', c', ps', hv, q_0, q_1⟩ hb => ⟨a', c', ps', hv, q_0.kept hb, q_1⟩
  | 7, _ => exact fun _ _ _ q_0 hb => below_kept q_0 hb
  | 8, _ => exact fun _ _ _ h _ => h
  | 9, _ => exact fun _ _ _ q_0 hb => below_kept q_0 hb
  | 10, _ => exact fun _ _ _ ⟨q_0, q_1⟩ hb => ⟨below_kept q_0 hb, q_1⟩
  | 11, _ => exact fun _ _ _ q_0 hb => below_kept q_0 hb
  | 12, _ => exact fun _ _ _ q_0 hb => q_0.kept hb
  | k + 13, hk => omega
set_option linter.unusedVariables false in
theorem r9Sp_st7 (A0 : Option Addr) (N0 c : Nat) (xs : List StP) (V1 : StV) (a2 : Option Addr) (c2 gst gsc G R B : Nat) {W W2 : World} {cs : Array Value} {fr : Nat × Nat} (hg : W.heap[(G + 1)]? = some (.cells cs 29 fr)) (ht : Touch ((G + 1)) ((G + 1) + 1) W W2) (k : Nat) (hk : k < 13) (hne : k ≠ 7) (hkill : 7 ∉ (r9Sp A0 N0 c xs V1 a2 c2 gst gsc G R (B)).kill k) (v : Value) (hfact : (r9Sp A0 N0 c xs V1 a2 c2 gst gsc G R (B)).fact k v W) : (r9Sp A0 N0 c xs V1 a2 c2 gst gsc G R (B)).fact k v W2 := by
  match k, hk, hne, hkill, hfact with
  | 0, _, _, _, hq => exact hq
  | 1, _, _, _, ⟨a1, c1, ps, hv, q_0, q_1⟩ => exact ⟨a1, c1, ps, hv, q_0.touched hg (by decide) (by decide) ht, q_1⟩
  | 2, _, _, _, hq => exact hq
  | 3, _, _, _, ⟨gk, hv, q_0⟩ => exact ⟨gk, hv, box_box q_0 hg (by decide) ht⟩
  | 4, _, _, _, ⟨a', c', ps', hv, q_0, q_1⟩ => exact ⟨a', c', ps', hv, q_0.touched hg (by decide) (by decide) ht, q_1⟩
  | 5, _, _, _, hq => exact hq
  | 6, _, _, _, ⟨a', c', ps', hv, q_0, q_1⟩ => exact ⟨a', c', ps', hv, q_0.touched hg (by decide) (by decide) ht, q_1⟩
  | 7, _, hne, _, _ => exact absurd rfl hne
  | 8, _, _, _, hq => exact hq
  | 9, _, _, _, q_0 => exact box_box q_0 hg (by decide) ht
  | 10, _, _, _, ⟨q_0, q_1⟩ => exact ⟨(ht.block _ (Array.getElem?_eq_some_iff.1 q_0).1 (by omega)).trans q_0, q_1⟩
  | 11, _, _, hkill, _ => exact absurd (List.Mem.head _) hkill
  | 12, _, _, _, q_0 => exact ⟨ownsRow_box q_0.row hg (by decide) ht, q_0.byte⟩
  | k + 13, hk, _, _, _ => omega
set_option linter.unusedVariables false in
theorem r9Sp_st4 (A0 : Option Addr) (N0 c : Nat) (xs : List StP) (V1 : StV) (a2 : Option Addr) (c2 gst gsc G R B : Nat) {W W2 : World} {row : Option Nat} (hbR : Below R W W2) (hg : W.grownBy W2 row) (hlo : ∀ k, row = some k → R ≤ k) (hj : ∀ k, (Value.slice a2 V1.sg.length c2).ownBlock = some k → k < R) (L14 : gst < R) (L15 : gsc < R) (LG : G + 1 < R) {lq : Nat → Bool} (l6 : lq 6 = false) (k : Nat) (hk : k < 13) (hne : k ≠ 4) (hl : lq k = true) (hkill : ∀ j ∈ (r9Sp A0 N0 c xs V1 a2 c2 gst gsc G R (B)).kill k, upd lq 4 j = false) (v : Value) (hfact : (r9Sp A0 N0 c xs V1 a2 c2 gst gsc G R (B)).fact k v W) : (r9Sp A0 N0 c xs V1 a2 c2 gst gsc G R (B)).fact k v W2 := by
  match k, hk, hne, hl, hkill, hfact with
  | 0, _, _, _, _, hq => exact hq
  | 1, _, _, _, hkill, _ => exact absurd (hkill 4 (List.Mem.head _)) (by rw [upd_same]; decide)
  | 2, _, _, _, _, hq => exact hq
  | 3, _, _, _, hkill, _ => exact absurd (hkill 4 (List.Mem.head _)) (by rw [upd_same]; decide)
  | 4, _, hne, _, _, _ => exact absurd rfl hne
  | 5, _, _, _, _, hq => exact hq
  | 6, _, _, hl, _, _ => exact absurd hl (by rw [l6]; decide)
  | 7, _, _, _, _, q_0 => exact (hbR.block _ (by omega)).trans q_0
  | 8, _, _, _, _, hq => exact hq
  | 9, _, _, _, _, q_0 => exact (hbR.block _ (by omega)).trans q_0
  | 10, _, _, _, _, ⟨q_0, q_1⟩ => exact ⟨(hbR.block _ (by omega)).trans q_0, q_1⟩
  | 11, _, _, _, _, q_0 => exact (hbR.block _ (by omega)).trans q_0
  | 12, _, _, _, _, q_0 => exact own_grownGe q_0 hg hlo hj
  | k + 13, hk, _, _, _, _ => omega

set_option maxRecDepth 10000 in
set_option maxHeartbeats 4000000 in
theorem implRenew_any (ad : Option Addr) (nd cd : Nat) (doc : List Int) (A0 : Option Addr) (N0 c : Nat) (xs : List StP) (alg at2 sc x h nn : Int) (w : World) (hd : Row w ad nd doc) (hd0 : ad = none → cd = 0) (hdm : nd ≤ 9223372036854775807) (hst : Sts (fun n c => n = c ∧ n ≤ 1048576) w A0 N0 xs) (hx : U64 x) (hal : -9223372036854775808 ≤ alg ∧ alg ≤ 9223372036854775807) (hat : -9223372036854775808 ≤ at2 ∧ at2 ≤ 9223372036854775807) :
    Calls Tryz.prog 9 #[.slice ad nd cd, .slice A0 N0 c, .int .i64 alg, .int .i64 at2, .agg #[.int .i64 sc, .int .u64 x, .int .i64 h, .int .i64 nn]] w fun e w' => ∃ a2 c2, e = .returned (rnOut (rnV doc xs N0 alg at2 sc x h nn) a2 c2) ∧ (∃ ps, OwnS w.heap.size w' a2 (rnV doc xs N0 alg at2 sc x h nn).xs.length c2 ps ∧ xsOf ps = (rnV doc xs N0 alg at2 sc x h nn).xs) ∧ Below w.heap.size w w' := by
  obtain ⟨i0, hi, hz0, hz1, hz2⟩ := info_parts Tryz.infoSt
  obtain ⟨V, hV⟩ : ∃ V, V = (rnV doc xs N0 alg at2 sc x h nn) := ⟨_, rfl⟩
  obtain ⟨F, hF⟩ : ∃ F, F = covd doc xs N0 := ⟨_, rfl⟩
  obtain ⟨dv, hdv⟩ : ∃ dv, dv = dgR alg F := ⟨_, rfl⟩
  obtain ⟨V1, hV1⟩ : ∃ V1, V1 = stV alg dv at2 sc x h nn := ⟨_, rfl⟩
  have HVT : Hid (rnP doc xs N0 at2 → V = if V1.cd = 0 then ⟨xs ++ [stOf V1], V1.t, 0⟩ else rnBad V1.cd) := fun hp => by rw [hV]; unfold rnV; rw [if_pos hp, ← hF, ← hdv, ← hV1]
  have HVF : Hid (¬ rnP doc xs N0 at2 → V = rnBad 1) := fun hp => by rw [hV]; unfold rnV; rw [if_neg hp]
  have HLD : Hid (doc.length = nd) := hd.len
  have HLX : Hid (xs.length = N0) := hst.len
  have hnm := hst.max
  have HRG : Hid (U64 (stOf V1).dg ∧ U64 (stOf V1).ky) := by show _ ∧ _; rw [hV1]; exact stV_rng _ _ _ _ _ _ _ (by rw [hdv]; exact dgR_bd _ _)
  have HST : Hid (∀ W, Below w.heap.size w W → Sts (fun n c => n = c ∧ n ≤ 1048576) W A0 N0 xs) := fun W hW => hst.kept hW
  have HRD : Hid (∀ W, Below w.heap.size w W → Row W ad nd doc) := fun W hW => hd.kept hW
  have HDG : Hid (∀ W am c, Row W am F.length F → (am = none → c = 0) → F.length ≤ 1048576 → Calls Tryz.prog 26 #[.int .i64 alg, .slice am F.length c] W fun e w' => e = .returned (.int .u64 dv) ∧ Below W.heap.size W w') := by
    intro W am c h1 h2 h3
    rw [hdv]
    exact implDigestBy_any alg am F.length c F W h1 h3 h2
  have HMS : Hid (∀ W, Calls Tryz.prog 25 #[.int .i64 alg, .int .u64 dv, .int .i64 at2, .agg #[.int .i64 sc, .int .u64 x, .int .i64 h, .int .i64 nn]] W fun e w' => ∃ a2 c2, e = .returned (.tuple #[.agg #[.int .i64 V1.alg, .int .u64 V1.dg, .int .i64 V1.at2, .int .u64 V1.ky, .slice a2 V1.sg.length c2], .agg #[.int .i64 V1.t.1, .int .u64 V1.t.2.1, .int .i64 V1.t.2.2.1, .int .i64 V1.t.2.2.2], .int .i64 V1.cd]) ∧ Own W.heap.size w' a2 V1.sg.length c2 V1.sg ∧ Below W.heap.size W w') := by
    intro W
    rw [hV1]
    exact implMakeStamp_any alg dv at2 sc x h nn W (by rw [hdv]; exact dgR_bd _ _) hx hal hat
  have HFE : Hid (F = covd doc xs N0) := hF
  rw [← hV]
  clear hV hF hdv hV1 hst hd
  obtain ⟨w1, hw1⟩ : ∃ w1, w1 = (w.alloc (.cells #[.int .i64 sc, .int .u64 x, .int .i64 h, .int .i64 nn] 29)).alloc (.cells #[.int .i64 0, .int .u64 0, .int .i64 0, .int .i64 0] 29) := ⟨_, rfl⟩
  have hbb : Below w.heap.size w w1 := by rw [hw1]; exact two_below w _ _
  have HB1 : Hid (w1.heap[w.heap.size]? = some (.cells #[.int .i64 sc, .int .u64 x, .int .i64 h, .int .i64 nn] 29 (0, 0)) ∧ w1.heap[w.heap.size + 1]? = some (.cells #[.int .i64 0, .int .u64 0, .int .i64 0, .int .i64 0] 29 (0, 0))) := by show _ ∧ _; rw [hw1]; exact two_blocks w _ _
  have HW : Hid (_ = _) := hw1
  clear hw1
  go_enter Tryz.func9, Tryz.ntmps9
  go_upto_region 1 with fail
  rw [← HW.out]
  clear HW
  by_cases g1 : 4000 < nd
  case pos =>
    have z1 : (4000 : Int) < (nd : Int) := by omega
    obtain ⟨wq, hwq⟩ : ∃ wq, wq = w1 := ⟨_, rfl⟩
    subst hwq
    have HF := (show Hid (V = rnBad 1) from HVF.out (fun hp => by have h1 := hp.2.1; have h2 := HLD.out; omega))
    have HQ : Hid (wq.heap[w.heap.size + 1]? = some (.cells #[.int .i64 0, .int .u64 0, .int .i64 0, .int .i64 0] 29 (0, 0))) := HB1.out.2
    have hcq : Below w.heap.size w wq := hbb
    go_upto_region 2 with fail
    have HBB : w.heap.size ≤ wq.heap.size := hcq.size
    refine wp_region_rp (rzA 1 w.heap.size (w.heap.size)) [10, 12, 30] (w.heap.size) (fun a0 => a0.tmps.size = 69 ∧ aT a0 11 = .pointer (some ⟨(w.heap.size + 1), 0, none⟩)) rfl (by kernel_rfl) rfl ⟨rfl, rfl⟩ (rzA_stb 1 w.heap.size (w.heap.size)) ?_ ?_ ?_
    · intro k hk hk2
      match k, hk, hk2 with
      | 4, _, _ => exact HQ.out
      | 0, hk, _ => exact absurd hk (by show ¬ (4 ≤ 0); omega)
      | 1, hk, _ => exact absurd hk (by show ¬ (4 ≤ 1); omega)
      | 2, hk, _ => exact absurd hk (by show ¬ (4 ≤ 2); omega)
      | 3, hk, _ => exact absurd hk (by show ¬ (4 ≤ 3); omega)
      | k + 5, _, hk2 => exact absurd hk2 (by show ¬ (k + 5 < 5); omega)
    · rintro a0 ⟨hz, g11⟩
      refine StepsRI.cons ?_ (StepsRI.cons ?_ (StepsRI.cons ?_ (StepsRI.cons ?_ (StepsRI.nil))))
      · intro lQ b W hI hUN hED KQ hKQ
        refine opw_build 29 _ rfl #[] (by simp []) (.agg #[.int .i64 0, .int .u64 0, .int .i64 0, .int .i64 0]) (by kernel_rfl) ?_
        exact hKQ.out _ _ (hI.put 0 30 rfl rfl (by rw [hz]; decide) rfl hUN rfl HBB (rzA_stb 1 w.heap.size (w.heap.size)) (Below.refl _ _) rfl)
      · intro lQ b W hI hUN hED KQ hKQ
        exact opw_const (.slice none 0 0) rfl (hKQ.out _ _ (hI.put 1 10 rfl rfl (by rw [hz]; decide) rfl hUN rfl HBB (rzA_stb 1 w.heap.size (w.heap.size)) (Below.refl _ _) rfl))
      · intro lQ b W hI hUN hED KQ hKQ
        have hgb := (hI.vot1 4 2 (of_decide_eq_true rfl) (of_decide_eq_true rfl) hUN rfl)
        have fb := ((hI.fr.same 11 (by decide)).trans g11)
        have f := hI.got 0 (of_decide_eq_true rfl) (edge hED 0 (by kernel_rfl)) rfl
        refine wp_store_row 29 _ _ rfl ((w.heap.size + 1)) #[.int .i64 0, .int .u64 0, .int .i64 0, .int .i64 0] fb f 29 _ hgb (by kernel_rfl) rfl (by simp [Value.oneCell']) ?_
        have ht := setRow_touch W ((w.heap.size + 1)) #[.int .i64 0, .int .u64 0, .int .i64 0, .int .i64 0]
        exact hKQ.out _ _ (hI.store 2 (fun j hj => by cases hj) (hI.bel.trans (ht.below (by first | exact HGE11 | omega) (Nat.le_trans HBB hI.bel.size))) (rzA_st2 1 w.heap.size (w.heap.size) hgb ht) (setRow_heap W ((w.heap.size + 1)) _ _ _ _ hgb))
      · intro lQ b W hI hUN hED KQ hKQ
        exact opw_const (.int .i64 1) rfl (hKQ.out _ _ (hI.put 3 12 rfl rfl (by rw [hz]; decide) rfl hUN rfl HBB (rzA_stb 1 w.heap.size (w.heap.size)) (Below.refl _ _) rfl))
    · intro b W hf hb F
      have e0 := F 2 (of_decide_eq_true rfl) rfl
      have e1 := F 1 (of_decide_eq_true rfl) rfl
      have e3 := F 3 (of_decide_eq_true rfl) rfl
      replace e1 : aT b 10 = _ := e1
      replace e3 : aT b 12 = _ := e3
      rw [hf.eq]
      simp only [puts, Act.put, List.setIfInBounds_toArray, List.set_cons_zero, List.set_cons_succ, e1, e3]
      clear hf F
      go_wp2
      try simp only [Exit.inBlock, Exit.then]
      exact bodyPost_ret (results_rn rfl _ (w.heap.size + 1) _ rfl rfl _ rfl _ _ e0 rfl) rfl ⟨none, 0, by rw [HF.out]; rfl, ⟨[], by rw [HF.out]; exact ownS_none _ _, by rw [HF.out]; rfl⟩, hcq.trans hb⟩

  have z1 : ¬ ((4000 : Int) < (nd : Int)) := by omega
  by_cases g2 : 8 ≤ N0
  case pos =>
    have z2 : (8 : Int) ≤ (N0 : Int) := by omega
    obtain ⟨wq, hwq⟩ : ∃ wq, wq = w1 := ⟨_, rfl⟩
    subst hwq
    have HF := (show Hid (V = rnBad 1) from HVF.out (fun hp => by have h1 := hp.1; omega))
    have HQ : Hid (wq.heap[w.heap.size + 1]? = some (.cells #[.int .i64 0, .int .u64 0, .int .i64 0, .int .i64 0] 29 (0, 0))) := HB1.out.2
    have hcq : Below w.heap.size w wq := hbb
    go_upto_region 2 with fail
    have HBB : w.heap.size ≤ wq.heap.size := hcq.size
    refine wp_region_rp (rzA 1 w.heap.size (w.heap.size)) [10, 12, 30] (w.heap.size) (fun a0 => a0.tmps.size = 69 ∧ aT a0 11 = .pointer (some ⟨(w.heap.size + 1), 0, none⟩)) rfl (by kernel_rfl) rfl ⟨rfl, rfl⟩ (rzA_stb 1 w.heap.size (w.heap.size)) ?_ ?_ ?_
    · intro k hk hk2
      match k, hk, hk2 with
      | 4, _, _ => exact HQ.out
      | 0, hk, _ => exact absurd hk (by show ¬ (4 ≤ 0); omega)
      | 1, hk, _ => exact absurd hk (by show ¬ (4 ≤ 1); omega)
      | 2, hk, _ => exact absurd hk (by show ¬ (4 ≤ 2); omega)
      | 3, hk, _ => exact absurd hk (by show ¬ (4 ≤ 3); omega)
      | k + 5, _, hk2 => exact absurd hk2 (by show ¬ (k + 5 < 5); omega)
    · rintro a0 ⟨hz, g11⟩
      refine StepsRI.cons ?_ (StepsRI.cons ?_ (StepsRI.cons ?_ (StepsRI.cons ?_ (StepsRI.nil))))
      · intro lQ b W hI hUN hED KQ hKQ
        refine opw_build 29 _ rfl #[] (by simp []) (.agg #[.int .i64 0, .int .u64 0, .int .i64 0, .int .i64 0]) (by kernel_rfl) ?_
        exact hKQ.out _ _ (hI.put 0 30 rfl rfl (by rw [hz]; decide) rfl hUN rfl HBB (rzA_stb 1 w.heap.size (w.heap.size)) (Below.refl _ _) rfl)
      · intro lQ b W hI hUN hED KQ hKQ
        exact opw_const (.slice none 0 0) rfl (hKQ.out _ _ (hI.put 1 10 rfl rfl (by rw [hz]; decide) rfl hUN rfl HBB (rzA_stb 1 w.heap.size (w.heap.size)) (Below.refl _ _) rfl))
      · intro lQ b W hI hUN hED KQ hKQ
        have hgb := (hI.vot1 4 2 (of_decide_eq_true rfl) (of_decide_eq_true rfl) hUN rfl)
        have fb := ((hI.fr.same 11 (by decide)).trans g11)
        have f := hI.got 0 (of_decide_eq_true rfl) (edge hED 0 (by kernel_rfl)) rfl
        refine wp_store_row 29 _ _ rfl ((w.heap.size + 1)) #[.int .i64 0, .int .u64 0, .int .i64 0, .int .i64 0] fb f 29 _ hgb (by kernel_rfl) rfl (by simp [Value.oneCell']) ?_
        have ht := setRow_touch W ((w.heap.size + 1)) #[.int .i64 0, .int .u64 0, .int .i64 0, .int .i64 0]
        exact hKQ.out _ _ (hI.store 2 (fun j hj => by cases hj) (hI.bel.trans (ht.below (by first | exact HGE11 | omega) (Nat.le_trans HBB hI.bel.size))) (rzA_st2 1 w.heap.size (w.heap.size) hgb ht) (setRow_heap W ((w.heap.size + 1)) _ _ _ _ hgb))
      · intro lQ b W hI hUN hED KQ hKQ
        exact opw_const (.int .i64 1) rfl (hKQ.out _ _ (hI.put 3 12 rfl rfl (by rw [hz]; decide) rfl hUN rfl HBB (rzA_stb 1 w.heap.size (w.heap.size)) (Below.refl _ _) rfl))
    · intro b W hf hb F
      have e0 := F 2 (of_decide_eq_true rfl) rfl
      have e1 := F 1 (of_decide_eq_true rfl) rfl
      have e3 := F 3 (of_decide_eq_true rfl) rfl
      replace e1 : aT b 10 = _ := e1
      replace e3 : aT b 12 = _ := e3
      rw [hf.eq]
      simp only [puts, Act.put, List.setIfInBounds_toArray, List.set_cons_zero, List.set_cons_succ, e1, e3]
      clear hf F
      go_wp2
      try simp only [Exit.inBlock, Exit.then]
      exact bodyPost_ret (results_rn rfl _ (w.heap.size + 1) _ rfl rfl _ rfl _ _ e0 rfl) rfl ⟨none, 0, by rw [HF.out]; rfl, ⟨[], by rw [HF.out]; exact ownS_none _ _, by rw [HF.out]; rfl⟩, hcq.trans hb⟩

  have z2 : ¬ ((8 : Int) ≤ (N0 : Int)) := by omega
  go_wp2_with fail
  refine (everyStamp_any _ A0 N0 c xs _ (HST.out _ hbb)).mono ?_
  rintro e wq ⟨bo, rfl, HE, hbq⟩
  cases bo with
  | false =>
    have HF := (show Hid (V = rnBad 1) from HVF.out (fun hp => by have h1 := HE.out.2 hp.2.2.1; cases h1))
    have HQ : Hid (wq.heap[w.heap.size + 1]? = some (.cells #[.int .i64 0, .int .u64 0, .int .i64 0, .int .i64 0] 29 (0, 0))) := below_kept HB1.out.2 hbq
    have hcq : Below w.heap.size w wq := keepT hbb hbq
    go_upto_region 2 with fail
    have HBB : w.heap.size ≤ wq.heap.size := hcq.size
    refine wp_region_rp (rzA 1 w.heap.size (w.heap.size)) [10, 12, 30] (w.heap.size) (fun a0 => a0.tmps.size = 69 ∧ aT a0 11 = .pointer (some ⟨(w.heap.size + 1), 0, none⟩)) rfl (by kernel_rfl) rfl ⟨rfl, rfl⟩ (rzA_stb 1 w.heap.size (w.heap.size)) ?_ ?_ ?_
    · intro k hk hk2
      match k, hk, hk2 with
      | 4, _, _ => exact HQ.out
      | 0, hk, _ => exact absurd hk (by show ¬ (4 ≤ 0); omega)
      | 1, hk, _ => exact absurd hk (by show ¬ (4 ≤ 1); omega)
      | 2, hk, _ => exact absurd hk (by show ¬ (4 ≤ 2); omega)
      | 3, hk, _ => exact absurd hk (by show ¬ (4 ≤ 3); omega)
      | k + 5, _, hk2 => exact absurd hk2 (by show ¬ (k + 5 < 5); omega)
    · rintro a0 ⟨hz, g11⟩
      refine StepsRI.cons ?_ (StepsRI.cons ?_ (StepsRI.cons ?_ (StepsRI.cons ?_ (StepsRI.nil))))
      · intro lQ b W hI hUN hED KQ hKQ
        refine opw_build 29 _ rfl #[] (by simp []) (.agg #[.int .i64 0, .int .u64 0, .int .i64 0, .int .i64 0]) (by kernel_rfl) ?_
        exact hKQ.out _ _ (hI.put 0 30 rfl rfl (by rw [hz]; decide) rfl hUN rfl HBB (rzA_stb 1 w.heap.size (w.heap.size)) (Below.refl _ _) rfl)
      · intro lQ b W hI hUN hED KQ hKQ
        exact opw_const (.slice none 0 0) rfl (hKQ.out _ _ (hI.put 1 10 rfl rfl (by rw [hz]; decide) rfl hUN rfl HBB (rzA_stb 1 w.heap.size (w.heap.size)) (Below.refl _ _) rfl))
      · intro lQ b W hI hUN hED KQ hKQ
        have hgb := (hI.vot1 4 2 (of_decide_eq_true rfl) (of_decide_eq_true rfl) hUN rfl)
        have fb := ((hI.fr.same 11 (by decide)).trans g11)
        have f := hI.got 0 (of_decide_eq_true rfl) (edge hED 0 (by kernel_rfl)) rfl
        refine wp_store_row 29 _ _ rfl ((w.heap.size + 1)) #[.int .i64 0, .int .u64 0, .int .i64 0, .int .i64 0] fb f 29 _ hgb (by kernel_rfl) rfl (by simp [Value.oneCell']) ?_
        have ht := setRow_touch W ((w.heap.size + 1)) #[.int .i64 0, .int .u64 0, .int .i64 0, .int .i64 0]
        exact hKQ.out _ _ (hI.store 2 (fun j hj => by cases hj) (hI.bel.trans (ht.below (by first | exact HGE11 | omega) (Nat.le_trans HBB hI.bel.size))) (rzA_st2 1 w.heap.size (w.heap.size) hgb ht) (setRow_heap W ((w.heap.size + 1)) _ _ _ _ hgb))
      · intro lQ b W hI hUN hED KQ hKQ
        exact opw_const (.int .i64 1) rfl (hKQ.out _ _ (hI.put 3 12 rfl rfl (by rw [hz]; decide) rfl hUN rfl HBB (rzA_stb 1 w.heap.size (w.heap.size)) (Below.refl _ _) rfl))
    · intro b W hf hb F
      have e0 := F 2 (of_decide_eq_true rfl) rfl
      have e1 := F 1 (of_decide_eq_true rfl) rfl
      have e3 := F 3 (of_decide_eq_true rfl) rfl
      replace e1 : aT b 10 = _ := e1
      replace e3 : aT b 12 = _ := e3
      rw [hf.eq]
      simp only [puts, Act.put, List.setIfInBounds_toArray, List.set_cons_zero, List.set_cons_succ, e1, e3]
      clear hf F
      go_wp2
      try simp only [Exit.inBlock, Exit.then]
      exact bodyPost_ret (results_rn rfl _ (w.heap.size + 1) _ rfl rfl _ rfl _ _ e0 rfl) rfl ⟨none, 0, by rw [HF.out]; rfl, ⟨[], by rw [HF.out]; exact ownS_none _ _, by rw [HF.out]; rfl⟩, hcq.trans hb⟩

  | true =>
    have HAS : Hid (AllSt xs N0) := HE.out.1 rfl
    have hcq : Below w.heap.size w wq := keepT hbb hbq
    have HQ0 : Hid (wq.heap[w.heap.size]? = some (.cells #[.int .i64 sc, .int .u64 x, .int .i64 h, .int .i64 nn] 29 (0, 0))) := below_kept HB1.out.1 hbq
    have HQ : Hid (wq.heap[w.heap.size + 1]? = some (.cells #[.int .i64 0, .int .u64 0, .int .i64 0, .int .i64 0] 29 (0, 0))) := below_kept HB1.out.2 hbq
    clear HE hbq HB1 hbb
    have hlq : w.heap.size + 1 < wq.heap.size := (Array.getElem?_eq_some_iff.1 HQ.out).1
    by_cases g3 : N0 = 0
    case pos =>
      subst g3
      have HP : Hid (rnP doc xs 0 at2) := ⟨by omega, by have := HLD.out; omega, HAS.out, fun h => absurd h (Nat.lt_irrefl 0)⟩
      have HV1 := (show Hid (V = if V1.cd = 0 then ⟨xs ++ [stOf V1], V1.t, 0⟩ else rnBad V1.cd) from HVT.out HP.out)
      have hfl : F.length ≤ 13000 := by have h1 := covd_len doc xs 0 HAS.out 0 (Nat.le_refl _); have h2 := HLD.out; rw [HFE.out]; omega
      have HCO : Hid (∀ W, Below wq.heap.size wq W → Calls Tryz.prog 27 #[.slice ad nd cd, .slice A0 0 c] W fun e w' => ∃ a' c', e = .returned (.slice a' F.length c') ∧ Own W.heap.size w' a' F.length c' F ∧ Below W.heap.size W w') := by
        intro W hW
        rw [HFE.out]
        exact covered_any ad nd cd doc A0 0 c xs W (HRD.out W (keepT hcq hW)) hd0 (by omega) (HST.out W (keepT hcq hW)) HAS.out (by omega)
      go_upto_region 6 with fail
      have HBB : wq.heap.size ≤ wq.heap.size := Nat.le_refl _
      refine wp_region_ri (r6Sp ad nd cd A0 0 c alg at2 sc x h nn dv F V1 w.heap.size (wq.heap.size)) [14, 15, 16, 46, 47, 48, 49, 50, 51, 52, 53, 54, 55, 56, 57, 58] (wq.heap.size) (fun a0 => a0.tmps.size = 69 ∧ aT a0 0 = .slice ad nd cd ∧ aT a0 1 = .slice A0 0 c ∧ aT a0 2 = .int .i64 alg ∧ aT a0 3 = .int .i64 at2 ∧ aT a0 9 = .pointer (some ⟨w.heap.size, 0, none⟩)) (by kernel_rfl) rfl (by kernel_rfl) rfl ⟨rfl, rfl, rfl, rfl, rfl, rfl⟩ (r6Sp_stb ad nd cd A0 0 c alg at2 sc x h nn dv F V1 w.heap.size (wq.heap.size)) ?_ ?_ ?_
      · intro k hk hk2
        match k, hk, hk2 with
        | 18, _, _ => exact ⟨HQ0.out, by omega⟩
        | 0, hk, _ => exact absurd hk (by show ¬ (18 ≤ 0); omega)
        | 1, hk, _ => exact absurd hk (by show ¬ (18 ≤ 1); omega)
        | 2, hk, _ => exact absurd hk (by show ¬ (18 ≤ 2); omega)
        | 3, hk, _ => exact absurd hk (by show ¬ (18 ≤ 3); omega)
        | 4, hk, _ => exact absurd hk (by show ¬ (18 ≤ 4); omega)
        | 5, hk, _ => exact absurd hk (by show ¬ (18 ≤ 5); omega)
        | 6, hk, _ => exact absurd hk (by show ¬ (18 ≤ 6); omega)
        | 7, hk, _ => exact absurd hk (by show ¬ (18 ≤ 7); omega)
        | 8, hk, _ => exact absurd hk (by show ¬ (18 ≤ 8); omega)
        | 9, hk, _ => exact absurd hk (by show ¬ (18 ≤ 9); omega)
        | 10, hk, _ => exact absurd hk (by show ¬ (18 ≤ 10); omega)
        | 11, hk, _ => exact absurd hk (by show ¬ (18 ≤ 11); omega)
        | 12, hk, _ => exact absurd hk (by show ¬ (18 ≤ 12); omega)
        | 13, hk, _ => exact absurd hk (by show ¬ (18 ≤ 13); omega)
        | 14, hk, _ => exact absurd hk (by show ¬ (18 ≤ 14); omega)
        | 15, hk, _ => exact absurd hk (by show ¬ (18 ≤ 15); omega)
        | 16, hk, _ => exact absurd hk (by show ¬ (18 ≤ 16); omega)
        | 17, hk, _ => exact absurd hk (by show ¬ (18 ≤ 17); omega)
        | k + 19, _, hk2 => exact absurd hk2 (by show ¬ (k + 19 < 19); omega)
      · rintro a0 ⟨hz, g0, g1, g2, g3, g9⟩
        refine StepsRI.cons ?_ (StepsRI.cons ?_ (StepsRI.cons ?_ (StepsRI.cons ?_ (StepsRI.cons ?_ (StepsRI.cons ?_ (StepsRI.cons ?_ (StepsRI.cons ?_ (StepsRI.cons ?_ (StepsRI.cons ?_ (StepsRI.cons ?_ (StepsRI.cons ?_ (StepsRI.cons ?_ (StepsRI.cons ?_ (StepsRI.cons ?_ (StepsRI.cons ?_ (StepsRI.cons ?_ (StepsRI.cons ?_ (StepsRI.nil))))))))))))))))))
        · intro lQ b W hI hUN hED KQ hKQ
          exact opw_move 2 rfl (hKQ.out _ _ (hI.put 0 47 rfl rfl (by rw [hz]; decide) rfl hUN rfl HBB (r6Sp_stb ad nd cd A0 0 c alg at2 sc x h nn dv F V1 w.heap.size (wq.heap.size)) (Below.refl _ _) ((hI.fr.same 2 (by decide)).trans g2)))
        · intro lQ b W hI hUN hED KQ hKQ
          exact opw_move 2 rfl (hKQ.out _ _ (hI.put 1 48 rfl rfl (by rw [hz]; decide) rfl hUN rfl HBB (r6Sp_stb ad nd cd A0 0 c alg at2 sc x h nn dv F V1 w.heap.size (wq.heap.size)) (Below.refl _ _) ((hI.fr.same 2 (by decide)).trans g2)))
        · intro lQ b W hI hUN hED KQ hKQ
          exact opw_move 0 rfl (hKQ.out _ _ (hI.put 2 49 rfl rfl (by rw [hz]; decide) rfl hUN rfl HBB (r6Sp_stb ad nd cd A0 0 c alg at2 sc x h nn dv F V1 w.heap.size (wq.heap.size)) (Below.refl _ _) ((hI.fr.same 0 (by decide)).trans g0)))
        · intro lQ b W hI hUN hED KQ hKQ
          exact opw_move 1 rfl (hKQ.out _ _ (hI.put 3 50 rfl rfl (by rw [hz]; decide) rfl hUN rfl HBB (r6Sp_stb ad nd cd A0 0 c alg at2 sc x h nn dv F V1 w.heap.size (wq.heap.size)) (Below.refl _ _) ((hI.fr.same 1 (by decide)).trans g1)))
        · intro lQ b W hI hUN hED KQ hKQ
          have f0 := hI.got 2 (of_decide_eq_true rfl) (edge hED 2 (by kernel_rfl)) rfl
          replace f0 : aT b 49 = .slice ad nd cd := f0
          have f1 := hI.got 3 (of_decide_eq_true rfl) (edge hED 3 (by kernel_rfl)) rfl
          replace f1 : aT b 50 = .slice A0 0 c := f1
          refine opw_call 27 #[.tmp 49, .tmp 50] _ _ _ rfl Tryz.func27 (by kernel_rfl) rfl #[.slice ad nd cd, .slice A0 0 c] (by simp [ev, f0, f1]) ?_
          refine (HCO.out W hI.bel).mono ?_
          rintro e W2 ⟨a5, c5, rfl, ho, hb⟩
          exact ⟨_, rfl, hKQ.out _ _ (hI.put 4 51 rfl rfl (by rw [hz]; decide) rfl hUN rfl HBB (r6Sp_stb ad nd cd A0 0 c alg at2 sc x h nn dv F V1 w.heap.size (wq.heap.size)) hb ⟨a5, c5, rfl, ho.mono (Nat.le_trans HBB hI.bel.size)⟩)⟩
        · intro lQ b W hI hUN hED KQ hKQ
          have f0 := hI.got 1 (of_decide_eq_true rfl) (edge hED 1 (by kernel_rfl)) rfl
          replace f0 : aT b 48 = .int .i64 alg := f0
          have f1 := hI.got 4 (of_decide_eq_true rfl) (edge hED 4 (by kernel_rfl)) rfl
          obtain ⟨a5, c5, f1, o1_0⟩ := f1
          replace f1 : aT b 51 = .slice a5 F.length c5 := f1
          refine opw_call 26 #[.tmp 48, .tmp 51] _ _ _ rfl Tryz.func26 (by kernel_rfl) rfl #[.int .i64 alg, .slice a5 F.length c5] (by simp [ev, f0, f1]) ?_
          refine (HDG.out W a5 c5 o1_0.toRow o1_0.nil (by omega)).mono ?_
          rintro e W2 ⟨rfl, hb⟩
          exact ⟨_, rfl, hKQ.out _ _ (hI.put 5 52 rfl rfl (by rw [hz]; decide) rfl hUN rfl HBB (r6Sp_stb ad nd cd A0 0 c alg at2 sc x h nn dv F V1 w.heap.size (wq.heap.size)) hb rfl)⟩
        · intro lQ b W hI hUN hED KQ hKQ
          exact opw_move 3 rfl (hKQ.out _ _ (hI.put 6 53 rfl rfl (by rw [hz]; decide) rfl hUN rfl HBB (r6Sp_stb ad nd cd A0 0 c alg at2 sc x h nn dv F V1 w.heap.size (wq.heap.size)) (Below.refl _ _) ((hI.fr.same 3 (by decide)).trans g3)))
        · intro lQ b W hI hUN hED KQ hKQ
          have hg := (hI.vot 18 (of_decide_eq_true rfl) (of_decide_eq_true rfl) rfl).1
          refine wp_load_row 29 _ rfl (w.heap.size) ((hI.fr.same 9 (by decide)).trans g9) 29 #[.int .i64 sc, .int .u64 x, .int .i64 h, .int .i64 nn] (0, 0) _ hg Tryz.underlying29 rfl (by kernel_rfl) ?_
          exact hKQ.out _ _ (hI.put 7 54 rfl rfl (by rw [hz]; decide) rfl hUN rfl HBB (r6Sp_stb ad nd cd A0 0 c alg at2 sc x h nn dv F V1 w.heap.size (wq.heap.size)) (Below.refl _ _) rfl)
        · intro lQ b W hI hUN hED KQ hKQ
          have f0 := hI.got 0 (of_decide_eq_true rfl) (edge hED 0 (by kernel_rfl)) rfl
          replace f0 : aT b 47 = .int .i64 alg := f0
          have f1 := hI.got 5 (of_decide_eq_true rfl) (edge hED 5 (by kernel_rfl)) rfl
          replace f1 : aT b 52 = .int .u64 dv := f1
          have f2 := hI.got 6 (of_decide_eq_true rfl) (edge hED 6 (by kernel_rfl)) rfl
          replace f2 : aT b 53 = .int .i64 at2 := f2
          have f3 := hI.got 7 (of_decide_eq_true rfl) (edge hED 7 (by kernel_rfl)) rfl
          replace f3 : aT b 54 = .agg #[.int .i64 sc, .int .u64 x, .int .i64 h, .int .i64 nn] := f3
          refine opw_call 25 #[.tmp 47, .tmp 52, .tmp 53, .tmp 54] _ _ _ rfl Tryz.func25 (by kernel_rfl) rfl #[.int .i64 alg, .int .u64 dv, .int .i64 at2, .agg #[.int .i64 sc, .int .u64 x, .int .i64 h, .int .i64 nn]] (by simp [ev, f0, f1, f2, f3]) ?_
          refine (HMS.out W).mono ?_
          rintro e W2 ⟨a2, c2, rfl, ho, hb⟩
          exact ⟨_, rfl, hKQ.out _ _ (hI.put 8 55 rfl rfl (by rw [hz]; decide) rfl hUN rfl HBB (r6Sp_stb ad nd cd A0 0 c alg at2 sc x h nn dv F V1 w.heap.size (wq.heap.size)) hb ⟨a2, c2, rfl, ho.mono (Nat.le_trans HBB hI.bel.size)⟩)⟩
        · intro lQ b W hI hUN hED KQ hKQ
          have f := hI.got 8 (of_decide_eq_true rfl) (edge hED 8 (by kernel_rfl)) rfl
          exact opw_move 55 rfl (hKQ.out _ _ (hI.put 9 46 rfl rfl (by rw [hz]; decide) rfl hUN rfl HBB (r6Sp_stb ad nd cd A0 0 c alg at2 sc x h nn dv F V1 w.heap.size (wq.heap.size)) (Below.refl _ _) f))
        · intro lQ b W hI hUN hED KQ hKQ
          have f := hI.got 9 (of_decide_eq_true rfl) (edge hED 9 (by kernel_rfl)) rfl
          obtain ⟨a2, c2, f, o_0⟩ := f
          exact opw_extract 46 0 rfl _ _ f rfl (hKQ.out _ _ (hI.put 10 56 rfl rfl (by rw [hz]; decide) rfl hUN rfl HBB (r6Sp_stb ad nd cd A0 0 c alg at2 sc x h nn dv F V1 w.heap.size (wq.heap.size)) (Below.refl _ _) ⟨a2, c2, rfl, o_0⟩))
        · intro lQ b W hI hUN hED KQ hKQ
          have f := hI.got 9 (of_decide_eq_true rfl) (edge hED 9 (by kernel_rfl)) rfl
          obtain ⟨a2, c2, f, o_0⟩ := f
          exact opw_extract 46 1 rfl _ _ f rfl (hKQ.out _ _ (hI.put 11 57 rfl rfl (by rw [hz]; decide) rfl hUN rfl HBB (r6Sp_stb ad nd cd A0 0 c alg at2 sc x h nn dv F V1 w.heap.size (wq.heap.size)) (Below.refl _ _) rfl))
        · intro lQ b W hI hUN hED KQ hKQ
          have f := hI.got 9 (of_decide_eq_true rfl) (edge hED 9 (by kernel_rfl)) rfl
          obtain ⟨a2, c2, f, o_0⟩ := f
          exact opw_extract 46 2 rfl _ _ f rfl (hKQ.out _ _ (hI.put 12 58 rfl rfl (by rw [hz]; decide) rfl hUN rfl HBB (r6Sp_stb ad nd cd A0 0 c alg at2 sc x h nn dv F V1 w.heap.size (wq.heap.size)) (Below.refl _ _) rfl))
        · intro lQ b W hI hUN hED KQ hKQ
          refine opw_value (w' := W.alloc (.cells #[.int .i64 0, .int .u64 0, .int .i64 0, .int .u64 0, .slice none 0 0] 45)) (.pointer (some ⟨W.heap.size, 0, none⟩)) (by kernel_rfl) ?_
          exact hKQ.out _ _ (hI.put 13 14 rfl rfl (by rw [hz]; decide) rfl hUN rfl HBB (r6Sp_stb ad nd cd A0 0 c alg at2 sc x h nn dv F V1 w.heap.size (wq.heap.size)) ((Below.refl _ _).alloc (Nat.le_refl _) _) ⟨W.heap.size, rfl, heap_alloc_new W _, Nat.le_trans HBB hI.bel.size⟩)
        · intro lQ b W hI hUN hED KQ hKQ
          refine opw_value (w' := W.alloc (.cells #[.int .i64 0, .int .u64 0, .int .i64 0, .int .i64 0] 29)) (.pointer (some ⟨W.heap.size, 0, none⟩)) (by kernel_rfl) ?_
          exact hKQ.out _ _ (hI.put 14 15 rfl rfl (by rw [hz]; decide) rfl hUN rfl HBB (r6Sp_stb ad nd cd A0 0 c alg at2 sc x h nn dv F V1 w.heap.size (wq.heap.size)) ((Below.refl _ _).alloc (Nat.le_refl _) _) ⟨W.heap.size, rfl, heap_alloc_new W _, Nat.le_trans HBB hI.bel.size⟩)
        · intro lQ b W hI hUN hED KQ hKQ
          obtain ⟨g, fb, hgb, hge⟩ := hI.got1 13 15 (of_decide_eq_true rfl) (edge hED 13 (by kernel_rfl)) hUN rfl
          have f := hI.got 10 (of_decide_eq_true rfl) (edge hED 10 (by kernel_rfl)) rfl
          obtain ⟨a2, c2, f, o_0⟩ := f
          refine wp_store_row 45 _ _ rfl g #[.int .i64 V1.alg, .int .u64 V1.dg, .int .i64 V1.at2, .int .u64 V1.ky, .slice a2 V1.sg.length c2] fb f 45 _ hgb (by kernel_rfl) rfl (by simp [Value.oneCell']) ?_
          have ht := setRow_touch W g #[.int .i64 V1.alg, .int .u64 V1.dg, .int .i64 V1.at2, .int .u64 V1.ky, .slice a2 V1.sg.length c2]
          exact hKQ.out _ _ (hI.store 15 (fun j hj => by
              rcases List.mem_singleton.1 hj with rfl
              exact edge hED 13 (by kernel_rfl)) (hI.bel.trans (ht.below hge (Nat.le_trans HBB hI.bel.size))) (r6Sp_st15 ad nd cd A0 0 c alg at2 sc x h nn dv F V1 w.heap.size (wq.heap.size) hgb ht hge) ⟨g, a2, c2, fb, (setRow_heap W g _ _ _ _ hgb), hge, ⟨ownsRow_box o_0.row hgb (by decide) ht, o_0.byte⟩⟩)
        · intro lQ b W hI hUN hED KQ hKQ
          obtain ⟨g, fb, hgb, hge⟩ := hI.got1 14 16 (of_decide_eq_true rfl) (edge hED 14 (by kernel_rfl)) hUN rfl
          have f := hI.got 11 (of_decide_eq_true rfl) (edge hED 11 (by kernel_rfl)) rfl
          refine wp_store_row 29 _ _ rfl g #[.int .i64 V1.t.1, .int .u64 V1.t.2.1, .int .i64 V1.t.2.2.1, .int .i64 V1.t.2.2.2] fb f 29 _ hgb (by kernel_rfl) rfl (by simp [Value.oneCell']) ?_
          have ht := setRow_touch W g #[.int .i64 V1.t.1, .int .u64 V1.t.2.1, .int .i64 V1.t.2.2.1, .int .i64 V1.t.2.2.2]
          exact hKQ.out _ _ (hI.store 16 (fun j hj => by
              rcases List.mem_singleton.1 hj with rfl
              exact edge hED 14 (by kernel_rfl)) (hI.bel.trans (ht.below hge (Nat.le_trans HBB hI.bel.size))) (r6Sp_st16 ad nd cd A0 0 c alg at2 sc x h nn dv F V1 w.heap.size (wq.heap.size) hgb ht hge) ⟨g, fb, (setRow_heap W g _ _ _ _ hgb), hge⟩)
        · intro lQ b W hI hUN hED KQ hKQ
          have f := hI.got 12 (of_decide_eq_true rfl) (edge hED 12 (by kernel_rfl)) rfl
          exact opw_assign 58 rfl (hKQ.out _ _ (hI.put 17 16 rfl rfl (by rw [hz]; decide) rfl hUN rfl HBB (r6Sp_stb ad nd cd A0 0 c alg at2 sc x h nn dv F V1 w.heap.size (wq.heap.size)) (Below.refl _ _) f))
      · intro b W hf hb F
        obtain ⟨gst, a2, c2, e14, h14, hgst, ho⟩ := F 15 (of_decide_eq_true rfl) rfl
        obtain ⟨gsc, e15, h15, hgsc⟩ := F 16 (of_decide_eq_true rfl) rfl
        have e16 := F 17 (of_decide_eq_true rfl) rfl
        replace e14 : aT b 14 = _ := e14
        replace e15 : aT b 15 = _ := e15
        replace e16 : aT b 16 = _ := e16
        obtain ⟨w6, hw6⟩ : ∃ w6, w6 = W := ⟨_, rfl⟩
        subst hw6
        have H6R : Hid (w6.heap[w.heap.size + 1]? = some (.cells #[.int .i64 0, .int .u64 0, .int .i64 0, .int .i64 0] 29 (0, 0)) ∧ w6.heap[gst]? = some (.cells #[.int .i64 V1.alg, .int .u64 V1.dg, .int .i64 V1.at2, .int .u64 V1.ky, .slice a2 V1.sg.length c2] 45 (0, 0)) ∧ w6.heap[gsc]? = some (.cells #[.int .i64 V1.t.1, .int .u64 V1.t.2.1, .int .i64 V1.t.2.2.1, .int .i64 V1.t.2.2.2] 29 (0, 0))) := ⟨below_kept HQ.out hb, h14, h15⟩
        have hc6 := keepT hcq hb
        have L14 : gst < w6.heap.size := (Array.getElem?_eq_some_iff.1 h14).1
        have L15 : gsc < w6.heap.size := (Array.getElem?_eq_some_iff.1 h15).1
        have LG : w.heap.size + 1 < w6.heap.size := (Array.getElem?_eq_some_iff.1 H6R.out.1).1
        have HO6 : Hid (Own w.heap.size w6 a2 V1.sg.length c2 V1.sg) := ho.mono hcq.size
        have HJ : Hid (∀ k, (Value.slice a2 V1.sg.length c2).ownBlock = some k → k < w6.heap.size) := fun k hk => (ho.row.lt k hk).2
        rw [hf.eq]
        simp only [puts, Act.put, List.setIfInBounds_toArray, List.set_cons_zero, List.set_cons_succ, e14, e15, e16]
        clear hf F e14 e15 e16 h14 h15 ho hb
        generalize aT b = AT
        clear b
        go_upto_region 7 with fail
        by_cases hc7 : V1.cd = 0
        case neg =>
          have HF := (show Hid (V = rnBad V1.cd) by show _ = _; rw [HV1.out, if_neg hc7])
          have z5 : (V1.cd != 0) = true := by simp [hc7]
          go_upto_region 8 with fail
          have HBB : w.heap.size ≤ w6.heap.size := by omega
          refine wp_region_rp (rzC V1.cd w.heap.size (w.heap.size)) [10, 12, 61, 62] (w.heap.size) (fun a0 => a0.tmps.size = 69 ∧ aT a0 11 = .pointer (some ⟨(w.heap.size + 1), 0, none⟩) ∧ aT a0 16 = .int .i64 V1.cd) rfl (by kernel_rfl) rfl ⟨rfl, rfl, rfl⟩ (rzC_stb V1.cd w.heap.size (w.heap.size)) ?_ ?_ ?_
          · intro k hk hk2
            match k, hk, hk2 with
            | 5, _, _ => exact H6R.out.1
            | 0, hk, _ => exact absurd hk (by show ¬ (5 ≤ 0); omega)
            | 1, hk, _ => exact absurd hk (by show ¬ (5 ≤ 1); omega)
            | 2, hk, _ => exact absurd hk (by show ¬ (5 ≤ 2); omega)
            | 3, hk, _ => exact absurd hk (by show ¬ (5 ≤ 3); omega)
            | 4, hk, _ => exact absurd hk (by show ¬ (5 ≤ 4); omega)
            | k + 6, _, hk2 => exact absurd hk2 (by show ¬ (k + 6 < 6); omega)
          · rintro a0 ⟨hz, g11, g16⟩
            refine StepsRI.cons ?_ (StepsRI.cons ?_ (StepsRI.cons ?_ (StepsRI.cons ?_ (StepsRI.cons ?_ (StepsRI.nil)))))
            · intro lQ b W hI hUN hED KQ hKQ
              refine opw_build 29 _ rfl #[] (by simp []) (.agg #[.int .i64 0, .int .u64 0, .int .i64 0, .int .i64 0]) (by kernel_rfl) ?_
              exact hKQ.out _ _ (hI.put 0 61 rfl rfl (by rw [hz]; decide) rfl hUN rfl HBB (rzC_stb V1.cd w.heap.size (w.heap.size)) (Below.refl _ _) rfl)
            · intro lQ b W hI hUN hED KQ hKQ
              exact opw_move 16 rfl (hKQ.out _ _ (hI.put 1 62 rfl rfl (by rw [hz]; decide) rfl hUN rfl HBB (rzC_stb V1.cd w.heap.size (w.heap.size)) (Below.refl _ _) ((hI.fr.same 16 (by decide)).trans g16)))
            · intro lQ b W hI hUN hED KQ hKQ
              exact opw_const (.slice none 0 0) rfl (hKQ.out _ _ (hI.put 2 10 rfl rfl (by rw [hz]; decide) rfl hUN rfl HBB (rzC_stb V1.cd w.heap.size (w.heap.size)) (Below.refl _ _) rfl))
            · intro lQ b W hI hUN hED KQ hKQ
              have hgb := (hI.vot1 5 3 (of_decide_eq_true rfl) (of_decide_eq_true rfl) hUN rfl)
              have fb := ((hI.fr.same 11 (by decide)).trans g11)
              have f := hI.got 0 (of_decide_eq_true rfl) (edge hED 0 (by kernel_rfl)) rfl
              refine wp_store_row 29 _ _ rfl ((w.heap.size + 1)) #[.int .i64 0, .int .u64 0, .int .i64 0, .int .i64 0] fb f 29 _ hgb (by kernel_rfl) rfl (by simp [Value.oneCell']) ?_
              have ht := setRow_touch W ((w.heap.size + 1)) #[.int .i64 0, .int .u64 0, .int .i64 0, .int .i64 0]
              exact hKQ.out _ _ (hI.store 3 (fun j hj => by cases hj) (hI.bel.trans (ht.below (by first | exact HGE11 | omega) (Nat.le_trans HBB hI.bel.size))) (rzC_st3 V1.cd w.heap.size (w.heap.size) hgb ht) (setRow_heap W ((w.heap.size + 1)) _ _ _ _ hgb))
            · intro lQ b W hI hUN hED KQ hKQ
              have f := hI.got 1 (of_decide_eq_true rfl) (edge hED 1 (by kernel_rfl)) rfl
              exact opw_assign 62 rfl (hKQ.out _ _ (hI.put 4 12 rfl rfl (by rw [hz]; decide) rfl hUN rfl HBB (rzC_stb V1.cd w.heap.size (w.heap.size)) (Below.refl _ _) f))
          · intro b W hf hb F
            have e0 := F 3 (of_decide_eq_true rfl) rfl
            have e1 := F 2 (of_decide_eq_true rfl) rfl
            have e3 := F 4 (of_decide_eq_true rfl) rfl
            replace e1 : aT b 10 = _ := e1
            replace e3 : aT b 12 = _ := e3
            rw [hf.eq]
            simp only [puts, Act.put, List.setIfInBounds_toArray, List.set_cons_zero, List.set_cons_succ, e1, e3]
            clear hf F
            go_wp2
            try simp only [Exit.inBlock, Exit.then]
            exact bodyPost_ret (results_rn rfl _ (w.heap.size + 1) _ rfl rfl _ rfl _ _ e0 rfl) rfl ⟨none, 0, by rw [HF.out]; rfl, ⟨[], by rw [HF.out]; exact ownS_none _ _, by rw [HF.out]; rfl⟩, hc6.trans hb⟩
  
        case pos =>
          have HF := (show Hid (V = ⟨xs ++ [stOf V1], V1.t, 0⟩) by show _ = _; rw [HV1.out, if_pos hc7])
          have z5 : (V1.cd != 0) = false := by simp [hc7]
          clear hc7
          go_upto_region 9 with fail
          have HBB : w.heap.size ≤ w6.heap.size := by omega
          have hby := hc6
          refine wp_region_ri (r9Sp A0 0 c xs V1 a2 c2 gst gsc w.heap.size w6.heap.size (w.heap.size)) [10, 12, 63, 64, 65, 66, 67, 68] (w.heap.size) (fun a0 => a0.tmps.size = 69 ∧ aT a0 1 = .slice A0 0 c ∧ aT a0 11 = .pointer (some ⟨(w.heap.size + 1), 0, none⟩) ∧ aT a0 14 = .pointer (some ⟨gst, 0, none⟩) ∧ aT a0 15 = .pointer (some ⟨gsc, 0, none⟩)) (by kernel_rfl) rfl (by kernel_rfl) rfl ⟨rfl, rfl, rfl, rfl, rfl⟩ (r9Sp_stb A0 0 c xs V1 a2 c2 gst gsc w.heap.size w6.heap.size (w.heap.size)) ?_ ?_ ?_
          · intro k hk hk2
            match k, hk, hk2 with
            | 9, _, _ => exact H6R.out.2.1
            | 10, _, _ => exact ⟨H6R.out.2.2, by omega⟩
            | 11, _, _ => exact H6R.out.1
            | 12, _, _ => exact (show Own w.heap.size w6 a2 V1.sg.length c2 V1.sg from HO6.out)
            | 0, hk, _ => exact absurd hk (by show ¬ (9 ≤ 0); omega)
            | 1, hk, _ => exact absurd hk (by show ¬ (9 ≤ 1); omega)
            | 2, hk, _ => exact absurd hk (by show ¬ (9 ≤ 2); omega)
            | 3, hk, _ => exact absurd hk (by show ¬ (9 ≤ 3); omega)
            | 4, hk, _ => exact absurd hk (by show ¬ (9 ≤ 4); omega)
            | 5, hk, _ => exact absurd hk (by show ¬ (9 ≤ 5); omega)
            | 6, hk, _ => exact absurd hk (by show ¬ (9 ≤ 6); omega)
            | 7, hk, _ => exact absurd hk (by show ¬ (9 ≤ 7); omega)
            | 8, hk, _ => exact absurd hk (by show ¬ (9 ≤ 8); omega)
            | k + 13, _, hk2 => exact absurd hk2 (by show ¬ (k + 13 < 13); omega)
          · rintro a0 ⟨hz, g1, g11, g14, g15⟩
            refine StepsRI.cons ?_ (StepsRI.cons ?_ (StepsRI.cons ?_ (StepsRI.cons ?_ (StepsRI.cons ?_ (StepsRI.cons ?_ (StepsRI.cons ?_ (StepsRI.cons ?_ (StepsRI.cons ?_ (StepsRI.nil)))))))))
            · intro lQ b W hI hUN hED KQ hKQ
              exact opw_move 1 rfl (hKQ.out _ _ (hI.put 0 63 rfl rfl (by rw [hz]; decide) rfl hUN rfl HBB (r9Sp_stb A0 0 c xs V1 a2 c2 gst gsc w.heap.size w6.heap.size (w.heap.size)) (Below.refl _ _) ((hI.fr.same 1 (by decide)).trans g1)))
            · intro lQ b W hI hUN hED KQ hKQ
              have f0 : aT b 63 = .slice A0 0 c := hI.got 0 (of_decide_eq_true rfl) (edge hED 0 (by kernel_rfl)) rfl
              refine opw_call 28 #[.tmp 63, .func 29] _ _ _ rfl Tryz.func28 (by kernel_rfl) rfl #[.slice A0 0 c, .func (Fn.func 29) #[] #[]] (by simp [ev, f0]; rfl) ?_
              refine (eachClone_any A0 0 c xs W (HST.out W (hby.trans hI.bel)) (by omega)).mono ?_
              rintro e W2 ⟨a1, c1, ps, rfl, ⟨ho, hxs⟩, hb⟩
              exact ⟨_, rfl, hKQ.out _ _ (hI.put 1 64 rfl rfl (by rw [hz]; decide) rfl hUN rfl HBB (r9Sp_stb A0 0 c xs V1 a2 c2 gst gsc w.heap.size w6.heap.size (w.heap.size)) hb ⟨a1, c1, ps, rfl, ho.mono hI.bel.size, hxs⟩)⟩
            · intro lQ b W hI hUN hED KQ hKQ
              have hg := (hI.vot 9 (of_decide_eq_true rfl) (of_decide_eq_true rfl) rfl)
              refine wp_load_row 45 _ rfl (gst) ((hI.fr.same 14 (by decide)).trans g14) 45 #[.int .i64 V1.alg, .int .u64 V1.dg, .int .i64 V1.at2, .int .u64 V1.ky, .slice a2 V1.sg.length c2] (0, 0) _ hg Tryz.underlying45 rfl (by kernel_rfl) ?_
              exact hKQ.out _ _ (hI.put 2 65 rfl rfl (by rw [hz]; decide) rfl hUN rfl HBB (r9Sp_stb A0 0 c xs V1 a2 c2 gst gsc w.heap.size w6.heap.size (w.heap.size)) (Below.refl _ _) rfl)
            · intro lQ b W hI hUN hED KQ hKQ
              have f := hI.got 2 (of_decide_eq_true rfl) (edge hED 2 (by kernel_rfl)) rfl
              replace f : aT b 65 = .agg #[.int .i64 V1.alg, .int .u64 V1.dg, .int .i64 V1.at2, .int .u64 V1.ky, .slice a2 V1.sg.length c2] := f
              refine opw_buildSlice _ 1 _ rfl #[(0, .agg #[.int .i64 V1.alg, .int .u64 V1.dg, .int .i64 V1.at2, .int .u64 V1.ky, .slice a2 V1.sg.length c2])] (by simp [ev, f]) (.slice (some ⟨W.heap.size, 0, none⟩) 1 1) (W.alloc (.cells #[.int .i64 V1.alg, .int .u64 V1.dg, .int .i64 V1.at2, .int .u64 V1.ky, .slice a2 V1.sg.length c2] 45)) (by kernel_rfl) ?_
              exact hKQ.out _ _ (hI.put 3 66 rfl rfl (by rw [hz]; decide) rfl hUN rfl HBB (r9Sp_stb A0 0 c xs V1 a2 c2 gst gsc w.heap.size w6.heap.size (w.heap.size)) ((Below.refl _ _).alloc (Nat.le_refl _) _) ⟨W.heap.size, rfl, heap_alloc_new W _⟩)
            · intro lQ b W hI hUN hED KQ hKQ
              obtain ⟨a1, c1, ps, f0, ho, hxs⟩ := hI.got1 1 4 (of_decide_eq_true rfl) (edge hED 1 (by kernel_rfl)) hUN rfl
              replace f0 : aT b 64 = .slice a1 0 c1 := f0
              obtain ⟨gk, f1, hgk⟩ := hI.got1 3 4 (of_decide_eq_true rfl) (edge hED 3 (by kernel_rfl)) hUN rfl
              replace f1 : aT b 66 = .slice (some ⟨gk, 0, none⟩) 1 1 := f1
              have l6 : lQ 6 = false := by
                cases h : lQ 6 with
                | false => rfl
                | true =>
                  have h2 := hI.cl 6 (of_decide_eq_true rfl) h 4 (List.Mem.head _)
                  rw [show lQ 4 = false from hUN] at h2
                  cases h2
              have hsg := hI.vot 12 (of_decide_eq_true rfl) (of_decide_eq_true rfl) rfl
              have hRW : w6.heap.size ≤ W.heap.size := hI.bel.size
              refine opw_append_st 64 66 28 rfl w6.heap.size 45 i0 _ 5 56 Tryz.underlying28 hi hz0 hz1 hz2 rfl (by decide) (.slice a1 0 c1) 0 _ f0 ho.row ⟨gk, 0, none⟩ 1 1 [.int .i64 V1.alg, .int .u64 V1.dg, .int .i64 V1.at2, .int .u64 V1.ky, .slice a2 V1.sg.length c2] f1 rfl (cells_of5 hgk) (by intro u hu; simp only [List.mem_cons, List.not_mem_nil, or_false] at hu; rcases hu with rfl | rfl | rfl | rfl | rfl <;> rfl) (by unfold maxLen; omega) (by omega) hRW ?_
              intro v' w' hv' hg'
              obtain ⟨a', c', rfl⟩ := owns_shapeR hv'
              have hlo : ∀ k, (Value.slice a1 0 c1).ownBlock = some k → w6.heap.size ≤ k := fun k hk => (ho.row.lt k hk).1
              have hbR : Below w6.heap.size W w' := (Below.refl _ _).grown hg' hRW hlo
              have hN : OwnS w.heap.size w' a' (0 + 1) c' (ps ++ [((a2, V1.sg.length, c2), stOf V1)]) := (ho.mono HBB).appended (p := ((a2, V1.sg.length, c2), stOf V1)) hsg HRG.out (fun j k hj h1 h2 => by have e1 := ((ho.each j hj).row.lt k h1).1; have e2 := HJ.out k h2; omega) (by rw [List.flatMap_append]; exact ownsRow_mono hv' HBB) hg'
              exact hKQ.out _ _ (hI.turn 4 67 (fun j hj => by cases hj) rfl (by rw [hz]; decide) rfl hUN rfl (hI.bel.trans (hbR.mono HBB)) (r9Sp_st4 A0 0 c xs V1 a2 c2 gst gsc w.heap.size w6.heap.size w.heap.size hbR hg' hlo HJ.out L14 L15 LG l6) ⟨a', c', ps ++ [((a2, V1.sg.length, c2), stOf V1)], rfl, hN, by simp [xsOf, ← hxs]⟩)
            · intro lQ b W hI hUN hED KQ hKQ
              have hg := (hI.vot 10 (of_decide_eq_true rfl) (of_decide_eq_true rfl) rfl).1
              refine wp_load_row 29 _ rfl (gsc) ((hI.fr.same 15 (by decide)).trans g15) 29 #[.int .i64 V1.t.1, .int .u64 V1.t.2.1, .int .i64 V1.t.2.2.1, .int .i64 V1.t.2.2.2] (0, 0) _ hg Tryz.underlying29 rfl (by kernel_rfl) ?_
              exact hKQ.out _ _ (hI.put 5 68 rfl rfl (by rw [hz]; decide) rfl hUN rfl HBB (r9Sp_stb A0 0 c xs V1 a2 c2 gst gsc w.heap.size w6.heap.size (w.heap.size)) (Below.refl _ _) rfl)
            · intro lQ b W hI hUN hED KQ hKQ
              have f := hI.got 4 (of_decide_eq_true rfl) (edge hED 4 (by kernel_rfl)) rfl
              exact opw_assign 67 rfl (hKQ.out _ _ (hI.putp 6 10 (fun j hj => by rcases List.mem_singleton.1 hj with rfl; exact (edge hED 4 (by kernel_rfl))) rfl (by rw [hz]; decide) rfl hUN rfl HBB (r9Sp_stb A0 0 c xs V1 a2 c2 gst gsc w.heap.size w6.heap.size (w.heap.size)) (Below.refl _ _) f))
            · intro lQ b W hI hUN hED KQ hKQ
              have hgb := (hI.vot1 11 7 (of_decide_eq_true rfl) (of_decide_eq_true rfl) hUN rfl)
              have fb := ((hI.fr.same 11 (by decide)).trans g11)
              have f := hI.got 5 (of_decide_eq_true rfl) (edge hED 5 (by kernel_rfl)) rfl
              refine wp_store_row 29 _ _ rfl ((w.heap.size + 1)) #[.int .i64 V1.t.1, .int .u64 V1.t.2.1, .int .i64 V1.t.2.2.1, .int .i64 V1.t.2.2.2] fb f 29 _ hgb (by kernel_rfl) rfl (by simp [Value.oneCell']) ?_
              have ht := setRow_touch W ((w.heap.size + 1)) #[.int .i64 V1.t.1, .int .u64 V1.t.2.1, .int .i64 V1.t.2.2.1, .int .i64 V1.t.2.2.2]
              exact hKQ.out _ _ (hI.store 7 (fun j hj => by cases hj) (hI.bel.trans (ht.below (by first | exact HGE11 | omega) (Nat.le_trans HBB hI.bel.size))) (r9Sp_st7 A0 0 c xs V1 a2 c2 gst gsc w.heap.size w6.heap.size (w.heap.size) hgb ht) (setRow_heap W ((w.heap.size + 1)) _ _ _ _ hgb))
            · intro lQ b W hI hUN hED KQ hKQ
              exact opw_const (.int .i64 0) rfl (hKQ.out _ _ (hI.put 8 12 rfl rfl (by rw [hz]; decide) rfl hUN rfl HBB (r9Sp_stb A0 0 c xs V1 a2 c2 gst gsc w.heap.size w6.heap.size (w.heap.size)) (Below.refl _ _) rfl))
          · intro b W hf hb F
            obtain ⟨a', c', ps', e10, ho, hxs⟩ := F 6 (of_decide_eq_true rfl) rfl
            have e11 := F 7 (of_decide_eq_true rfl) rfl
            have e12 := F 8 (of_decide_eq_true rfl) rfl
            replace e10 : aT b 10 = _ := e10
            replace e12 : aT b 12 = _ := e12
            rw [hf.eq]
            simp only [puts, Act.put, List.setIfInBounds_toArray, List.set_cons_zero, List.set_cons_succ, e10, e12]
            clear hf F
            go_wp2
            try simp only [Exit.inBlock, Exit.then]
            exact bodyPost_ret (results_rn rfl _ (w.heap.size + 1) _ rfl rfl _ rfl _ _ e11 rfl) rfl ⟨a', c', by rw [HF.out]; simp [rnOut, HLX.out], ⟨ps', by rw [HF.out]; simpa [HLX.out] using ho, by rw [HF.out]; exact hxs⟩, hby.trans hb⟩

    case neg =>
      obtain ⟨q, rfl⟩ : ∃ q, N0 = q + 1 := ⟨N0 - 1, by omega⟩
      obtain ⟨b0, off, a1, n1, d1, rfl, hlb, hc, -, -, -, -⟩ := (HST.out wq hcq).get q (by omega)
      obtain ⟨y0, y1, y2, y3, y4⟩ := hc
      obtain ⟨T2, hT2⟩ : ∃ T2, T2 = (xs.getD q default).at2 := ⟨_, rfl⟩
      rw [← hT2] at y2
      have HT2 : Hid (_ = _) := hT2
      clear hT2
      by_cases g4 : at2 < T2
      case pos =>
        have HF := (show Hid (V = rnBad 1) from HVF.out (fun hp => by have h1 : (xs.getD q default).at2 ≤ at2 := hp.2.2.2 (by omega); rw [← HT2.out] at h1; omega))
        go_upto_region 5 with fail
        have HBB : w.heap.size ≤ wq.heap.size := hcq.size
        refine wp_region_rp (rzB 1 w.heap.size (w.heap.size)) [10, 12, 45] (w.heap.size) (fun a0 => a0.tmps.size = 69 ∧ aT a0 11 = .pointer (some ⟨(w.heap.size + 1), 0, none⟩)) rfl (by kernel_rfl) rfl ⟨rfl, rfl⟩ (rzB_stb 1 w.heap.size (w.heap.size)) ?_ ?_ ?_
        · intro k hk hk2
          match k, hk, hk2 with
          | 4, _, _ => exact HQ.out
          | 0, hk, _ => exact absurd hk (by show ¬ (4 ≤ 0); omega)
          | 1, hk, _ => exact absurd hk (by show ¬ (4 ≤ 1); omega)
          | 2, hk, _ => exact absurd hk (by show ¬ (4 ≤ 2); omega)
          | 3, hk, _ => exact absurd hk (by show ¬ (4 ≤ 3); omega)
          | k + 5, _, hk2 => exact absurd hk2 (by show ¬ (k + 5 < 5); omega)
        · rintro a0 ⟨hz, g11⟩
          refine StepsRI.cons ?_ (StepsRI.cons ?_ (StepsRI.cons ?_ (StepsRI.cons ?_ (StepsRI.nil))))
          · intro lQ b W hI hUN hED KQ hKQ
            refine opw_build 29 _ rfl #[] (by simp []) (.agg #[.int .i64 0, .int .u64 0, .int .i64 0, .int .i64 0]) (by kernel_rfl) ?_
            exact hKQ.out _ _ (hI.put 0 45 rfl rfl (by rw [hz]; decide) rfl hUN rfl HBB (rzB_stb 1 w.heap.size (w.heap.size)) (Below.refl _ _) rfl)
          · intro lQ b W hI hUN hED KQ hKQ
            exact opw_const (.slice none 0 0) rfl (hKQ.out _ _ (hI.put 1 10 rfl rfl (by rw [hz]; decide) rfl hUN rfl HBB (rzB_stb 1 w.heap.size (w.heap.size)) (Below.refl _ _) rfl))
          · intro lQ b W hI hUN hED KQ hKQ
            have hgb := (hI.vot1 4 2 (of_decide_eq_true rfl) (of_decide_eq_true rfl) hUN rfl)
            have fb := ((hI.fr.same 11 (by decide)).trans g11)
            have f := hI.got 0 (of_decide_eq_true rfl) (edge hED 0 (by kernel_rfl)) rfl
            refine wp_store_row 29 _ _ rfl ((w.heap.size + 1)) #[.int .i64 0, .int .u64 0, .int .i64 0, .int .i64 0] fb f 29 _ hgb (by kernel_rfl) rfl (by simp [Value.oneCell']) ?_
            have ht := setRow_touch W ((w.heap.size + 1)) #[.int .i64 0, .int .u64 0, .int .i64 0, .int .i64 0]
            exact hKQ.out _ _ (hI.store 2 (fun j hj => by cases hj) (hI.bel.trans (ht.below (by first | exact HGE11 | omega) (Nat.le_trans HBB hI.bel.size))) (rzB_st2 1 w.heap.size (w.heap.size) hgb ht) (setRow_heap W ((w.heap.size + 1)) _ _ _ _ hgb))
          · intro lQ b W hI hUN hED KQ hKQ
            exact opw_const (.int .i64 1) rfl (hKQ.out _ _ (hI.put 3 12 rfl rfl (by rw [hz]; decide) rfl hUN rfl HBB (rzB_stb 1 w.heap.size (w.heap.size)) (Below.refl _ _) rfl))
        · intro b W hf hb F
          have e0 := F 2 (of_decide_eq_true rfl) rfl
          have e1 := F 1 (of_decide_eq_true rfl) rfl
          have e3 := F 3 (of_decide_eq_true rfl) rfl
          replace e1 : aT b 10 = _ := e1
          replace e3 : aT b 12 = _ := e3
          rw [hf.eq]
          simp only [puts, Act.put, List.setIfInBounds_toArray, List.set_cons_zero, List.set_cons_succ, e1, e3]
          clear hf F
          go_wp2
          try simp only [Exit.inBlock, Exit.then]
          exact bodyPost_ret (results_rn rfl _ (w.heap.size + 1) _ rfl rfl _ rfl _ _ e0 rfl) rfl ⟨none, 0, by rw [HF.out]; rfl, ⟨[], by rw [HF.out]; exact ownS_none _ _, by rw [HF.out]; rfl⟩, hcq.trans hb⟩

      case neg =>
        have HP : Hid (rnP doc xs (q + 1) at2) := ⟨by omega, by have := HLD.out; omega, HAS.out, fun _ => by show (xs.getD q default).at2 ≤ at2; rw [← HT2.out]; omega⟩
        have HV1 := (show Hid (V = if V1.cd = 0 then ⟨xs ++ [stOf V1], V1.t, 0⟩ else rnBad V1.cd) from HVT.out HP.out)
        have hfl : F.length ≤ 13000 := by have h1 := covd_len doc xs (q + 1) HAS.out (q + 1) (Nat.le_refl _); have h2 := HLD.out; rw [HFE.out]; omega
        have HCO : Hid (∀ W, Below wq.heap.size wq W → Calls Tryz.prog 27 #[.slice ad nd cd, .slice (some ⟨b0, off, none⟩) (q + 1) c] W fun e w' => ∃ a' c', e = .returned (.slice a' F.length c') ∧ Own W.heap.size w' a' F.length c' F ∧ Below W.heap.size W w') := by
          intro W hW
          rw [HFE.out]
          exact covered_any ad nd cd doc (some ⟨b0, off, none⟩) (q + 1) c xs W (HRD.out W (keepT hcq hW)) hd0 (by omega) (HST.out W (keepT hcq hW)) HAS.out (by omega)
        go_upto_region 6 with fail
        clear hlb y0 y1 y2 y3 y4
        have HBB : wq.heap.size ≤ wq.heap.size := Nat.le_refl _
        refine wp_region_ri (r6Sp ad nd cd (some ⟨b0, off, none⟩) (q + 1) c alg at2 sc x h nn dv F V1 w.heap.size (wq.heap.size)) [14, 15, 16, 46, 47, 48, 49, 50, 51, 52, 53, 54, 55, 56, 57, 58] (wq.heap.size) (fun a0 => a0.tmps.size = 69 ∧ aT a0 0 = .slice ad nd cd ∧ aT a0 1 = .slice (some ⟨b0, off, none⟩) (q + 1) c ∧ aT a0 2 = .int .i64 alg ∧ aT a0 3 = .int .i64 at2 ∧ aT a0 9 = .pointer (some ⟨w.heap.size, 0, none⟩)) (by kernel_rfl) rfl (by kernel_rfl) rfl ⟨rfl, rfl, rfl, rfl, rfl, rfl⟩ (r6Sp_stb ad nd cd (some ⟨b0, off, none⟩) (q + 1) c alg at2 sc x h nn dv F V1 w.heap.size (wq.heap.size)) ?_ ?_ ?_
        · intro k hk hk2
          match k, hk, hk2 with
          | 18, _, _ => exact ⟨HQ0.out, by omega⟩
          | 0, hk, _ => exact absurd hk (by show ¬ (18 ≤ 0); omega)
          | 1, hk, _ => exact absurd hk (by show ¬ (18 ≤ 1); omega)
          | 2, hk, _ => exact absurd hk (by show ¬ (18 ≤ 2); omega)
          | 3, hk, _ => exact absurd hk (by show ¬ (18 ≤ 3); omega)
          | 4, hk, _ => exact absurd hk (by show ¬ (18 ≤ 4); omega)
          | 5, hk, _ => exact absurd hk (by show ¬ (18 ≤ 5); omega)
          | 6, hk, _ => exact absurd hk (by show ¬ (18 ≤ 6); omega)
          | 7, hk, _ => exact absurd hk (by show ¬ (18 ≤ 7); omega)
          | 8, hk, _ => exact absurd hk (by show ¬ (18 ≤ 8); omega)
          | 9, hk, _ => exact absurd hk (by show ¬ (18 ≤ 9); omega)
          | 10, hk, _ => exact absurd hk (by show ¬ (18 ≤ 10); omega)
          | 11, hk, _ => exact absurd hk (by show ¬ (18 ≤ 11); omega)
          | 12, hk, _ => exact absurd hk (by show ¬ (18 ≤ 12); omega)
          | 13, hk, _ => exact absurd hk (by show ¬ (18 ≤ 13); omega)
          | 14, hk, _ => exact absurd hk (by show ¬ (18 ≤ 14); omega)
          | 15, hk, _ => exact absurd hk (by show ¬ (18 ≤ 15); omega)
          | 16, hk, _ => exact absurd hk (by show ¬ (18 ≤ 16); omega)
          | 17, hk, _ => exact absurd hk (by show ¬ (18 ≤ 17); omega)
          | k + 19, _, hk2 => exact absurd hk2 (by show ¬ (k + 19 < 19); omega)
        · rintro a0 ⟨hz, g0, g1, g2, g3, g9⟩
          refine StepsRI.cons ?_ (StepsRI.cons ?_ (StepsRI.cons ?_ (StepsRI.cons ?_ (StepsRI.cons ?_ (StepsRI.cons ?_ (StepsRI.cons ?_ (StepsRI.cons ?_ (StepsRI.cons ?_ (StepsRI.cons ?_ (StepsRI.cons ?_ (StepsRI.cons ?_ (StepsRI.cons ?_ (StepsRI.cons ?_ (StepsRI.cons ?_ (StepsRI.cons ?_ (StepsRI.cons ?_ (StepsRI.cons ?_ (StepsRI.nil))))))))))))))))))
          · intro lQ b W hI hUN hED KQ hKQ
            exact opw_move 2 rfl (hKQ.out _ _ (hI.put 0 47 rfl rfl (by rw [hz]; decide) rfl hUN rfl HBB (r6Sp_stb ad nd cd (some ⟨b0, off, none⟩) (q + 1) c alg at2 sc x h nn dv F V1 w.heap.size (wq.heap.size)) (Below.refl _ _) ((hI.fr.same 2 (by decide)).trans g2)))
          · intro lQ b W hI hUN hED KQ hKQ
            exact opw_move 2 rfl (hKQ.out _ _ (hI.put 1 48 rfl rfl (by rw [hz]; decide) rfl hUN rfl HBB (r6Sp_stb ad nd cd (some ⟨b0, off, none⟩) (q + 1) c alg at2 sc x h nn dv F V1 w.heap.size (wq.heap.size)) (Below.refl _ _) ((hI.fr.same 2 (by decide)).trans g2)))
          · intro lQ b W hI hUN hED KQ hKQ
            exact opw_move 0 rfl (hKQ.out _ _ (hI.put 2 49 rfl rfl (by rw [hz]; decide) rfl hUN rfl HBB (r6Sp_stb ad nd cd (some ⟨b0, off, none⟩) (q + 1) c alg at2 sc x h nn dv F V1 w.heap.size (wq.heap.size)) (Below.refl _ _) ((hI.fr.same 0 (by decide)).trans g0)))
          · intro lQ b W hI hUN hED KQ hKQ
            exact opw_move 1 rfl (hKQ.out _ _ (hI.put 3 50 rfl rfl (by rw [hz]; decide) rfl hUN rfl HBB (r6Sp_stb ad nd cd (some ⟨b0, off, none⟩) (q + 1) c alg at2 sc x h nn dv F V1 w.heap.size (wq.heap.size)) (Below.refl _ _) ((hI.fr.same 1 (by decide)).trans g1)))
          · intro lQ b W hI hUN hED KQ hKQ
            have f0 := hI.got 2 (of_decide_eq_true rfl) (edge hED 2 (by kernel_rfl)) rfl
            replace f0 : aT b 49 = .slice ad nd cd := f0
            have f1 := hI.got 3 (of_decide_eq_true rfl) (edge hED 3 (by kernel_rfl)) rfl
            replace f1 : aT b 50 = .slice (some ⟨b0, off, none⟩) (q + 1) c := f1
            refine opw_call 27 #[.tmp 49, .tmp 50] _ _ _ rfl Tryz.func27 (by kernel_rfl) rfl #[.slice ad nd cd, .slice (some ⟨b0, off, none⟩) (q + 1) c] (by simp [ev, f0, f1]) ?_
            refine (HCO.out W hI.bel).mono ?_
            rintro e W2 ⟨a5, c5, rfl, ho, hb⟩
            exact ⟨_, rfl, hKQ.out _ _ (hI.put 4 51 rfl rfl (by rw [hz]; decide) rfl hUN rfl HBB (r6Sp_stb ad nd cd (some ⟨b0, off, none⟩) (q + 1) c alg at2 sc x h nn dv F V1 w.heap.size (wq.heap.size)) hb ⟨a5, c5, rfl, ho.mono (Nat.le_trans HBB hI.bel.size)⟩)⟩
          · intro lQ b W hI hUN hED KQ hKQ
            have f0 := hI.got 1 (of_decide_eq_true rfl) (edge hED 1 (by kernel_rfl)) rfl
            replace f0 : aT b 48 = .int .i64 alg := f0
            have f1 := hI.got 4 (of_decide_eq_true rfl) (edge hED 4 (by kernel_rfl)) rfl
            obtain ⟨a5, c5, f1, o1_0⟩ := f1
            replace f1 : aT b 51 = .slice a5 F.length c5 := f1
            refine opw_call 26 #[.tmp 48, .tmp 51] _ _ _ rfl Tryz.func26 (by kernel_rfl) rfl #[.int .i64 alg, .slice a5 F.length c5] (by simp [ev, f0, f1]) ?_
            refine (HDG.out W a5 c5 o1_0.toRow o1_0.nil (by omega)).mono ?_
            rintro e W2 ⟨rfl, hb⟩
            exact ⟨_, rfl, hKQ.out _ _ (hI.put 5 52 rfl rfl (by rw [hz]; decide) rfl hUN rfl HBB (r6Sp_stb ad nd cd (some ⟨b0, off, none⟩) (q + 1) c alg at2 sc x h nn dv F V1 w.heap.size (wq.heap.size)) hb rfl)⟩
          · intro lQ b W hI hUN hED KQ hKQ
            exact opw_move 3 rfl (hKQ.out _ _ (hI.put 6 53 rfl rfl (by rw [hz]; decide) rfl hUN rfl HBB (r6Sp_stb ad nd cd (some ⟨b0, off, none⟩) (q + 1) c alg at2 sc x h nn dv F V1 w.heap.size (wq.heap.size)) (Below.refl _ _) ((hI.fr.same 3 (by decide)).trans g3)))
          · intro lQ b W hI hUN hED KQ hKQ
            have hg := (hI.vot 18 (of_decide_eq_true rfl) (of_decide_eq_true rfl) rfl).1
            refine wp_load_row 29 _ rfl (w.heap.size) ((hI.fr.same 9 (by decide)).trans g9) 29 #[.int .i64 sc, .int .u64 x, .int .i64 h, .int .i64 nn] (0, 0) _ hg Tryz.underlying29 rfl (by kernel_rfl) ?_
            exact hKQ.out _ _ (hI.put 7 54 rfl rfl (by rw [hz]; decide) rfl hUN rfl HBB (r6Sp_stb ad nd cd (some ⟨b0, off, none⟩) (q + 1) c alg at2 sc x h nn dv F V1 w.heap.size (wq.heap.size)) (Below.refl _ _) rfl)
          · intro lQ b W hI hUN hED KQ hKQ
            have f0 := hI.got 0 (of_decide_eq_true rfl) (edge hED 0 (by kernel_rfl)) rfl
            replace f0 : aT b 47 = .int .i64 alg := f0
            have f1 := hI.got 5 (of_decide_eq_true rfl) (edge hED 5 (by kernel_rfl)) rfl
            replace f1 : aT b 52 = .int .u64 dv := f1
            have f2 := hI.got 6 (of_decide_eq_true rfl) (edge hED 6 (by kernel_rfl)) rfl
            replace f2 : aT b 53 = .int .i64 at2 := f2
            have f3 := hI.got 7 (of_decide_eq_true rfl) (edge hED 7 (by kernel_rfl)) rfl
            replace f3 : aT b 54 = .agg #[.int .i64 sc, .int .u64 x, .int .i64 h, .int .i64 nn] := f3
            refine opw_call 25 #[.tmp 47, .tmp 52, .tmp 53, .tmp 54] _ _ _ rfl Tryz.func25 (by kernel_rfl) rfl #[.int .i64 alg, .int .u64 dv, .int .i64 at2, .agg #[.int .i64 sc, .int .u64 x, .int .i64 h, .int .i64 nn]] (by simp [ev, f0, f1, f2, f3]) ?_
            refine (HMS.out W).mono ?_
            rintro e W2 ⟨a2, c2, rfl, ho, hb⟩
            exact ⟨_, rfl, hKQ.out _ _ (hI.put 8 55 rfl rfl (by rw [hz]; decide) rfl hUN rfl HBB (r6Sp_stb ad nd cd (some ⟨b0, off, none⟩) (q + 1) c alg at2 sc x h nn dv F V1 w.heap.size (wq.heap.size)) hb ⟨a2, c2, rfl, ho.mono (Nat.le_trans HBB hI.bel.size)⟩)⟩
          · intro lQ b W hI hUN hED KQ hKQ
            have f := hI.got 8 (of_decide_eq_true rfl) (edge hED 8 (by kernel_rfl)) rfl
            exact opw_move 55 rfl (hKQ.out _ _ (hI.put 9 46 rfl rfl (by rw [hz]; decide) rfl hUN rfl HBB (r6Sp_stb ad nd cd (some ⟨b0, off, none⟩) (q + 1) c alg at2 sc x h nn dv F V1 w.heap.size (wq.heap.size)) (Below.refl _ _) f))
          · intro lQ b W hI hUN hED KQ hKQ
            have f := hI.got 9 (of_decide_eq_true rfl) (edge hED 9 (by kernel_rfl)) rfl
            obtain ⟨a2, c2, f, o_0⟩ := f
            exact opw_extract 46 0 rfl _ _ f rfl (hKQ.out _ _ (hI.put 10 56 rfl rfl (by rw [hz]; decide) rfl hUN rfl HBB (r6Sp_stb ad nd cd (some ⟨b0, off, none⟩) (q + 1) c alg at2 sc x h nn dv F V1 w.heap.size (wq.heap.size)) (Below.refl _ _) ⟨a2, c2, rfl, o_0⟩))
          · intro lQ b W hI hUN hED KQ hKQ
            have f := hI.got 9 (of_decide_eq_true rfl) (edge hED 9 (by kernel_rfl)) rfl
            obtain ⟨a2, c2, f, o_0⟩ := f
            exact opw_extract 46 1 rfl _ _ f rfl (hKQ.out _ _ (hI.put 11 57 rfl rfl (by rw [hz]; decide) rfl hUN rfl HBB (r6Sp_stb ad nd cd (some ⟨b0, off, none⟩) (q + 1) c alg at2 sc x h nn dv F V1 w.heap.size (wq.heap.size)) (Below.refl _ _) rfl))
          · intro lQ b W hI hUN hED KQ hKQ
            have f := hI.got 9 (of_decide_eq_true rfl) (edge hED 9 (by kernel_rfl)) rfl
            obtain ⟨a2, c2, f, o_0⟩ := f
            exact opw_extract 46 2 rfl _ _ f rfl (hKQ.out _ _ (hI.put 12 58 rfl rfl (by rw [hz]; decide) rfl hUN rfl HBB (r6Sp_stb ad nd cd (some ⟨b0, off, none⟩) (q + 1) c alg at2 sc x h nn dv F V1 w.heap.size (wq.heap.size)) (Below.refl _ _) rfl))
          · intro lQ b W hI hUN hED KQ hKQ
            refine opw_value (w' := W.alloc (.cells #[.int .i64 0, .int .u64 0, .int .i64 0, .int .u64 0, .slice none 0 0] 45)) (.pointer (some ⟨W.heap.size, 0, none⟩)) (by kernel_rfl) ?_
            exact hKQ.out _ _ (hI.put 13 14 rfl rfl (by rw [hz]; decide) rfl hUN rfl HBB (r6Sp_stb ad nd cd (some ⟨b0, off, none⟩) (q + 1) c alg at2 sc x h nn dv F V1 w.heap.size (wq.heap.size)) ((Below.refl _ _).alloc (Nat.le_refl _) _) ⟨W.heap.size, rfl, heap_alloc_new W _, Nat.le_trans HBB hI.bel.size⟩)
          · intro lQ b W hI hUN hED KQ hKQ
            refine opw_value (w' := W.alloc (.cells #[.int .i64 0, .int .u64 0, .int .i64 0, .int .i64 0] 29)) (.pointer (some ⟨W.heap.size, 0, none⟩)) (by kernel_rfl) ?_
            exact hKQ.out _ _ (hI.put 14 15 rfl rfl (by rw [hz]; decide) rfl hUN rfl HBB (r6Sp_stb ad nd cd (some ⟨b0, off, none⟩) (q + 1) c alg at2 sc x h nn dv F V1 w.heap.size (wq.heap.size)) ((Below.refl _ _).alloc (Nat.le_refl _) _) ⟨W.heap.size, rfl, heap_alloc_new W _, Nat.le_trans HBB hI.bel.size⟩)
          · intro lQ b W hI hUN hED KQ hKQ
            obtain ⟨g, fb, hgb, hge⟩ := hI.got1 13 15 (of_decide_eq_true rfl) (edge hED 13 (by kernel_rfl)) hUN rfl
            have f := hI.got 10 (of_decide_eq_true rfl) (edge hED 10 (by kernel_rfl)) rfl
            obtain ⟨a2, c2, f, o_0⟩ := f
            refine wp_store_row 45 _ _ rfl g #[.int .i64 V1.alg, .int .u64 V1.dg, .int .i64 V1.at2, .int .u64 V1.ky, .slice a2 V1.sg.length c2] fb f 45 _ hgb (by kernel_rfl) rfl (by simp [Value.oneCell']) ?_
            have ht := setRow_touch W g #[.int .i64 V1.alg, .int .u64 V1.dg, .int .i64 V1.at2, .int .u64 V1.ky, .slice a2 V1.sg.length c2]
            exact hKQ.out _ _ (hI.store 15 (fun j hj => by
                rcases List.mem_singleton.1 hj with rfl
                exact edge hED 13 (by kernel_rfl)) (hI.bel.trans (ht.below hge (Nat.le_trans HBB hI.bel.size))) (r6Sp_st15 ad nd cd (some ⟨b0, off, none⟩) (q + 1) c alg at2 sc x h nn dv F V1 w.heap.size (wq.heap.size) hgb ht hge) ⟨g, a2, c2, fb, (setRow_heap W g _ _ _ _ hgb), hge, ⟨ownsRow_box o_0.row hgb (by decide) ht, o_0.byte⟩⟩)
          · intro lQ b W hI hUN hED KQ hKQ
            obtain ⟨g, fb, hgb, hge⟩ := hI.got1 14 16 (of_decide_eq_true rfl) (edge hED 14 (by kernel_rfl)) hUN rfl
            have f := hI.got 11 (of_decide_eq_true rfl) (edge hED 11 (by kernel_rfl)) rfl
            refine wp_store_row 29 _ _ rfl g #[.int .i64 V1.t.1, .int .u64 V1.t.2.1, .int .i64 V1.t.2.2.1, .int .i64 V1.t.2.2.2] fb f 29 _ hgb (by kernel_rfl) rfl (by simp [Value.oneCell']) ?_
            have ht := setRow_touch W g #[.int .i64 V1.t.1, .int .u64 V1.t.2.1, .int .i64 V1.t.2.2.1, .int .i64 V1.t.2.2.2]
            exact hKQ.out _ _ (hI.store 16 (fun j hj => by
                rcases List.mem_singleton.1 hj with rfl
                exact edge hED 14 (by kernel_rfl)) (hI.bel.trans (ht.below hge (Nat.le_trans HBB hI.bel.size))) (r6Sp_st16 ad nd cd (some ⟨b0, off, none⟩) (q + 1) c alg at2 sc x h nn dv F V1 w.heap.size (wq.heap.size) hgb ht hge) ⟨g, fb, (setRow_heap W g _ _ _ _ hgb), hge⟩)
          · intro lQ b W hI hUN hED KQ hKQ
            have f := hI.got 12 (of_decide_eq_true rfl) (edge hED 12 (by kernel_rfl)) rfl
            exact opw_assign 58 rfl (hKQ.out _ _ (hI.put 17 16 rfl rfl (by rw [hz]; decide) rfl hUN rfl HBB (r6Sp_stb ad nd cd (some ⟨b0, off, none⟩) (q + 1) c alg at2 sc x h nn dv F V1 w.heap.size (wq.heap.size)) (Below.refl _ _) f))
        · intro b W hf hb F
          obtain ⟨gst, a2, c2, e14, h14, hgst, ho⟩ := F 15 (of_decide_eq_true rfl) rfl
          obtain ⟨gsc, e15, h15, hgsc⟩ := F 16 (of_decide_eq_true rfl) rfl
          have e16 := F 17 (of_decide_eq_true rfl) rfl
          replace e14 : aT b 14 = _ := e14
          replace e15 : aT b 15 = _ := e15
          replace e16 : aT b 16 = _ := e16
          obtain ⟨w6, hw6⟩ : ∃ w6, w6 = W := ⟨_, rfl⟩
          subst hw6
          have H6R : Hid (w6.heap[w.heap.size + 1]? = some (.cells #[.int .i64 0, .int .u64 0, .int .i64 0, .int .i64 0] 29 (0, 0)) ∧ w6.heap[gst]? = some (.cells #[.int .i64 V1.alg, .int .u64 V1.dg, .int .i64 V1.at2, .int .u64 V1.ky, .slice a2 V1.sg.length c2] 45 (0, 0)) ∧ w6.heap[gsc]? = some (.cells #[.int .i64 V1.t.1, .int .u64 V1.t.2.1, .int .i64 V1.t.2.2.1, .int .i64 V1.t.2.2.2] 29 (0, 0))) := ⟨below_kept HQ.out hb, h14, h15⟩
          have hc6 := keepT hcq hb
          have L14 : gst < w6.heap.size := (Array.getElem?_eq_some_iff.1 h14).1
          have L15 : gsc < w6.heap.size := (Array.getElem?_eq_some_iff.1 h15).1
          have LG : w.heap.size + 1 < w6.heap.size := (Array.getElem?_eq_some_iff.1 H6R.out.1).1
          have HO6 : Hid (Own w.heap.size w6 a2 V1.sg.length c2 V1.sg) := ho.mono hcq.size
          have HJ : Hid (∀ k, (Value.slice a2 V1.sg.length c2).ownBlock = some k → k < w6.heap.size) := fun k hk => (ho.row.lt k hk).2
          rw [hf.eq]
          simp only [puts, Act.put, List.setIfInBounds_toArray, List.set_cons_zero, List.set_cons_succ, e14, e15, e16]
          clear hf F e14 e15 e16 h14 h15 ho hb
          generalize aT b = AT
          clear b
          go_upto_region 7 with fail
          by_cases hc7 : V1.cd = 0
          case neg =>
            have HF := (show Hid (V = rnBad V1.cd) by show _ = _; rw [HV1.out, if_neg hc7])
            have z5 : (V1.cd != 0) = true := by simp [hc7]
            go_upto_region 8 with fail
            have HBB : w.heap.size ≤ w6.heap.size := by omega
            refine wp_region_rp (rzC V1.cd w.heap.size (w.heap.size)) [10, 12, 61, 62] (w.heap.size) (fun a0 => a0.tmps.size = 69 ∧ aT a0 11 = .pointer (some ⟨(w.heap.size + 1), 0, none⟩) ∧ aT a0 16 = .int .i64 V1.cd) rfl (by kernel_rfl) rfl ⟨rfl, rfl, rfl⟩ (rzC_stb V1.cd w.heap.size (w.heap.size)) ?_ ?_ ?_
            · intro k hk hk2
              match k, hk, hk2 with
              | 5, _, _ => exact H6R.out.1
              | 0, hk, _ => exact absurd hk (by show ¬ (5 ≤ 0); omega)
              | 1, hk, _ => exact absurd hk (by show ¬ (5 ≤ 1); omega)
              | 2, hk, _ => exact absurd hk (by show ¬ (5 ≤ 2); omega)
              | 3, hk, _ => exact absurd hk (by show ¬ (5 ≤ 3); omega)
              | 4, hk, _ => exact absurd hk (by show ¬ (5 ≤ 4); omega)
              | k + 6, _, hk2 => exact absurd hk2 (by show ¬ (k + 6 < 6); omega)
            · rintro a0 ⟨hz, g11, g16⟩
              refine StepsRI.cons ?_ (StepsRI.cons ?_ (StepsRI.cons ?_ (StepsRI.cons ?_ (StepsRI.cons ?_ (StepsRI.nil)))))
              · intro lQ b W hI hUN hED KQ hKQ
                refine opw_build 29 _ rfl #[] (by simp []) (.agg #[.int .i64 0, .int .u64 0, .int .i64 0, .int .i64 0]) (by kernel_rfl) ?_
                exact hKQ.out _ _ (hI.put 0 61 rfl rfl (by rw [hz]; decide) rfl hUN rfl HBB (rzC_stb V1.cd w.heap.size (w.heap.size)) (Below.refl _ _) rfl)
              · intro lQ b W hI hUN hED KQ hKQ
                exact opw_move 16 rfl (hKQ.out _ _ (hI.put 1 62 rfl rfl (by rw [hz]; decide) rfl hUN rfl HBB (rzC_stb V1.cd w.heap.size (w.heap.size)) (Below.refl _ _) ((hI.fr.same 16 (by decide)).trans g16)))
              · intro lQ b W hI hUN hED KQ hKQ
                exact opw_const (.slice none 0 0) rfl (hKQ.out _ _ (hI.put 2 10 rfl rfl (by rw [hz]; decide) rfl hUN rfl HBB (rzC_stb V1.cd w.heap.size (w.heap.size)) (Below.refl _ _) rfl))
              · intro lQ b W hI hUN hED KQ hKQ
                have hgb := (hI.vot1 5 3 (of_decide_eq_true rfl) (of_decide_eq_true rfl) hUN rfl)
                have fb := ((hI.fr.same 11 (by decide)).trans g11)
                have f := hI.got 0 (of_decide_eq_true rfl) (edge hED 0 (by kernel_rfl)) rfl
                refine wp_store_row 29 _ _ rfl ((w.heap.size + 1)) #[.int .i64 0, .int .u64 0, .int .i64 0, .int .i64 0] fb f 29 _ hgb (by kernel_rfl) rfl (by simp [Value.oneCell']) ?_
                have ht := setRow_touch W ((w.heap.size + 1)) #[.int .i64 0, .int .u64 0, .int .i64 0, .int .i64 0]
                exact hKQ.out _ _ (hI.store 3 (fun j hj => by cases hj) (hI.bel.trans (ht.below (by first | exact HGE11 | omega) (Nat.le_trans HBB hI.bel.size))) (rzC_st3 V1.cd w.heap.size (w.heap.size) hgb ht) (setRow_heap W ((w.heap.size + 1)) _ _ _ _ hgb))
              · intro lQ b W hI hUN hED KQ hKQ
                have f := hI.got 1 (of_decide_eq_true rfl) (edge hED 1 (by kernel_rfl)) rfl
                exact opw_assign 62 rfl (hKQ.out _ _ (hI.put 4 12 rfl rfl (by rw [hz]; decide) rfl hUN rfl HBB (rzC_stb V1.cd w.heap.size (w.heap.size)) (Below.refl _ _) f))
            · intro b W hf hb F
              have e0 := F 3 (of_decide_eq_true rfl) rfl
              have e1 := F 2 (of_decide_eq_true rfl) rfl
              have e3 := F 4 (of_decide_eq_true rfl) rfl
              replace e1 : aT b 10 = _ := e1
              replace e3 : aT b 12 = _ := e3
              rw [hf.eq]
              simp only [puts, Act.put, List.setIfInBounds_toArray, List.set_cons_zero, List.set_cons_succ, e1, e3]
              clear hf F
              go_wp2
              try simp only [Exit.inBlock, Exit.then]
              exact bodyPost_ret (results_rn rfl _ (w.heap.size + 1) _ rfl rfl _ rfl _ _ e0 rfl) rfl ⟨none, 0, by rw [HF.out]; rfl, ⟨[], by rw [HF.out]; exact ownS_none _ _, by rw [HF.out]; rfl⟩, hc6.trans hb⟩
  
          case pos =>
            have HF := (show Hid (V = ⟨xs ++ [stOf V1], V1.t, 0⟩) by show _ = _; rw [HV1.out, if_pos hc7])
            have z5 : (V1.cd != 0) = false := by simp [hc7]
            clear hc7
            go_upto_region 9 with fail
            have HBB : w.heap.size ≤ w6.heap.size := by omega
            have hby := hc6
            refine wp_region_ri (r9Sp (some ⟨b0, off, none⟩) (q + 1) c xs V1 a2 c2 gst gsc w.heap.size w6.heap.size (w.heap.size)) [10, 12, 63, 64, 65, 66, 67, 68] (w.heap.size) (fun a0 => a0.tmps.size = 69 ∧ aT a0 1 = .slice (some ⟨b0, off, none⟩) (q + 1) c ∧ aT a0 11 = .pointer (some ⟨(w.heap.size + 1), 0, none⟩) ∧ aT a0 14 = .pointer (some ⟨gst, 0, none⟩) ∧ aT a0 15 = .pointer (some ⟨gsc, 0, none⟩)) (by kernel_rfl) rfl (by kernel_rfl) rfl ⟨rfl, rfl, rfl, rfl, rfl⟩ (r9Sp_stb (some ⟨b0, off, none⟩) (q + 1) c xs V1 a2 c2 gst gsc w.heap.size w6.heap.size (w.heap.size)) ?_ ?_ ?_
            · intro k hk hk2
              match k, hk, hk2 with
              | 9, _, _ => exact H6R.out.2.1
              | 10, _, _ => exact ⟨H6R.out.2.2, by omega⟩
              | 11, _, _ => exact H6R.out.1
              | 12, _, _ => exact (show Own w.heap.size w6 a2 V1.sg.length c2 V1.sg from HO6.out)
              | 0, hk, _ => exact absurd hk (by show ¬ (9 ≤ 0); omega)
              | 1, hk, _ => exact absurd hk (by show ¬ (9 ≤ 1); omega)
              | 2, hk, _ => exact absurd hk (by show ¬ (9 ≤ 2); omega)
              | 3, hk, _ => exact absurd hk (by show ¬ (9 ≤ 3); omega)
              | 4, hk, _ => exact absurd hk (by show ¬ (9 ≤ 4); omega)
              | 5, hk, _ => exact absurd hk (by show ¬ (9 ≤ 5); omega)
              | 6, hk, _ => exact absurd hk (by show ¬ (9 ≤ 6); omega)
              | 7, hk, _ => exact absurd hk (by show ¬ (9 ≤ 7); omega)
              | 8, hk, _ => exact absurd hk (by show ¬ (9 ≤ 8); omega)
              | k + 13, _, hk2 => exact absurd hk2 (by show ¬ (k + 13 < 13); omega)
            · rintro a0 ⟨hz, g1, g11, g14, g15⟩
              refine StepsRI.cons ?_ (StepsRI.cons ?_ (StepsRI.cons ?_ (StepsRI.cons ?_ (StepsRI.cons ?_ (StepsRI.cons ?_ (StepsRI.cons ?_ (StepsRI.cons ?_ (StepsRI.cons ?_ (StepsRI.nil)))))))))
              · intro lQ b W hI hUN hED KQ hKQ
                exact opw_move 1 rfl (hKQ.out _ _ (hI.put 0 63 rfl rfl (by rw [hz]; decide) rfl hUN rfl HBB (r9Sp_stb (some ⟨b0, off, none⟩) (q + 1) c xs V1 a2 c2 gst gsc w.heap.size w6.heap.size (w.heap.size)) (Below.refl _ _) ((hI.fr.same 1 (by decide)).trans g1)))
              · intro lQ b W hI hUN hED KQ hKQ
                have f0 : aT b 63 = .slice (some ⟨b0, off, none⟩) (q + 1) c := hI.got 0 (of_decide_eq_true rfl) (edge hED 0 (by kernel_rfl)) rfl
                refine opw_call 28 #[.tmp 63, .func 29] _ _ _ rfl Tryz.func28 (by kernel_rfl) rfl #[.slice (some ⟨b0, off, none⟩) (q + 1) c, .func (Fn.func 29) #[] #[]] (by simp [ev, f0]; rfl) ?_
                refine (eachClone_any (some ⟨b0, off, none⟩) (q + 1) c xs W (HST.out W (hby.trans hI.bel)) (by omega)).mono ?_
                rintro e W2 ⟨a1, c1, ps, rfl, ⟨ho, hxs⟩, hb⟩
                exact ⟨_, rfl, hKQ.out _ _ (hI.put 1 64 rfl rfl (by rw [hz]; decide) rfl hUN rfl HBB (r9Sp_stb (some ⟨b0, off, none⟩) (q + 1) c xs V1 a2 c2 gst gsc w.heap.size w6.heap.size (w.heap.size)) hb ⟨a1, c1, ps, rfl, ho.mono hI.bel.size, hxs⟩)⟩
              · intro lQ b W hI hUN hED KQ hKQ
                have hg := (hI.vot 9 (of_decide_eq_true rfl) (of_decide_eq_true rfl) rfl)
                refine wp_load_row 45 _ rfl (gst) ((hI.fr.same 14 (by decide)).trans g14) 45 #[.int .i64 V1.alg, .int .u64 V1.dg, .int .i64 V1.at2, .int .u64 V1.ky, .slice a2 V1.sg.length c2] (0, 0) _ hg Tryz.underlying45 rfl (by kernel_rfl) ?_
                exact hKQ.out _ _ (hI.put 2 65 rfl rfl (by rw [hz]; decide) rfl hUN rfl HBB (r9Sp_stb (some ⟨b0, off, none⟩) (q + 1) c xs V1 a2 c2 gst gsc w.heap.size w6.heap.size (w.heap.size)) (Below.refl _ _) rfl)
              · intro lQ b W hI hUN hED KQ hKQ
                have f := hI.got 2 (of_decide_eq_true rfl) (edge hED 2 (by kernel_rfl)) rfl
                replace f : aT b 65 = .agg #[.int .i64 V1.alg, .int .u64 V1.dg, .int .i64 V1.at2, .int .u64 V1.ky, .slice a2 V1.sg.length c2] := f
                refine opw_buildSlice _ 1 _ rfl #[(0, .agg #[.int .i64 V1.alg, .int .u64 V1.dg, .int .i64 V1.at2, .int .u64 V1.ky, .slice a2 V1.sg.length c2])] (by simp [ev, f]) (.slice (some ⟨W.heap.size, 0, none⟩) 1 1) (W.alloc (.cells #[.int .i64 V1.alg, .int .u64 V1.dg, .int .i64 V1.at2, .int .u64 V1.ky, .slice a2 V1.sg.length c2] 45)) (by kernel_rfl) ?_
                exact hKQ.out _ _ (hI.put 3 66 rfl rfl (by rw [hz]; decide) rfl hUN rfl HBB (r9Sp_stb (some ⟨b0, off, none⟩) (q + 1) c xs V1 a2 c2 gst gsc w.heap.size w6.heap.size (w.heap.size)) ((Below.refl _ _).alloc (Nat.le_refl _) _) ⟨W.heap.size, rfl, heap_alloc_new W _⟩)
              · intro lQ b W hI hUN hED KQ hKQ
                obtain ⟨a1, c1, ps, f0, ho, hxs⟩ := hI.got1 1 4 (of_decide_eq_true rfl) (edge hED 1 (by kernel_rfl)) hUN rfl
                replace f0 : aT b 64 = .slice a1 (q + 1) c1 := f0
                obtain ⟨gk, f1, hgk⟩ := hI.got1 3 4 (of_decide_eq_true rfl) (edge hED 3 (by kernel_rfl)) hUN rfl
                replace f1 : aT b 66 = .slice (some ⟨gk, 0, none⟩) 1 1 := f1
                have l6 : lQ 6 = false := by
                  cases h : lQ 6 with
                  | false => rfl
                  | true =>
                    have h2 := hI.cl 6 (of_decide_eq_true rfl) h 4 (List.Mem.head _)
                    rw [show lQ 4 = false from hUN] at h2
                    cases h2
                have hsg := hI.vot 12 (of_decide_eq_true rfl) (of_decide_eq_true rfl) rfl
                have hRW : w6.heap.size ≤ W.heap.size := hI.bel.size
                refine opw_append_st 64 66 28 rfl w6.heap.size 45 i0 _ 5 56 Tryz.underlying28 hi hz0 hz1 hz2 rfl (by decide) (.slice a1 (q + 1) c1) (q + 1) _ f0 ho.row ⟨gk, 0, none⟩ 1 1 [.int .i64 V1.alg, .int .u64 V1.dg, .int .i64 V1.at2, .int .u64 V1.ky, .slice a2 V1.sg.length c2] f1 rfl (cells_of5 hgk) (by intro u hu; simp only [List.mem_cons, List.not_mem_nil, or_false] at hu; rcases hu with rfl | rfl | rfl | rfl | rfl <;> rfl) (by unfold maxLen; omega) (by omega) hRW ?_
                intro v' w' hv' hg'
                obtain ⟨a', c', rfl⟩ := owns_shapeR hv'
                have hlo : ∀ k, (Value.slice a1 (q + 1) c1).ownBlock = some k → w6.heap.size ≤ k := fun k hk => (ho.row.lt k hk).1
                have hbR : Below w6.heap.size W w' := (Below.refl _ _).grown hg' hRW hlo
                have hN : OwnS w.heap.size w' a' ((q + 1) + 1) c' (ps ++ [((a2, V1.sg.length, c2), stOf V1)]) := (ho.mono HBB).appended (p := ((a2, V1.sg.length, c2), stOf V1)) hsg HRG.out (fun j k hj h1 h2 => by have e1 := ((ho.each j hj).row.lt k h1).1; have e2 := HJ.out k h2; omega) (by rw [List.flatMap_append]; exact ownsRow_mono hv' HBB) hg'
                exact hKQ.out _ _ (hI.turn 4 67 (fun j hj => by cases hj) rfl (by rw [hz]; decide) rfl hUN rfl (hI.bel.trans (hbR.mono HBB)) (r9Sp_st4 (some ⟨b0, off, none⟩) (q + 1) c xs V1 a2 c2 gst gsc w.heap.size w6.heap.size w.heap.size hbR hg' hlo HJ.out L14 L15 LG l6) ⟨a', c', ps ++ [((a2, V1.sg.length, c2), stOf V1)], rfl, hN, by simp [xsOf, ← hxs]⟩)
              · intro lQ b W hI hUN hED KQ hKQ
                have hg := (hI.vot 10 (of_decide_eq_true rfl) (of_decide_eq_true rfl) rfl).1
                refine wp_load_row 29 _ rfl (gsc) ((hI.fr.same 15 (by decide)).trans g15) 29 #[.int .i64 V1.t.1, .int .u64 V1.t.2.1, .int .i64 V1.t.2.2.1, .int .i64 V1.t.2.2.2] (0, 0) _ hg Tryz.underlying29 rfl (by kernel_rfl) ?_
                exact hKQ.out _ _ (hI.put 5 68 rfl rfl (by rw [hz]; decide) rfl hUN rfl HBB (r9Sp_stb (some ⟨b0, off, none⟩) (q + 1) c xs V1 a2 c2 gst gsc w.heap.size w6.heap.size (w.heap.size)) (Below.refl _ _) rfl)
              · intro lQ b W hI hUN hED KQ hKQ
                have f := hI.got 4 (of_decide_eq_true rfl) (edge hED 4 (by kernel_rfl)) rfl
                exact opw_assign 67 rfl (hKQ.out _ _ (hI.putp 6 10 (fun j hj => by rcases List.mem_singleton.1 hj with rfl; exact (edge hED 4 (by kernel_rfl))) rfl (by rw [hz]; decide) rfl hUN rfl HBB (r9Sp_stb (some ⟨b0, off, none⟩) (q + 1) c xs V1 a2 c2 gst gsc w.heap.size w6.heap.size (w.heap.size)) (Below.refl _ _) f))
              · intro lQ b W hI hUN hED KQ hKQ
                have hgb := (hI.vot1 11 7 (of_decide_eq_true rfl) (of_decide_eq_true rfl) hUN rfl)
                have fb := ((hI.fr.same 11 (by decide)).trans g11)
                have f := hI.got 5 (of_decide_eq_true rfl) (edge hED 5 (by kernel_rfl)) rfl
                refine wp_store_row 29 _ _ rfl ((w.heap.size + 1)) #[.int .i64 V1.t.1, .int .u64 V1.t.2.1, .int .i64 V1.t.2.2.1, .int .i64 V1.t.2.2.2] fb f 29 _ hgb (by kernel_rfl) rfl (by simp [Value.oneCell']) ?_
                have ht := setRow_touch W ((w.heap.size + 1)) #[.int .i64 V1.t.1, .int .u64 V1.t.2.1, .int .i64 V1.t.2.2.1, .int .i64 V1.t.2.2.2]
                exact hKQ.out _ _ (hI.store 7 (fun j hj => by cases hj) (hI.bel.trans (ht.below (by first | exact HGE11 | omega) (Nat.le_trans HBB hI.bel.size))) (r9Sp_st7 (some ⟨b0, off, none⟩) (q + 1) c xs V1 a2 c2 gst gsc w.heap.size w6.heap.size (w.heap.size) hgb ht) (setRow_heap W ((w.heap.size + 1)) _ _ _ _ hgb))
              · intro lQ b W hI hUN hED KQ hKQ
                exact opw_const (.int .i64 0) rfl (hKQ.out _ _ (hI.put 8 12 rfl rfl (by rw [hz]; decide) rfl hUN rfl HBB (r9Sp_stb (some ⟨b0, off, none⟩) (q + 1) c xs V1 a2 c2 gst gsc w.heap.size w6.heap.size (w.heap.size)) (Below.refl _ _) rfl))
            · intro b W hf hb F
              obtain ⟨a', c', ps', e10, ho, hxs⟩ := F 6 (of_decide_eq_true rfl) rfl
              have e11 := F 7 (of_decide_eq_true rfl) rfl
              have e12 := F 8 (of_decide_eq_true rfl) rfl
              replace e10 : aT b 10 = _ := e10
              replace e12 : aT b 12 = _ := e12
              rw [hf.eq]
              simp only [puts, Act.put, List.setIfInBounds_toArray, List.set_cons_zero, List.set_cons_succ, e10, e12]
              clear hf F
              go_wp2
              try simp only [Exit.inBlock, Exit.then]
              exact bodyPost_ret (results_rn rfl _ (w.heap.size + 1) _ rfl rfl _ rfl _ _ e11 rfl) rfl ⟨a', c', by rw [HF.out]; simp [rnOut, HLX.out], ⟨ps', by rw [HF.out]; simpa [HLX.out] using ho, by rw [HF.out]; exact hxs⟩, hby.trans hb⟩
end Go.Proofs.YtmhijbcbckljmaaGreat

set_option linter.unusedVariables false
namespace Go.Proofs.YtmhijbcbckljmaaGreat
open Go.RowKit Go.Sort

/-- What is known of a region (RJ). -/
def szA (cd : Int) (G B : Nat) : RSpec where
  m := 5
  n := 6
  slots := [45, 46, 10, 100003, 12, 100005]
  kills := [[], [], [], [], [], [3]]
  pres := [[], [], [], [], [], []]
  fact := fun k v w => match k with
    | 0 => ∃ gz, v = .slice (some ⟨gz, 0, none⟩) 0 0 ∧ OwnS B w (some ⟨gz, 0, none⟩) 0 0 []
    | 1 => v = .agg #[.int .i64 0, .int .u64 0, .int .i64 0, .int .i64 0]
    | 2 => ∃ gz, v = .slice (some ⟨gz, 0, none⟩) 0 0 ∧ OwnS B w (some ⟨gz, 0, none⟩) 0 0 []
    | 3 => w.heap[(G + 1)]? = some (.cells #[.int .i64 0, .int .u64 0, .int .i64 0, .int .i64 0] 29 (0, 0))
    | 4 => v = .int .i64 1
    | _ => w.heap[(G + 1)]? = some (.cells #[.int .i64 0, .int .u64 0, .int .i64 0, .int .i64 0] 29 (0, 0))
set_option linter.unusedVariables false in
theorem szA_stb (cd : Int) (G B : Nat) (k : Nat) (hk : k < 6) : StB ((szA cd G (B)).fact k) := by
  match k, hk with
  | 0, _ => exact fun _ _ _ ⟨gz, hv, q_0⟩ hb => ⟨gz, hv, q_0.kept hb⟩
  | 1, _ => exact fun _ _ _ h _ => h
  | 2, _ => exact fun _ _ _ ⟨gz, hv, q_0⟩ hb => ⟨gz, hv, q_0.kept hb⟩
  | 3, _ => exact fun _ _ _ q_0 hb => below_kept q_0 hb
  | 4, _ => exact fun _ _ _ h _ => h
  | 5, _ => exact fun _ _ _ q_0 hb => below_kept q_0 hb
  | k + 6, hk => omega
set_option linter.unusedVariables false in
theorem szA_st3 (cd : Int) (G B : Nat) {W W2 : World} {cs : Array Value} {fr : Nat × Nat} (hg : W.heap[(G + 1)]? = some (.cells cs 29 fr)) (ht : Touch ((G + 1)) ((G + 1) + 1) W W2) (k : Nat) (hk : k < 6) (hne : k ≠ 3) (hkill : 3 ∉ (szA cd G (B)).kill k) (v : Value) (hfact : (szA cd G (B)).fact k v W) : (szA cd G (B)).fact k v W2 := by
  match k, hk, hne, hkill, hfact with
  | 0, _, _, _, ⟨gz, hv, q_0⟩ => exact ⟨gz, hv, q_0.touched hg (by decide) (by decide) ht⟩
  | 1, _, _, _, hq => exact hq
  | 2, _, _, _, ⟨gz, hv, q_0⟩ => exact ⟨gz, hv, q_0.touched hg (by decide) (by decide) ht⟩
  | 3, _, hne, _, _ => exact absurd rfl hne
  | 4, _, _, _, hq => exact hq
  | 5, _, _, hkill, _ => exact absurd (List.Mem.head _) hkill
  | k + 6, hk, _, _, _ => omega
/-- What is known of a region (RJ). -/
def szB (cd : Int) (G B : Nat) : RSpec where
  m := 6
  n := 7
  slots := [62, 63, 64, 10, 100004, 12, 100006]
  kills := [[], [], [], [], [], [], [4]]
  pres := [[], [], [], [], [], [], []]
  fact := fun k v w => match k with
    | 0 => ∃ gz, v = .slice (some ⟨gz, 0, none⟩) 0 0 ∧ OwnS B w (some ⟨gz, 0, none⟩) 0 0 []
    | 1 => v = .agg #[.int .i64 0, .int .u64 0, .int .i64 0, .int .i64 0]
    | 2 => v = .int .i64 cd
    | 3 => ∃ gz, v = .slice (some ⟨gz, 0, none⟩) 0 0 ∧ OwnS B w (some ⟨gz, 0, none⟩) 0 0 []
    | 4 => w.heap[(G + 1)]? = some (.cells #[.int .i64 0, .int .u64 0, .int .i64 0, .int .i64 0] 29 (0, 0))
    | 5 => v = .int .i64 cd
    | _ => w.heap[(G + 1)]? = some (.cells #[.int .i64 0, .int .u64 0, .int .i64 0, .int .i64 0] 29 (0, 0))
set_option linter.unusedVariables false in
theorem szB_stb (cd : Int) (G B : Nat) (k : Nat) (hk : k < 7) : StB ((szB cd G (B)).fact k) := by
  match k, hk with
  | 0, _ => exact fun _ _ _ ⟨gz, hv, q_0⟩ hb => ⟨gz, hv, q_0.kept hb⟩
  | 1, _ => exact fun _ _ _ h _ => h
  | 2, _ => exact fun _ _ _ h _ => h
  | 3, _ => exact fun _ _ _ ⟨gz, hv, q_0⟩ hb => ⟨gz, hv, q_0.kept hb⟩
  | 4, _ => exact fun _ _ _ q_0 hb => below_kept q_0 hb
  | 5, _ => exact fun _ _ _ h _ => h
  | 6, _ => exact fun _ _ _ q_0 hb => below_kept q_0 hb
  | k + 7, hk => omega
set_option linter.unusedVariables false in
theorem szB_st4 (cd : Int) (G B : Nat) {W W2 : World} {cs : Array Value} {fr : Nat × Nat} (hg : W.heap[(G + 1)]? = some (.cells cs 29 fr)) (ht : Touch ((G + 1)) ((G + 1) + 1) W W2) (k : Nat) (hk : k < 7) (hne : k ≠ 4) (hkill : 4 ∉ (szB cd G (B)).kill k) (v : Value) (hfact : (szB cd G (B)).fact k v W) : (szB cd G (B)).fact k v W2 := by
  match k, hk, hne, hkill, hfact with
  | 0, _, _, _, ⟨gz, hv, q_0⟩ => exact ⟨gz, hv, q_0.touched hg (by decide) (by decide) ht⟩
  | 1, _, _, _, hq => exact hq
  | 2, _, _, _, hq => exact hq
  | 3, _, _, _, ⟨gz, hv, q_0⟩ => exact ⟨gz, hv, q_0.touched hg (by decide) (by decide) ht⟩
  | 4, _, hne, _, _ => exact absurd rfl hne
  | 5, _, _, _, hq => exact hq
  | 6, _, _, hkill, _ => exact absurd (List.Mem.head _) hkill
  | k + 7, hk, _, _, _ => omega
/-- What is known of a region (RJ). -/
def s4Sp (ad : Option Addr) (nd cd : Nat) (A0 : Option Addr) (N0 c : Nat) (alg at2 sc x h nn dv : Int) (F : List Int) (V1 : StV) (G B : Nat) : RSpec where
  m := 18
  n := 19
  slots := [48, 49, 50, 51, 52, 53, 54, 55, 56, 47, 57, 58, 59, 14, 15, 14, 15, 16, 100018]
  kills := [[], [], [], [], [], [], [], [], [], [], [], [], [], [15], [16], [], [], [], []]
  pres := [[], [], [], [], [], [], [], [], [], [], [], [], [], [], [], [13], [14], [], []]
  fact := fun k v w => match k with
    | 0 => v = .int .i64 alg
    | 1 => v = .int .i64 alg
    | 2 => v = .slice ad nd cd
    | 3 => v = .slice A0 N0 c
    | 4 => ∃ a5 c5, v = .slice a5 F.length c5 ∧ Own B w a5 F.length c5 F
    | 5 => v = .int .u64 dv
    | 6 => v = .int .i64 at2
    | 7 => v = .agg #[.int .i64 sc, .int .u64 x, .int .i64 h, .int .i64 nn]
    | 8 => ∃ a2 c2, v = .tuple #[.agg #[.int .i64 V1.alg, .int .u64 V1.dg, .int .i64 V1.at2, .int .u64 V1.ky, .slice a2 V1.sg.length c2], .agg #[.int .i64 V1.t.1, .int .u64 V1.t.2.1, .int .i64 V1.t.2.2.1, .int .i64 V1.t.2.2.2], .int .i64 V1.cd] ∧ Own B w a2 V1.sg.length c2 V1.sg
    | 9 => ∃ a2 c2, v = .tuple #[.agg #[.int .i64 V1.alg, .int .u64 V1.dg, .int .i64 V1.at2, .int .u64 V1.ky, .slice a2 V1.sg.length c2], .agg #[.int .i64 V1.t.1, .int .u64 V1.t.2.1, .int .i64 V1.t.2.2.1, .int .i64 V1.t.2.2.2], .int .i64 V1.cd] ∧ Own B w a2 V1.sg.length c2 V1.sg
    | 10 => ∃ a2 c2, v = .agg #[.int .i64 V1.alg, .int .u64 V1.dg, .int .i64 V1.at2, .int .u64 V1.ky, .slice a2 V1.sg.length c2] ∧ Own B w a2 V1.sg.length c2 V1.sg
    | 11 => v = .agg #[.int .i64 V1.t.1, .int .u64 V1.t.2.1, .int .i64 V1.t.2.2.1, .int .i64 V1.t.2.2.2]
    | 12 => v = .int .i64 V1.cd
    | 13 => ∃ gb13, v = .pointer (some ⟨gb13, 0, none⟩) ∧ w.heap[gb13]? = some (.cells #[.int .i64 0, .int .u64 0, .int .i64 0, .int .u64 0, .slice none 0 0] 45 (0, 0)) ∧ B ≤ gb13
    | 14 => ∃ gb14, v = .pointer (some ⟨gb14, 0, none⟩) ∧ w.heap[gb14]? = some (.cells #[.int .i64 0, .int .u64 0, .int .i64 0, .int .i64 0] 29 (0, 0)) ∧ B ≤ gb14
    | 15 => ∃ gs15 a2 c2, v = .pointer (some ⟨gs15, 0, none⟩) ∧ w.heap[gs15]? = some (.cells #[.int .i64 V1.alg, .int .u64 V1.dg, .int .i64 V1.at2, .int .u64 V1.ky, .slice a2 V1.sg.length c2] 45 (0, 0)) ∧ B ≤ gs15 ∧ Own B w a2 V1.sg.length c2 V1.sg
    | 16 => ∃ gs16, v = .pointer (some ⟨gs16, 0, none⟩) ∧ w.heap[gs16]? = some (.cells #[.int .i64 V1.t.1, .int .u64 V1.t.2.1, .int .i64 V1.t.2.2.1, .int .i64 V1.t.2.2.2] 29 (0, 0)) ∧ B ≤ gs16
    | 17 => v = .int .i64 V1.cd
    | _ => w.heap[G]? = some (.cells #[.int .i64 sc, .int .u64 x, .int .i64 h, .int .i64 nn] 29 (0, 0)) ∧ G < B
set_option linter.unusedVariables false in
theorem s4Sp_stb (ad : Option Addr) (nd cd : Nat) (A0 : Option Addr) (N0 c : Nat) (alg at2 sc x h nn dv : Int) (F : List Int) (V1 : StV) (G B : Nat) (k : Nat) (hk : k < 19) : StB ((s4Sp ad nd cd A0 N0 c alg at2 sc x h nn dv F V1 G (B)).fact k) := by
  match k, hk with
  | 0, _ => exact fun _ _ _ h _ => h
  | 1, _ => exact fun _ _ _ h _ => h
  | 2, _ => exact fun _ _ _ h _ => h
  | 3, _ => exact fun _ _ _ h _ => h
  | 4, _ => exact fun _ _ _ ⟨a5, c5, hv, q_0⟩ hb => ⟨a5, c5, hv, q_0.kept hb⟩
  | 5, _ => exact fun _ _ _ h _ => h
  | 6, _ => exact fun _ _ _ h _ => h
  | 7, _ => exact fun _ _ _ h _ => h
  | 8, _ => exact fun _ _ _ ⟨a2, c2, hv, q_0⟩ hb => ⟨a2, c2, hv, q_0.kept hb⟩
  | 9, _ => exact fun _ _ _ ⟨a2, c2, hv, q_0⟩ hb => ⟨a2, c2, hv, q_0.kept hb⟩
  | 10, _ => exact fun _ _ _ ⟨a2, c2, hv, q_0⟩ hb => ⟨a2, c2, hv, q_0.kept hb⟩
  | 11, _ => exact fun _ _ _ h _ => h
  | 12, _ => exact fun _ _ _ h _ => h
  | 13, _ => exact fun _ _ _ ⟨gb13, hv, q_0, q_1⟩ hb => ⟨gb13, hv, below_kept q_0 hb, q_1⟩
  | 14, _ => exact fun _ _ _ ⟨gb14, hv, q_0, q_1⟩ hb => ⟨gb14, hv, below_kept q_0 hb, q_1⟩
  | 15, _ => exact fun _ _ _ ⟨gs15, a2, c2, hv, q_0, q_1, q_2⟩ hb => ⟨gs15, a2, c2, hv, below_kept q_0 hb, q_1, q_2.kept hb⟩
  | 16, _ => exact fun _ _ _ ⟨gs16, hv, q_0, q_1⟩ hb => ⟨gs16, hv, below_kept q_0 hb, q_1⟩
  | 17, _ => exact fun _ _ _ h _ => h
  | 18, _ => exact fun _ _ _ ⟨q_0, q_1⟩ hb => ⟨below_kept q_0 hb, q_1⟩
  | k + 19, hk => omega
set_option linter.unusedVariables false in
theorem s4Sp_st15 (ad : Option Addr) (nd cd : Nat) (A0 : Option Addr) (N0 c : Nat) (alg at2 sc x h nn dv : Int) (F : List Int) (V1 : StV) (G B : Nat) {W W2 : World} {g : Nat} {cs : Array Value} {fr : Nat × Nat} (hg : W.heap[g]? = some (.cells cs 45 fr)) (ht : Touch (g) (g + 1) W W2) (hge : B ≤ g) (k : Nat) (hk : k < 19) (hne : k ≠ 15) (hkill : 15 ∉ (s4Sp ad nd cd A0 N0 c alg at2 sc x h nn dv F V1 G (B)).kill k) (v : Value) (hfact : (s4Sp ad nd cd A0 N0 c alg at2 sc x h nn dv F V1 G (B)).fact k v W) : (s4Sp ad nd cd A0 N0 c alg at2 sc x h nn dv F V1 G (B)).fact k v W2 := by
  match k, hk, hne, hkill, hfact with
  | 0, _, _, _, hq => exact hq
  | 1, _, _, _, hq => exact hq
  | 2, _, _, _, hq => exact hq
  | 3, _, _, _, hq => exact hq
  | 4, _, _, _, ⟨a5, c5, hv, q_0⟩ => exact ⟨a5, c5, hv, ⟨ownsRow_box q_0.row hg (by decide) ht, q_0.byte⟩⟩
  | 5, _, _, _, hq => exact hq
  | 6, _, _, _, hq => exact hq
  | 7, _, _, _, hq => exact hq
  | 8, _, _, _, ⟨a2, c2, hv, q_0⟩ => exact ⟨a2, c2, hv, ⟨ownsRow_box q_0.row hg (by decide) ht, q_0.byte⟩⟩
  | 9, _, _, _, ⟨a2, c2, hv, q_0⟩ => exact ⟨a2, c2, hv, ⟨ownsRow_box q_0.row hg (by decide) ht, q_0.byte⟩⟩
  | 10, _, _, _, ⟨a2, c2, hv, q_0⟩ => exact ⟨a2, c2, hv, ⟨ownsRow_box q_0.row hg (by decide) ht, q_0.byte⟩⟩
  | 11, _, _, _, hq => exact hq
  | 12, _, _, _, hq => exact hq
  | 13, _, _, hkill, _ => exact absurd (List.Mem.head _) hkill
  | 14, _, _, _, ⟨gb14, hv, q_0, q_1⟩ => exact ⟨gb14, hv, box_box q_0 hg (by decide) ht, q_1⟩
  | 15, _, hne, _, _ => exact absurd rfl hne
  | 16, _, _, _, ⟨gs16, hv, q_0, q_1⟩ => exact ⟨gs16, hv, box_box q_0 hg (by decide) ht, q_1⟩
  | 17, _, _, _, hq => exact hq
  | 18, _, _, _, ⟨q_0, q_1⟩ => exact ⟨box_box q_0 hg (by decide) ht, q_1⟩
  | k + 19, hk, _, _, _ => omega
set_option linter.unusedVariables false in
theorem s4Sp_st16 (ad : Option Addr) (nd cd : Nat) (A0 : Option Addr) (N0 c : Nat) (alg at2 sc x h nn dv : Int) (F : List Int) (V1 : StV) (G B : Nat) {W W2 : World} {g : Nat} {cs : Array Value} {fr : Nat × Nat} (hg : W.heap[g]? = some (.cells cs 29 fr)) (ht : Touch (g) (g + 1) W W2) (hge : B ≤ g) (k : Nat) (hk : k < 19) (hne : k ≠ 16) (hkill : 16 ∉ (s4Sp ad nd cd A0 N0 c alg at2 sc x h nn dv F V1 G (B)).kill k) (v : Value) (hfact : (s4Sp ad nd cd A0 N0 c alg at2 sc x h nn dv F V1 G (B)).fact k v W) : (s4Sp ad nd cd A0 N0 c alg at2 sc x h nn dv F V1 G (B)).fact k v W2 := by
  match k, hk, hne, hkill, hfact with
  | 0, _, _, _, hq => exact hq
  | 1, _, _, _, hq => exact hq
  | 2, _, _, _, hq => exact hq
  | 3, _, _, _, hq => exact hq
  | 4, _, _, _, ⟨a5, c5, hv, q_0⟩ => exact ⟨a5, c5, hv, ⟨ownsRow_box q_0.row hg (by decide) ht, q_0.byte⟩⟩
  | 5, _, _, _, hq => exact hq
  | 6, _, _, _, hq => exact hq
  | 7, _, _, _, hq => exact hq
  | 8, _, _, _, ⟨a2, c2, hv, q_0⟩ => exact ⟨a2, c2, hv, ⟨ownsRow_box q_0.row hg (by decide) ht, q_0.byte⟩⟩
  | 9, _, _, _, ⟨a2, c2, hv, q_0⟩ => exact ⟨a2, c2, hv, ⟨ownsRow_box q_0.row hg (by decide) ht, q_0.byte⟩⟩
  | 10, _, _, _, ⟨a2, c2, hv, q_0⟩ => exact ⟨a2, c2, hv, ⟨ownsRow_box q_0.row hg (by decide) ht, q_0.byte⟩⟩
  | 11, _, _, _, hq => exact hq
  | 12, _, _, _, hq => exact hq
  | 13, _, _, _, ⟨gb13, hv, q_0, q_1⟩ => exact ⟨gb13, hv, box_box q_0 hg (by decide) ht, q_1⟩
  | 14, _, _, hkill, _ => exact absurd (List.Mem.head _) hkill
  | 15, _, _, _, ⟨gs15, a2, c2, hv, q_0, q_1, q_2⟩ => exact ⟨gs15, a2, c2, hv, box_box q_0 hg (by decide) ht, q_1, ⟨ownsRow_box q_2.row hg (by decide) ht, q_2.byte⟩⟩
  | 16, _, hne, _, _ => exact absurd rfl hne
  | 17, _, _, _, hq => exact hq
  | 18, _, _, _, ⟨q_0, q_1⟩ => exact ⟨(ht.block _ (Array.getElem?_eq_some_iff.1 q_0).1 (by omega)).trans q_0, q_1⟩
  | k + 19, hk, _, _, _ => omega
/-- What is known of a region (RJ). -/
def s7Sp (A0 : Option Addr) (N0 c : Nat) (xs : List StP) (V1 : StV) (a2 : Option Addr) (c2 gst gsc G R B : Nat) : RSpec where
  m := 9
  n := 13
  slots := [65, 66, 67, 68, 69, 70, 10, 100007, 12, 100009, 100010, 100011, 100012]
  kills := [[], [4], [], [4], [], [], [], [], [], [], [], [7], []]
  pres := [[], [], [], [], [], [], [4], [], [], [], [], [], []]
  fact := fun k v w => match k with
    | 0 => v = .slice A0 N0 c
    | 1 => ∃ a1 c1 ps, v = .slice a1 N0 c1 ∧ OwnS R w a1 N0 c1 ps ∧ xsOf ps = xs
    | 2 => v = .agg #[.int .i64 V1.alg, .int .u64 V1.dg, .int .i64 V1.at2, .int .u64 V1.ky, .slice a2 V1.sg.length c2]
    | 3 => ∃ gk, v = .slice (some ⟨gk, 0, none⟩) 1 1 ∧ w.heap[gk]? = some (.cells #[.int .i64 V1.alg, .int .u64 V1.dg, .int .i64 V1.at2, .int .u64 V1.ky, .slice a2 V1.sg.length c2] 45 (0, 0))
    | 4 => ∃ a' c' ps', v = .slice a' (N0 + 1) c' ∧ OwnS B w a' (N0 + 1) c' ps' ∧ xsOf ps' = xs ++ [stOf V1]
    | 5 => v = .agg #[.int .i64 V1.t.1, .int .u64 V1.t.2.1, .int .i64 V1.t.2.2.1, .int .i64 V1.t.2.2.2]
    | 6 => ∃ a' c' ps', v = .slice a' (N0 + 1) c' ∧ OwnS B w a' (N0 + 1) c' ps' ∧ xsOf ps' = xs ++ [stOf V1]
    | 7 => w.heap[(G + 1)]? = some (.cells #[.int .i64 V1.t.1, .int .u64 V1.t.2.1, .int .i64 V1.t.2.2.1, .int .i64 V1.t.2.2.2] 29 (0, 0))
    | 8 => v = .int .i64 0
    | 9 => w.heap[gst]? = some (.cells #[.int .i64 V1.alg, .int .u64 V1.dg, .int .i64 V1.at2, .int .u64 V1.ky, .slice a2 V1.sg.length c2] 45 (0, 0))
    | 10 => w.heap[gsc]? = some (.cells #[.int .i64 V1.t.1, .int .u64 V1.t.2.1, .int .i64 V1.t.2.2.1, .int .i64 V1.t.2.2.2] 29 (0, 0)) ∧ gsc ≠ G + 1
    | 11 => w.heap[(G + 1)]? = some (.cells #[.int .i64 0, .int .u64 0, .int .i64 0, .int .i64 0] 29 (0, 0))
    | _ => Own B w a2 V1.sg.length c2 V1.sg
set_option linter.unusedVariables false in
theorem s7Sp_stb (A0 : Option Addr) (N0 c : Nat) (xs : List StP) (V1 : StV) (a2 : Option Addr) (c2 gst gsc G R B : Nat) (k : Nat) (hk : k < 13) : StB ((s7Sp A0 N0 c xs V1 a2 c2 gst gsc G R (B)).fact k) := by
  match k, hk with
  | 0, _ => exact fun _ _ _ h _ => h
  | 1, _ => exact fun _ _ _ ⟨a1, c1, ps, hv, q_0, q_1⟩ hb => ⟨a1, c1, ps, hv, q_0.kept hb, q_1⟩
  | 2, _ => exact fun _ _ _ h _ => h
  | 3, _ => exact fun _ _ _ ⟨gk, hv, q_0⟩ hb => ⟨gk, hv, below_kept q_0 hb⟩
  | 4, _ => exact fun _ _ _ ⟨a', c', ps', hv, q_0, q_1⟩ hb => ⟨a', c', ps', hv, q_0.kept hb, q_1⟩
  | 5, _ => exact fun _ _ _ h _ => h
  | 6, _ => exact fun _ _ _ ⟨a', c', ps', hv, q_0, q_1⟩ hb => ⟨a', c', ps', hv, q_0.kept hb, q_1⟩
  | 7, _ => exact fun _ _ _ q_0 hb => below_kept q_0 hb
  | 8, _ => exact fun _ _ _ h _ => h
  | 9, _ => exact fun _ _ _ q_0 hb => below_kept q_0 hb
  | 10, _ => exact fun _ _ _ ⟨q_0, q_1⟩ hb => ⟨below_kept q_0 hb, q_1⟩
  | 11, _ => exact fun _ _ _ q_0 hb => below_kept q_0 hb
  | 12, _ => exact fun _ _ _ q_0 hb => q_0.kept hb
  | k + 13, hk => omega
set_option linter.unusedVariables false in
theorem s7Sp_st7 (A0 : Option Addr) (N0 c : Nat) (xs : List StP) (V1 : StV) (a2 : Option Addr) (c2 gst gsc G R B : Nat) {W W2 : World} {cs : Array Value} {fr : Nat × Nat} (hg : W.heap[(G + 1)]? = some (.cells cs 29 fr)) (ht : Touch ((G + 1)) ((G + 1) + 1) W W2) (k : Nat) (hk : k < 13) (hne : k ≠ 7) (hkill : 7 ∉ (s7Sp A0 N0 c xs V1 a2 c2 gst gsc G R (B)).kill k) (v : Value) (hfact : (s7Sp A0 N0 c xs V1 a2 c2 gst gsc G R (B)).fact k v W) : (s7Sp A0 N0 c xs V1 a2 c2 gst gsc G R (B)).fact k v W2 := by
  match k, hk, hne, hkill, hfact with
  | 0, _, _, _, hq => exact hq
  | 1, _, _, _, ⟨a1, c1, ps, hv, q_0, q_1⟩ => exact ⟨a1, c1, ps, hv, q_0.touched hg (by decide) (by decide) ht, q_1⟩
  | 2, _, _, _, hq => exact hq
  | 3, _, _, _, ⟨gk, hv, q_0⟩ => exact ⟨gk, hv, box_box q_0 hg (by decide) ht⟩
  | 4, _, _, _, ⟨a', c', ps', hv, q_0, q_1⟩ => exact ⟨a', c', ps', hv, q_0.touched hg (by decide) (by decide) ht, q_1⟩
  | 5, _, _, _, hq => exact hq
  | 6, _, _, _, ⟨a', c', ps', hv, q_0, q_1⟩ => exact ⟨a', c', ps', hv, q_0.touched hg (by decide) (by decide) ht, q_1⟩
  | 7, _, hne, _, _ => exact absurd rfl hne
  | 8, _, _, _, hq => exact hq
  | 9, _, _, _, q_0 => exact box_box q_0 hg (by decide) ht
  | 10, _, _, _, ⟨q_0, q_1⟩ => exact ⟨(ht.block _ (Array.getElem?_eq_some_iff.1 q_0).1 (by omega)).trans q_0, q_1⟩
  | 11, _, _, hkill, _ => exact absurd (List.Mem.head _) hkill
  | 12, _, _, _, q_0 => exact ⟨ownsRow_box q_0.row hg (by decide) ht, q_0.byte⟩
  | k + 13, hk, _, _, _ => omega
set_option linter.unusedVariables false in
theorem s7Sp_st4 (A0 : Option Addr) (N0 c : Nat) (xs : List StP) (V1 : StV) (a2 : Option Addr) (c2 gst gsc G R B : Nat) {W W2 : World} {row : Option Nat} (hbR : Below R W W2) (hg : W.grownBy W2 row) (hlo : ∀ k, row = some k → R ≤ k) (hj : ∀ k, (Value.slice a2 V1.sg.length c2).ownBlock = some k → k < R) (L14 : gst < R) (L15 : gsc < R) (LG : G + 1 < R) {lq : Nat → Bool} (l6 : lq 6 = false) (k : Nat) (hk : k < 13) (hne : k ≠ 4) (hl : lq k = true) (hkill : ∀ j ∈ (s7Sp A0 N0 c xs V1 a2 c2 gst gsc G R (B)).kill k, upd lq 4 j = false) (v : Value) (hfact : (s7Sp A0 N0 c xs V1 a2 c2 gst gsc G R (B)).fact k v W) : (s7Sp A0 N0 c xs V1 a2 c2 gst gsc G R (B)).fact k v W2 := by
  match k, hk, hne, hl, hkill, hfact with
  | 0, _, _, _, _, hq => exact hq
  | 1, _, _, _, hkill, _ => exact absurd (hkill 4 (List.Mem.head _)) (by rw [upd_same]; decide)
  | 2, _, _, _, _, hq => exact hq
  | 3, _, _, _, hkill, _ => exact absurd (hkill 4 (List.Mem.head _)) (by rw [upd_same]; decide)
  | 4, _, hne, _, _, _ => exact absurd rfl hne
  | 5, _, _, _, _, hq => exact hq
  | 6, _, _, hl, _, _ => exact absurd hl (by rw [l6]; decide)
  | 7, _, _, _, _, q_0 => exact (hbR.block _ (by omega)).trans q_0
  | 8, _, _, _, _, hq => exact hq
  | 9, _, _, _, _, q_0 => exact (hbR.block _ (by omega)).trans q_0
  | 10, _, _, _, _, ⟨q_0, q_1⟩ => exact ⟨(hbR.block _ (by omega)).trans q_0, q_1⟩
  | 11, _, _, _, _, q_0 => exact (hbR.block _ (by omega)).trans q_0
  | 12, _, _, _, _, q_0 => exact own_grownGe q_0 hg hlo hj
  | k + 13, hk, _, _, _, _ => omega

set_option maxRecDepth 10000 in
set_option maxHeartbeats 4000000 in
theorem specRenew_any (HSPEC : ∀ (seed h next : Int) (am : Option Addr) (n c : Nat) (bs : List Int) (w : World), U64 seed → Row w am n bs → n ≤ 1000000000000 → Calls Tryz.prog 58 #[tkv seed h next, .slice am n c] w fun e w' => ∃ v, e = .returned v ∧ SgR seed h next bs w.heap.size w' v ∧ Below w.heap.size w w') (ad : Option Addr) (nd cd : Nat) (doc : List Int) (A0 : Option Addr) (N0 c : Nat) (xs : List StP) (alg at2 sc x h nn : Int) (w : World) (hd : Row w ad nd doc) (hd0 : ad = none → cd = 0) (hdm : nd ≤ 9223372036854775807) (hst : Sts (fun n c => n = c ∧ n ≤ 1048576) w A0 N0 xs) (hx : U64 x) (hal : -9223372036854775808 ≤ alg ∧ alg ≤ 9223372036854775807) (hat : -9223372036854775808 ≤ at2 ∧ at2 ≤ 9223372036854775807) :
    Calls Tryz.prog 5 #[.slice ad nd cd, .slice A0 N0 c, .int .i64 alg, .int .i64 at2, .agg #[.int .i64 sc, .int .u64 x, .int .i64 h, .int .i64 nn]] w fun e w' => ∃ a2 c2, e = .returned (rnOut (rnV doc xs N0 alg at2 sc x h nn) a2 c2) ∧ (∃ ps, OwnS w.heap.size w' a2 (rnV doc xs N0 alg at2 sc x h nn).xs.length c2 ps ∧ xsOf ps = (rnV doc xs N0 alg at2 sc x h nn).xs) ∧ Below w.heap.size w w' := by
  obtain ⟨i0, hi, hz0, hz1, hz2⟩ := info_parts Tryz.infoSt
  obtain ⟨V, hV⟩ : ∃ V, V = (rnV doc xs N0 alg at2 sc x h nn) := ⟨_, rfl⟩
  obtain ⟨F, hF⟩ : ∃ F, F = covd doc xs N0 := ⟨_, rfl⟩
  obtain ⟨dv, hdv⟩ : ∃ dv, dv = dgR alg F := ⟨_, rfl⟩
  obtain ⟨V1, hV1⟩ : ∃ V1, V1 = stV alg dv at2 sc x h nn := ⟨_, rfl⟩
  have HVT : Hid (rnP doc xs N0 at2 → V = if V1.cd = 0 then ⟨xs ++ [stOf V1], V1.t, 0⟩ else rnBad V1.cd) := fun hp => by rw [hV]; unfold rnV; rw [if_pos hp, ← hF, ← hdv, ← hV1]
  have HVF : Hid (¬ rnP doc xs N0 at2 → V = rnBad 1) := fun hp => by rw [hV]; unfold rnV; rw [if_neg hp]
  have HLD : Hid (doc.length = nd) := hd.len
  have HLX : Hid (xs.length = N0) := hst.len
  have hnm := hst.max
  have HRG : Hid (U64 (stOf V1).dg ∧ U64 (stOf V1).ky) := by show _ ∧ _; rw [hV1]; exact stV_rng _ _ _ _ _ _ _ (by rw [hdv]; exact dgR_bd _ _)
  have HST : Hid (∀ W, Below w.heap.size w W → Sts (fun n c => n = c ∧ n ≤ 1048576) W A0 N0 xs) := fun W hW => hst.kept hW
  have HRD : Hid (∀ W, Below w.heap.size w W → Row W ad nd doc) := fun W hW => hd.kept hW
  have HDG : Hid (∀ W am c, Row W am F.length F → (am = none → c = 0) → F.length ≤ 1048576 → Calls Tryz.prog 19 #[.int .i64 alg, .slice am F.length c] W fun e w' => e = .returned (.int .u64 dv) ∧ Below W.heap.size W w') := by
    intro W am c h1 h2 h3
    rw [hdv]
    exact specDigestBy_any alg am F.length c F W h1 h3 h2
  have HMS : Hid (∀ W, Calls Tryz.prog 18 #[.int .i64 alg, .int .u64 dv, .int .i64 at2, .agg #[.int .i64 sc, .int .u64 x, .int .i64 h, .int .i64 nn]] W fun e w' => ∃ a2 c2, e = .returned (.tuple #[.agg #[.int .i64 V1.alg, .int .u64 V1.dg, .int .i64 V1.at2, .int .u64 V1.ky, .slice a2 V1.sg.length c2], .agg #[.int .i64 V1.t.1, .int .u64 V1.t.2.1, .int .i64 V1.t.2.2.1, .int .i64 V1.t.2.2.2], .int .i64 V1.cd]) ∧ Own W.heap.size w' a2 V1.sg.length c2 V1.sg ∧ Below W.heap.size W w') := by
    intro W
    rw [hV1]
    exact specMakeStamp_any HSPEC alg dv at2 sc x h nn W (by rw [hdv]; exact dgR_bd _ _) hx hal hat
  have HFE : Hid (F = covd doc xs N0) := hF
  rw [← hV]
  clear hV hF hdv hV1 hst hd
  obtain ⟨w1, hw1⟩ : ∃ w1, w1 = (w.alloc (.cells #[.int .i64 sc, .int .u64 x, .int .i64 h, .int .i64 nn] 29)).alloc (.cells #[.int .i64 0, .int .u64 0, .int .i64 0, .int .i64 0] 29) := ⟨_, rfl⟩
  have hbb : Below w.heap.size w w1 := by rw [hw1]; exact two_below w _ _
  have HB1 : Hid (w1.heap[w.heap.size]? = some (.cells #[.int .i64 sc, .int .u64 x, .int .i64 h, .int .i64 nn] 29 (0, 0)) ∧ w1.heap[w.heap.size + 1]? = some (.cells #[.int .i64 0, .int .u64 0, .int .i64 0, .int .i64 0] 29 (0, 0))) := by show _ ∧ _; rw [hw1]; exact two_blocks w _ _
  have HW : Hid (_ = _) := hw1
  clear hw1
  go_enter Tryz.func5, Tryz.ntmps5
  go_upto_region 1 with fail
  rw [← HW.out]
  clear HW
  by_cases g2 : 8 ≤ N0
  case pos =>
    have z2 : (8 : Int) ≤ (N0 : Int) := by omega
    obtain ⟨wq, hwq⟩ : ∃ wq, wq = w1 := ⟨_, rfl⟩
    subst hwq
    have HF := (show Hid (V = rnBad 1) from HVF.out (fun hp => by have h1 := hp.1; omega))
    have HQ : Hid (wq.heap[w.heap.size + 1]? = some (.cells #[.int .i64 0, .int .u64 0, .int .i64 0, .int .i64 0] 29 (0, 0))) := HB1.out.2
    have hcq : Below w.heap.size w wq := hbb
    go_upto_region 3 with fail
    have HBB : w.heap.size ≤ wq.heap.size := hcq.size
    refine wp_region_rp (szA 1 w.heap.size (w.heap.size)) [10, 12, 45, 46] (w.heap.size) (fun a0 => a0.tmps.size = 71 ∧ aT a0 11 = .pointer (some ⟨(w.heap.size + 1), 0, none⟩)) rfl (by kernel_rfl) rfl ⟨rfl, rfl⟩ (szA_stb 1 w.heap.size (w.heap.size)) ?_ ?_ ?_
    · intro k hk hk2
      match k, hk, hk2 with
      | 5, _, _ => exact HQ.out
      | 0, hk, _ => exact absurd hk (by show ¬ (5 ≤ 0); omega)
      | 1, hk, _ => exact absurd hk (by show ¬ (5 ≤ 1); omega)
      | 2, hk, _ => exact absurd hk (by show ¬ (5 ≤ 2); omega)
      | 3, hk, _ => exact absurd hk (by show ¬ (5 ≤ 3); omega)
      | 4, hk, _ => exact absurd hk (by show ¬ (5 ≤ 4); omega)
      | k + 6, _, hk2 => exact absurd hk2 (by show ¬ (k + 6 < 6); omega)
    · rintro a0 ⟨hz, g11⟩
      refine StepsRI.cons ?_ (StepsRI.cons ?_ (StepsRI.cons ?_ (StepsRI.cons ?_ (StepsRI.cons ?_ (StepsRI.nil)))))
      · intro lQ b W hI hUN hED KQ hKQ
        refine opw_buildSlice _ 0 _ rfl #[] (by simp) (.slice (some ⟨W.heap.size, 0, none⟩) 0 0) (W.alloc (.cells #[] 45)) (by kernel_rfl) ?_
        exact hKQ.out _ _ (hI.put 0 45 rfl rfl (by rw [hz]; decide) rfl hUN rfl HBB (szA_stb 1 w.heap.size (w.heap.size)) ((Below.refl _ _).alloc (Nat.le_refl _) _) ⟨W.heap.size, rfl, ownS_empty W (Nat.le_trans HBB hI.bel.size)⟩)
      · intro lQ b W hI hUN hED KQ hKQ
        refine opw_build 29 _ rfl #[] (by simp []) (.agg #[.int .i64 0, .int .u64 0, .int .i64 0, .int .i64 0]) (by kernel_rfl) ?_
        exact hKQ.out _ _ (hI.put 1 46 rfl rfl (by rw [hz]; decide) rfl hUN rfl HBB (szA_stb 1 w.heap.size (w.heap.size)) (Below.refl _ _) rfl)
      · intro lQ b W hI hUN hED KQ hKQ
        have f := hI.got 0 (of_decide_eq_true rfl) (edge hED 0 (by kernel_rfl)) rfl
        exact opw_assign 45 rfl (hKQ.out _ _ (hI.put 2 10 rfl rfl (by rw [hz]; decide) rfl hUN rfl HBB (szA_stb 1 w.heap.size (w.heap.size)) (Below.refl _ _) f))
      · intro lQ b W hI hUN hED KQ hKQ
        have hgb := (hI.vot1 5 3 (of_decide_eq_true rfl) (of_decide_eq_true rfl) hUN rfl)
        have fb := ((hI.fr.same 11 (by decide)).trans g11)
        have f := hI.got 1 (of_decide_eq_true rfl) (edge hED 1 (by kernel_rfl)) rfl
        refine wp_store_row 29 _ _ rfl ((w.heap.size + 1)) #[.int .i64 0, .int .u64 0, .int .i64 0, .int .i64 0] fb f 29 _ hgb (by kernel_rfl) rfl (by simp [Value.oneCell']) ?_
        have ht := setRow_touch W ((w.heap.size + 1)) #[.int .i64 0, .int .u64 0, .int .i64 0, .int .i64 0]
        exact hKQ.out _ _ (hI.store 3 (fun j hj => by cases hj) (hI.bel.trans (ht.below (by first | exact HGE11 | omega) (Nat.le_trans HBB hI.bel.size))) (szA_st3 1 w.heap.size (w.heap.size) hgb ht) (setRow_heap W ((w.heap.size + 1)) _ _ _ _ hgb))
      · intro lQ b W hI hUN hED KQ hKQ
        exact opw_const (.int .i64 1) rfl (hKQ.out _ _ (hI.put 4 12 rfl rfl (by rw [hz]; decide) rfl hUN rfl HBB (szA_stb 1 w.heap.size (w.heap.size)) (Below.refl _ _) rfl))
    · intro b W hf hb F
      have e0 := F 3 (of_decide_eq_true rfl) rfl
      obtain ⟨gz, e1, hoz⟩ := F 2 (of_decide_eq_true rfl) rfl
      have e3 := F 4 (of_decide_eq_true rfl) rfl
      replace e1 : aT b 10 = _ := e1
      replace e3 : aT b 12 = _ := e3
      rw [hf.eq]
      simp only [puts, Act.put, List.setIfInBounds_toArray, List.set_cons_zero, List.set_cons_succ, e1, e3]
      clear hf F
      go_wp2
      try simp only [Exit.inBlock, Exit.then]
      exact bodyPost_ret (results_rn rfl _ (w.heap.size + 1) _ rfl rfl _ rfl _ _ e0 rfl) rfl ⟨some ⟨gz, 0, none⟩, 0, by rw [HF.out]; rfl, ⟨[], by rw [HF.out]; exact hoz, by rw [HF.out]; rfl⟩, hcq.trans hb⟩

  have z2 : ¬ ((8 : Int) ≤ (N0 : Int)) := by omega
  by_cases g1 : 4000 < nd
  case pos =>
    have z1 : (4000 : Int) < (nd : Int) := by omega
    obtain ⟨wq, hwq⟩ : ∃ wq, wq = w1 := ⟨_, rfl⟩
    subst hwq
    have HF := (show Hid (V = rnBad 1) from HVF.out (fun hp => by have h1 := hp.2.1; have h2 := HLD.out; omega))
    have HQ : Hid (wq.heap[w.heap.size + 1]? = some (.cells #[.int .i64 0, .int .u64 0, .int .i64 0, .int .i64 0] 29 (0, 0))) := HB1.out.2
    have hcq : Below w.heap.size w wq := hbb
    go_upto_region 3 with fail
    have HBB : w.heap.size ≤ wq.heap.size := hcq.size
    refine wp_region_rp (szA 1 w.heap.size (w.heap.size)) [10, 12, 45, 46] (w.heap.size) (fun a0 => a0.tmps.size = 71 ∧ aT a0 11 = .pointer (some ⟨(w.heap.size + 1), 0, none⟩)) rfl (by kernel_rfl) rfl ⟨rfl, rfl⟩ (szA_stb 1 w.heap.size (w.heap.size)) ?_ ?_ ?_
    · intro k hk hk2
      match k, hk, hk2 with
      | 5, _, _ => exact HQ.out
      | 0, hk, _ => exact absurd hk (by show ¬ (5 ≤ 0); omega)
      | 1, hk, _ => exact absurd hk (by show ¬ (5 ≤ 1); omega)
      | 2, hk, _ => exact absurd hk (by show ¬ (5 ≤ 2); omega)
      | 3, hk, _ => exact absurd hk (by show ¬ (5 ≤ 3); omega)
      | 4, hk, _ => exact absurd hk (by show ¬ (5 ≤ 4); omega)
      | k + 6, _, hk2 => exact absurd hk2 (by show ¬ (k + 6 < 6); omega)
    · rintro a0 ⟨hz, g11⟩
      refine StepsRI.cons ?_ (StepsRI.cons ?_ (StepsRI.cons ?_ (StepsRI.cons ?_ (StepsRI.cons ?_ (StepsRI.nil)))))
      · intro lQ b W hI hUN hED KQ hKQ
        refine opw_buildSlice _ 0 _ rfl #[] (by simp) (.slice (some ⟨W.heap.size, 0, none⟩) 0 0) (W.alloc (.cells #[] 45)) (by kernel_rfl) ?_
        exact hKQ.out _ _ (hI.put 0 45 rfl rfl (by rw [hz]; decide) rfl hUN rfl HBB (szA_stb 1 w.heap.size (w.heap.size)) ((Below.refl _ _).alloc (Nat.le_refl _) _) ⟨W.heap.size, rfl, ownS_empty W (Nat.le_trans HBB hI.bel.size)⟩)
      · intro lQ b W hI hUN hED KQ hKQ
        refine opw_build 29 _ rfl #[] (by simp []) (.agg #[.int .i64 0, .int .u64 0, .int .i64 0, .int .i64 0]) (by kernel_rfl) ?_
        exact hKQ.out _ _ (hI.put 1 46 rfl rfl (by rw [hz]; decide) rfl hUN rfl HBB (szA_stb 1 w.heap.size (w.heap.size)) (Below.refl _ _) rfl)
      · intro lQ b W hI hUN hED KQ hKQ
        have f := hI.got 0 (of_decide_eq_true rfl) (edge hED 0 (by kernel_rfl)) rfl
        exact opw_assign 45 rfl (hKQ.out _ _ (hI.put 2 10 rfl rfl (by rw [hz]; decide) rfl hUN rfl HBB (szA_stb 1 w.heap.size (w.heap.size)) (Below.refl _ _) f))
      · intro lQ b W hI hUN hED KQ hKQ
        have hgb := (hI.vot1 5 3 (of_decide_eq_true rfl) (of_decide_eq_true rfl) hUN rfl)
        have fb := ((hI.fr.same 11 (by decide)).trans g11)
        have f := hI.got 1 (of_decide_eq_true rfl) (edge hED 1 (by kernel_rfl)) rfl
        refine wp_store_row 29 _ _ rfl ((w.heap.size + 1)) #[.int .i64 0, .int .u64 0, .int .i64 0, .int .i64 0] fb f 29 _ hgb (by kernel_rfl) rfl (by simp [Value.oneCell']) ?_
        have ht := setRow_touch W ((w.heap.size + 1)) #[.int .i64 0, .int .u64 0, .int .i64 0, .int .i64 0]
        exact hKQ.out _ _ (hI.store 3 (fun j hj => by cases hj) (hI.bel.trans (ht.below (by first | exact HGE11 | omega) (Nat.le_trans HBB hI.bel.size))) (szA_st3 1 w.heap.size (w.heap.size) hgb ht) (setRow_heap W ((w.heap.size + 1)) _ _ _ _ hgb))
      · intro lQ b W hI hUN hED KQ hKQ
        exact opw_const (.int .i64 1) rfl (hKQ.out _ _ (hI.put 4 12 rfl rfl (by rw [hz]; decide) rfl hUN rfl HBB (szA_stb 1 w.heap.size (w.heap.size)) (Below.refl _ _) rfl))
    · intro b W hf hb F
      have e0 := F 3 (of_decide_eq_true rfl) rfl
      obtain ⟨gz, e1, hoz⟩ := F 2 (of_decide_eq_true rfl) rfl
      have e3 := F 4 (of_decide_eq_true rfl) rfl
      replace e1 : aT b 10 = _ := e1
      replace e3 : aT b 12 = _ := e3
      rw [hf.eq]
      simp only [puts, Act.put, List.setIfInBounds_toArray, List.set_cons_zero, List.set_cons_succ, e1, e3]
      clear hf F
      go_wp2
      try simp only [Exit.inBlock, Exit.then]
      exact bodyPost_ret (results_rn rfl _ (w.heap.size + 1) _ rfl rfl _ rfl _ _ e0 rfl) rfl ⟨some ⟨gz, 0, none⟩, 0, by rw [HF.out]; rfl, ⟨[], by rw [HF.out]; exact hoz, by rw [HF.out]; rfl⟩, hcq.trans hb⟩

  have z1 : ¬ ((4000 : Int) < (nd : Int)) := by omega
  go_wp2_with fail
  refine (l18ChainOk_any _ A0 N0 c xs _ (HST.out _ hbb)).mono ?_
  rintro e wq ⟨bo, rfl, HE, hbq⟩
  cases bo with
  | false =>
    have HF := (show Hid (V = rnBad 1) from HVF.out (fun hp => by have h1 := HE.out.2 ⟨hp.2.2.1, by omega⟩; cases h1))
    have HQ : Hid (wq.heap[w.heap.size + 1]? = some (.cells #[.int .i64 0, .int .u64 0, .int .i64 0, .int .i64 0] 29 (0, 0))) := below_kept HB1.out.2 hbq
    have hcq : Below w.heap.size w wq := keepT hbb hbq
    go_upto_region 3 with fail
    have HBB : w.heap.size ≤ wq.heap.size := hcq.size
    refine wp_region_rp (szA 1 w.heap.size (w.heap.size)) [10, 12, 45, 46] (w.heap.size) (fun a0 => a0.tmps.size = 71 ∧ aT a0 11 = .pointer (some ⟨(w.heap.size + 1), 0, none⟩)) rfl (by kernel_rfl) rfl ⟨rfl, rfl⟩ (szA_stb 1 w.heap.size (w.heap.size)) ?_ ?_ ?_
    · intro k hk hk2
      match k, hk, hk2 with
      | 5, _, _ => exact HQ.out
      | 0, hk, _ => exact absurd hk (by show ¬ (5 ≤ 0); omega)
      | 1, hk, _ => exact absurd hk (by show ¬ (5 ≤ 1); omega)
      | 2, hk, _ => exact absurd hk (by show ¬ (5 ≤ 2); omega)
      | 3, hk, _ => exact absurd hk (by show ¬ (5 ≤ 3); omega)
      | 4, hk, _ => exact absurd hk (by show ¬ (5 ≤ 4); omega)
      | k + 6, _, hk2 => exact absurd hk2 (by show ¬ (k + 6 < 6); omega)
    · rintro a0 ⟨hz, g11⟩
      refine StepsRI.cons ?_ (StepsRI.cons ?_ (StepsRI.cons ?_ (StepsRI.cons ?_ (StepsRI.cons ?_ (StepsRI.nil)))))
      · intro lQ b W hI hUN hED KQ hKQ
        refine opw_buildSlice _ 0 _ rfl #[] (by simp) (.slice (some ⟨W.heap.size, 0, none⟩) 0 0) (W.alloc (.cells #[] 45)) (by kernel_rfl) ?_
        exact hKQ.out _ _ (hI.put 0 45 rfl rfl (by rw [hz]; decide) rfl hUN rfl HBB (szA_stb 1 w.heap.size (w.heap.size)) ((Below.refl _ _).alloc (Nat.le_refl _) _) ⟨W.heap.size, rfl, ownS_empty W (Nat.le_trans HBB hI.bel.size)⟩)
      · intro lQ b W hI hUN hED KQ hKQ
        refine opw_build 29 _ rfl #[] (by simp []) (.agg #[.int .i64 0, .int .u64 0, .int .i64 0, .int .i64 0]) (by kernel_rfl) ?_
        exact hKQ.out _ _ (hI.put 1 46 rfl rfl (by rw [hz]; decide) rfl hUN rfl HBB (szA_stb 1 w.heap.size (w.heap.size)) (Below.refl _ _) rfl)
      · intro lQ b W hI hUN hED KQ hKQ
        have f := hI.got 0 (of_decide_eq_true rfl) (edge hED 0 (by kernel_rfl)) rfl
        exact opw_assign 45 rfl (hKQ.out _ _ (hI.put 2 10 rfl rfl (by rw [hz]; decide) rfl hUN rfl HBB (szA_stb 1 w.heap.size (w.heap.size)) (Below.refl _ _) f))
      · intro lQ b W hI hUN hED KQ hKQ
        have hgb := (hI.vot1 5 3 (of_decide_eq_true rfl) (of_decide_eq_true rfl) hUN rfl)
        have fb := ((hI.fr.same 11 (by decide)).trans g11)
        have f := hI.got 1 (of_decide_eq_true rfl) (edge hED 1 (by kernel_rfl)) rfl
        refine wp_store_row 29 _ _ rfl ((w.heap.size + 1)) #[.int .i64 0, .int .u64 0, .int .i64 0, .int .i64 0] fb f 29 _ hgb (by kernel_rfl) rfl (by simp [Value.oneCell']) ?_
        have ht := setRow_touch W ((w.heap.size + 1)) #[.int .i64 0, .int .u64 0, .int .i64 0, .int .i64 0]
        exact hKQ.out _ _ (hI.store 3 (fun j hj => by cases hj) (hI.bel.trans (ht.below (by first | exact HGE11 | omega) (Nat.le_trans HBB hI.bel.size))) (szA_st3 1 w.heap.size (w.heap.size) hgb ht) (setRow_heap W ((w.heap.size + 1)) _ _ _ _ hgb))
      · intro lQ b W hI hUN hED KQ hKQ
        exact opw_const (.int .i64 1) rfl (hKQ.out _ _ (hI.put 4 12 rfl rfl (by rw [hz]; decide) rfl hUN rfl HBB (szA_stb 1 w.heap.size (w.heap.size)) (Below.refl _ _) rfl))
    · intro b W hf hb F
      have e0 := F 3 (of_decide_eq_true rfl) rfl
      obtain ⟨gz, e1, hoz⟩ := F 2 (of_decide_eq_true rfl) rfl
      have e3 := F 4 (of_decide_eq_true rfl) rfl
      replace e1 : aT b 10 = _ := e1
      replace e3 : aT b 12 = _ := e3
      rw [hf.eq]
      simp only [puts, Act.put, List.setIfInBounds_toArray, List.set_cons_zero, List.set_cons_succ, e1, e3]
      clear hf F
      go_wp2
      try simp only [Exit.inBlock, Exit.then]
      exact bodyPost_ret (results_rn rfl _ (w.heap.size + 1) _ rfl rfl _ rfl _ _ e0 rfl) rfl ⟨some ⟨gz, 0, none⟩, 0, by rw [HF.out]; rfl, ⟨[], by rw [HF.out]; exact hoz, by rw [HF.out]; rfl⟩, hcq.trans hb⟩

  | true =>
    have HAS : Hid (AllSt xs N0) := (HE.out.1 rfl).1
    have hcq : Below w.heap.size w wq := keepT hbb hbq
    have HQ0 : Hid (wq.heap[w.heap.size]? = some (.cells #[.int .i64 sc, .int .u64 x, .int .i64 h, .int .i64 nn] 29 (0, 0))) := below_kept HB1.out.1 hbq
    have HQ : Hid (wq.heap[w.heap.size + 1]? = some (.cells #[.int .i64 0, .int .u64 0, .int .i64 0, .int .i64 0] 29 (0, 0))) := below_kept HB1.out.2 hbq
    clear HE hbq HB1 hbb
    have hlq : w.heap.size + 1 < wq.heap.size := (Array.getElem?_eq_some_iff.1 HQ.out).1
    by_cases g3 : N0 = 0
    case pos =>
      subst g3
      have HP : Hid (rnP doc xs 0 at2) := ⟨by omega, by have := HLD.out; omega, HAS.out, fun h => absurd h (Nat.lt_irrefl 0)⟩
      have HV1 := (show Hid (V = if V1.cd = 0 then ⟨xs ++ [stOf V1], V1.t, 0⟩ else rnBad V1.cd) from HVT.out HP.out)
      have hfl : F.length ≤ 13000 := by have h1 := covd_len doc xs 0 HAS.out 0 (Nat.le_refl _); have h2 := HLD.out; rw [HFE.out]; omega
      have HCO : Hid (∀ W, Below wq.heap.size wq W → Calls Tryz.prog 20 #[.slice ad nd cd, .slice A0 0 c] W fun e w' => ∃ a' c', e = .returned (.slice a' F.length c') ∧ Own W.heap.size w' a' F.length c' F ∧ Below W.heap.size W w') := by
        intro W hW
        rw [HFE.out]
        exact l18Covers_any ad nd cd doc A0 0 c xs W (HRD.out W (keepT hcq hW)) hd0 (by omega) (HST.out W (keepT hcq hW)) HAS.out (by omega)
      go_upto_region 4 with fail
      have HBB : wq.heap.size ≤ wq.heap.size := Nat.le_refl _
      refine wp_region_ri (s4Sp ad nd cd A0 0 c alg at2 sc x h nn dv F V1 w.heap.size (wq.heap.size)) [14, 15, 16, 47, 48, 49, 50, 51, 52, 53, 54, 55, 56, 57, 58, 59] (wq.heap.size) (fun a0 => a0.tmps.size = 71 ∧ aT a0 0 = .slice ad nd cd ∧ aT a0 1 = .slice A0 0 c ∧ aT a0 2 = .int .i64 alg ∧ aT a0 3 = .int .i64 at2 ∧ aT a0 9 = .pointer (some ⟨w.heap.size, 0, none⟩)) (by kernel_rfl) rfl (by kernel_rfl) rfl ⟨rfl, rfl, rfl, rfl, rfl, rfl⟩ (s4Sp_stb ad nd cd A0 0 c alg at2 sc x h nn dv F V1 w.heap.size (wq.heap.size)) ?_ ?_ ?_
      · intro k hk hk2
        match k, hk, hk2 with
        | 18, _, _ => exact ⟨HQ0.out, by omega⟩
        | 0, hk, _ => exact absurd hk (by show ¬ (18 ≤ 0); omega)
        | 1, hk, _ => exact absurd hk (by show ¬ (18 ≤ 1); omega)
        | 2, hk, _ => exact absurd hk (by show ¬ (18 ≤ 2); omega)
        | 3, hk, _ => exact absurd hk (by show ¬ (18 ≤ 3); omega)
        | 4, hk, _ => exact absurd hk (by show ¬ (18 ≤ 4); omega)
        | 5, hk, _ => exact absurd hk (by show ¬ (18 ≤ 5); omega)
        | 6, hk, _ => exact absurd hk (by show ¬ (18 ≤ 6); omega)
        | 7, hk, _ => exact absurd hk (by show ¬ (18 ≤ 7); omega)
        | 8, hk, _ => exact absurd hk (by show ¬ (18 ≤ 8); omega)
        | 9, hk, _ => exact absurd hk (by show ¬ (18 ≤ 9); omega)
        | 10, hk, _ => exact absurd hk (by show ¬ (18 ≤ 10); omega)
        | 11, hk, _ => exact absurd hk (by show ¬ (18 ≤ 11); omega)
        | 12, hk, _ => exact absurd hk (by show ¬ (18 ≤ 12); omega)
        | 13, hk, _ => exact absurd hk (by show ¬ (18 ≤ 13); omega)
        | 14, hk, _ => exact absurd hk (by show ¬ (18 ≤ 14); omega)
        | 15, hk, _ => exact absurd hk (by show ¬ (18 ≤ 15); omega)
        | 16, hk, _ => exact absurd hk (by show ¬ (18 ≤ 16); omega)
        | 17, hk, _ => exact absurd hk (by show ¬ (18 ≤ 17); omega)
        | k + 19, _, hk2 => exact absurd hk2 (by show ¬ (k + 19 < 19); omega)
      · rintro a0 ⟨hz, g0, g1, g2, g3, g9⟩
        refine StepsRI.cons ?_ (StepsRI.cons ?_ (StepsRI.cons ?_ (StepsRI.cons ?_ (StepsRI.cons ?_ (StepsRI.cons ?_ (StepsRI.cons ?_ (StepsRI.cons ?_ (StepsRI.cons ?_ (StepsRI.cons ?_ (StepsRI.cons ?_ (StepsRI.cons ?_ (StepsRI.cons ?_ (StepsRI.cons ?_ (StepsRI.cons ?_ (StepsRI.cons ?_ (StepsRI.cons ?_ (StepsRI.cons ?_ (StepsRI.nil))))))))))))))))))
        · intro lQ b W hI hUN hED KQ hKQ
          exact opw_move 2 rfl (hKQ.out _ _ (hI.put 0 48 rfl rfl (by rw [hz]; decide) rfl hUN rfl HBB (s4Sp_stb ad nd cd A0 0 c alg at2 sc x h nn dv F V1 w.heap.size (wq.heap.size)) (Below.refl _ _) ((hI.fr.same 2 (by decide)).trans g2)))
        · intro lQ b W hI hUN hED KQ hKQ
          exact opw_move 2 rfl (hKQ.out _ _ (hI.put 1 49 rfl rfl (by rw [hz]; decide) rfl hUN rfl HBB (s4Sp_stb ad nd cd A0 0 c alg at2 sc x h nn dv F V1 w.heap.size (wq.heap.size)) (Below.refl _ _) ((hI.fr.same 2 (by decide)).trans g2)))
        · intro lQ b W hI hUN hED KQ hKQ
          exact opw_move 0 rfl (hKQ.out _ _ (hI.put 2 50 rfl rfl (by rw [hz]; decide) rfl hUN rfl HBB (s4Sp_stb ad nd cd A0 0 c alg at2 sc x h nn dv F V1 w.heap.size (wq.heap.size)) (Below.refl _ _) ((hI.fr.same 0 (by decide)).trans g0)))
        · intro lQ b W hI hUN hED KQ hKQ
          exact opw_move 1 rfl (hKQ.out _ _ (hI.put 3 51 rfl rfl (by rw [hz]; decide) rfl hUN rfl HBB (s4Sp_stb ad nd cd A0 0 c alg at2 sc x h nn dv F V1 w.heap.size (wq.heap.size)) (Below.refl _ _) ((hI.fr.same 1 (by decide)).trans g1)))
        · intro lQ b W hI hUN hED KQ hKQ
          have f0 := hI.got 2 (of_decide_eq_true rfl) (edge hED 2 (by kernel_rfl)) rfl
          replace f0 : aT b 50 = .slice ad nd cd := f0
          have f1 := hI.got 3 (of_decide_eq_true rfl) (edge hED 3 (by kernel_rfl)) rfl
          replace f1 : aT b 51 = .slice A0 0 c := f1
          refine opw_call 20 #[.tmp 50, .tmp 51] _ _ _ rfl Tryz.func20 (by kernel_rfl) rfl #[.slice ad nd cd, .slice A0 0 c] (by simp [ev, f0, f1]) ?_
          refine (HCO.out W hI.bel).mono ?_
          rintro e W2 ⟨a5, c5, rfl, ho, hb⟩
          exact ⟨_, rfl, hKQ.out _ _ (hI.put 4 52 rfl rfl (by rw [hz]; decide) rfl hUN rfl HBB (s4Sp_stb ad nd cd A0 0 c alg at2 sc x h nn dv F V1 w.heap.size (wq.heap.size)) hb ⟨a5, c5, rfl, ho.mono (Nat.le_trans HBB hI.bel.size)⟩)⟩
        · intro lQ b W hI hUN hED KQ hKQ
          have f0 := hI.got 1 (of_decide_eq_true rfl) (edge hED 1 (by kernel_rfl)) rfl
          replace f0 : aT b 49 = .int .i64 alg := f0
          have f1 := hI.got 4 (of_decide_eq_true rfl) (edge hED 4 (by kernel_rfl)) rfl
          obtain ⟨a5, c5, f1, o1_0⟩ := f1
          replace f1 : aT b 52 = .slice a5 F.length c5 := f1
          refine opw_call 19 #[.tmp 49, .tmp 52] _ _ _ rfl Tryz.func19 (by kernel_rfl) rfl #[.int .i64 alg, .slice a5 F.length c5] (by simp [ev, f0, f1]) ?_
          refine (HDG.out W a5 c5 o1_0.toRow o1_0.nil (by omega)).mono ?_
          rintro e W2 ⟨rfl, hb⟩
          exact ⟨_, rfl, hKQ.out _ _ (hI.put 5 53 rfl rfl (by rw [hz]; decide) rfl hUN rfl HBB (s4Sp_stb ad nd cd A0 0 c alg at2 sc x h nn dv F V1 w.heap.size (wq.heap.size)) hb rfl)⟩
        · intro lQ b W hI hUN hED KQ hKQ
          exact opw_move 3 rfl (hKQ.out _ _ (hI.put 6 54 rfl rfl (by rw [hz]; decide) rfl hUN rfl HBB (s4Sp_stb ad nd cd A0 0 c alg at2 sc x h nn dv F V1 w.heap.size (wq.heap.size)) (Below.refl _ _) ((hI.fr.same 3 (by decide)).trans g3)))
        · intro lQ b W hI hUN hED KQ hKQ
          have hg := (hI.vot 18 (of_decide_eq_true rfl) (of_decide_eq_true rfl) rfl).1
          refine wp_load_row 29 _ rfl (w.heap.size) ((hI.fr.same 9 (by decide)).trans g9) 29 #[.int .i64 sc, .int .u64 x, .int .i64 h, .int .i64 nn] (0, 0) _ hg Tryz.underlying29 rfl (by kernel_rfl) ?_
          exact hKQ.out _ _ (hI.put 7 55 rfl rfl (by rw [hz]; decide) rfl hUN rfl HBB (s4Sp_stb ad nd cd A0 0 c alg at2 sc x h nn dv F V1 w.heap.size (wq.heap.size)) (Below.refl _ _) rfl)
        · intro lQ b W hI hUN hED KQ hKQ
          have f0 := hI.got 0 (of_decide_eq_true rfl) (edge hED 0 (by kernel_rfl)) rfl
          replace f0 : aT b 48 = .int .i64 alg := f0
          have f1 := hI.got 5 (of_decide_eq_true rfl) (edge hED 5 (by kernel_rfl)) rfl
          replace f1 : aT b 53 = .int .u64 dv := f1
          have f2 := hI.got 6 (of_decide_eq_true rfl) (edge hED 6 (by kernel_rfl)) rfl
          replace f2 : aT b 54 = .int .i64 at2 := f2
          have f3 := hI.got 7 (of_decide_eq_true rfl) (edge hED 7 (by kernel_rfl)) rfl
          replace f3 : aT b 55 = .agg #[.int .i64 sc, .int .u64 x, .int .i64 h, .int .i64 nn] := f3
          refine opw_call 18 #[.tmp 48, .tmp 53, .tmp 54, .tmp 55] _ _ _ rfl Tryz.func18 (by kernel_rfl) rfl #[.int .i64 alg, .int .u64 dv, .int .i64 at2, .agg #[.int .i64 sc, .int .u64 x, .int .i64 h, .int .i64 nn]] (by simp [ev, f0, f1, f2, f3]) ?_
          refine (HMS.out W).mono ?_
          rintro e W2 ⟨a2, c2, rfl, ho, hb⟩
          exact ⟨_, rfl, hKQ.out _ _ (hI.put 8 56 rfl rfl (by rw [hz]; decide) rfl hUN rfl HBB (s4Sp_stb ad nd cd A0 0 c alg at2 sc x h nn dv F V1 w.heap.size (wq.heap.size)) hb ⟨a2, c2, rfl, ho.mono (Nat.le_trans HBB hI.bel.size)⟩)⟩
        · intro lQ b W hI hUN hED KQ hKQ
          have f := hI.got 8 (of_decide_eq_true rfl) (edge hED 8 (by kernel_rfl)) rfl
          exact opw_move 56 rfl (hKQ.out _ _ (hI.put 9 47 rfl rfl (by rw [hz]; decide) rfl hUN rfl HBB (s4Sp_stb ad nd cd A0 0 c alg at2 sc x h nn dv F V1 w.heap.size (wq.heap.size)) (Below.refl _ _) f))
        · intro lQ b W hI hUN hED KQ hKQ
          have f := hI.got 9 (of_decide_eq_true rfl) (edge hED 9 (by kernel_rfl)) rfl
          obtain ⟨a2, c2, f, o_0⟩ := f
          exact opw_extract 47 0 rfl _ _ f rfl (hKQ.out _ _ (hI.put 10 57 rfl rfl (by rw [hz]; decide) rfl hUN rfl HBB (s4Sp_stb ad nd cd A0 0 c alg at2 sc x h nn dv F V1 w.heap.size (wq.heap.size)) (Below.refl _ _) ⟨a2, c2, rfl, o_0⟩))
        · intro lQ b W hI hUN hED KQ hKQ
          have f := hI.got 9 (of_decide_eq_true rfl) (edge hED 9 (by kernel_rfl)) rfl
          obtain ⟨a2, c2, f, o_0⟩ := f
          exact opw_extract 47 1 rfl _ _ f rfl (hKQ.out _ _ (hI.put 11 58 rfl rfl (by rw [hz]; decide) rfl hUN rfl HBB (s4Sp_stb ad nd cd A0 0 c alg at2 sc x h nn dv F V1 w.heap.size (wq.heap.size)) (Below.refl _ _) rfl))
        · intro lQ b W hI hUN hED KQ hKQ
          have f := hI.got 9 (of_decide_eq_true rfl) (edge hED 9 (by kernel_rfl)) rfl
          obtain ⟨a2, c2, f, o_0⟩ := f
          exact opw_extract 47 2 rfl _ _ f rfl (hKQ.out _ _ (hI.put 12 59 rfl rfl (by rw [hz]; decide) rfl hUN rfl HBB (s4Sp_stb ad nd cd A0 0 c alg at2 sc x h nn dv F V1 w.heap.size (wq.heap.size)) (Below.refl _ _) rfl))
        · intro lQ b W hI hUN hED KQ hKQ
          refine opw_value (w' := W.alloc (.cells #[.int .i64 0, .int .u64 0, .int .i64 0, .int .u64 0, .slice none 0 0] 45)) (.pointer (some ⟨W.heap.size, 0, none⟩)) (by kernel_rfl) ?_
          exact hKQ.out _ _ (hI.put 13 14 rfl rfl (by rw [hz]; decide) rfl hUN rfl HBB (s4Sp_stb ad nd cd A0 0 c alg at2 sc x h nn dv F V1 w.heap.size (wq.heap.size)) ((Below.refl _ _).alloc (Nat.le_refl _) _) ⟨W.heap.size, rfl, heap_alloc_new W _, Nat.le_trans HBB hI.bel.size⟩)
        · intro lQ b W hI hUN hED KQ hKQ
          refine opw_value (w' := W.alloc (.cells #[.int .i64 0, .int .u64 0, .int .i64 0, .int .i64 0] 29)) (.pointer (some ⟨W.heap.size, 0, none⟩)) (by kernel_rfl) ?_
          exact hKQ.out _ _ (hI.put 14 15 rfl rfl (by rw [hz]; decide) rfl hUN rfl HBB (s4Sp_stb ad nd cd A0 0 c alg at2 sc x h nn dv F V1 w.heap.size (wq.heap.size)) ((Below.refl _ _).alloc (Nat.le_refl _) _) ⟨W.heap.size, rfl, heap_alloc_new W _, Nat.le_trans HBB hI.bel.size⟩)
        · intro lQ b W hI hUN hED KQ hKQ
          obtain ⟨g, fb, hgb, hge⟩ := hI.got1 13 15 (of_decide_eq_true rfl) (edge hED 13 (by kernel_rfl)) hUN rfl
          have f := hI.got 10 (of_decide_eq_true rfl) (edge hED 10 (by kernel_rfl)) rfl
          obtain ⟨a2, c2, f, o_0⟩ := f
          refine wp_store_row 45 _ _ rfl g #[.int .i64 V1.alg, .int .u64 V1.dg, .int .i64 V1.at2, .int .u64 V1.ky, .slice a2 V1.sg.length c2] fb f 45 _ hgb (by kernel_rfl) rfl (by simp [Value.oneCell']) ?_
          have ht := setRow_touch W g #[.int .i64 V1.alg, .int .u64 V1.dg, .int .i64 V1.at2, .int .u64 V1.ky, .slice a2 V1.sg.length c2]
          exact hKQ.out _ _ (hI.store 15 (fun j hj => by
              rcases List.mem_singleton.1 hj with rfl
              exact edge hED 13 (by kernel_rfl)) (hI.bel.trans (ht.below hge (Nat.le_trans HBB hI.bel.size))) (s4Sp_st15 ad nd cd A0 0 c alg at2 sc x h nn dv F V1 w.heap.size (wq.heap.size) hgb ht hge) ⟨g, a2, c2, fb, (setRow_heap W g _ _ _ _ hgb), hge, ⟨ownsRow_box o_0.row hgb (by decide) ht, o_0.byte⟩⟩)
        · intro lQ b W hI hUN hED KQ hKQ
          obtain ⟨g, fb, hgb, hge⟩ := hI.got1 14 16 (of_decide_eq_true rfl) (edge hED 14 (by kernel_rfl)) hUN rfl
          have f := hI.got 11 (of_decide_eq_true rfl) (edge hED 11 (by kernel_rfl)) rfl
          refine wp_store_row 29 _ _ rfl g #[.int .i64 V1.t.1, .int .u64 V1.t.2.1, .int .i64 V1.t.2.2.1, .int .i64 V1.t.2.2.2] fb f 29 _ hgb (by kernel_rfl) rfl (by simp [Value.oneCell']) ?_
          have ht := setRow_touch W g #[.int .i64 V1.t.1, .int .u64 V1.t.2.1, .int .i64 V1.t.2.2.1, .int .i64 V1.t.2.2.2]
          exact hKQ.out _ _ (hI.store 16 (fun j hj => by
              rcases List.mem_singleton.1 hj with rfl
              exact edge hED 14 (by kernel_rfl)) (hI.bel.trans (ht.below hge (Nat.le_trans HBB hI.bel.size))) (s4Sp_st16 ad nd cd A0 0 c alg at2 sc x h nn dv F V1 w.heap.size (wq.heap.size) hgb ht hge) ⟨g, fb, (setRow_heap W g _ _ _ _ hgb), hge⟩)
        · intro lQ b W hI hUN hED KQ hKQ
          have f := hI.got 12 (of_decide_eq_true rfl) (edge hED 12 (by kernel_rfl)) rfl
          exact opw_assign 59 rfl (hKQ.out _ _ (hI.put 17 16 rfl rfl (by rw [hz]; decide) rfl hUN rfl HBB (s4Sp_stb ad nd cd A0 0 c alg at2 sc x h nn dv F V1 w.heap.size (wq.heap.size)) (Below.refl _ _) f))
      · intro b W hf hb F
        obtain ⟨gst, a2, c2, e14, h14, hgst, ho⟩ := F 15 (of_decide_eq_true rfl) rfl
        obtain ⟨gsc, e15, h15, hgsc⟩ := F 16 (of_decide_eq_true rfl) rfl
        have e16 := F 17 (of_decide_eq_true rfl) rfl
        replace e14 : aT b 14 = _ := e14
        replace e15 : aT b 15 = _ := e15
        replace e16 : aT b 16 = _ := e16
        obtain ⟨w6, hw6⟩ : ∃ w6, w6 = W := ⟨_, rfl⟩
        subst hw6
        have H6R : Hid (w6.heap[w.heap.size + 1]? = some (.cells #[.int .i64 0, .int .u64 0, .int .i64 0, .int .i64 0] 29 (0, 0)) ∧ w6.heap[gst]? = some (.cells #[.int .i64 V1.alg, .int .u64 V1.dg, .int .i64 V1.at2, .int .u64 V1.ky, .slice a2 V1.sg.length c2] 45 (0, 0)) ∧ w6.heap[gsc]? = some (.cells #[.int .i64 V1.t.1, .int .u64 V1.t.2.1, .int .i64 V1.t.2.2.1, .int .i64 V1.t.2.2.2] 29 (0, 0))) := ⟨below_kept HQ.out hb, h14, h15⟩
        have hc6 := keepT hcq hb
        have L14 : gst < w6.heap.size := (Array.getElem?_eq_some_iff.1 h14).1
        have L15 : gsc < w6.heap.size := (Array.getElem?_eq_some_iff.1 h15).1
        have LG : w.heap.size + 1 < w6.heap.size := (Array.getElem?_eq_some_iff.1 H6R.out.1).1
        have HO6 : Hid (Own w.heap.size w6 a2 V1.sg.length c2 V1.sg) := ho.mono hcq.size
        have HJ : Hid (∀ k, (Value.slice a2 V1.sg.length c2).ownBlock = some k → k < w6.heap.size) := fun k hk => (ho.row.lt k hk).2
        rw [hf.eq]
        simp only [puts, Act.put, List.setIfInBounds_toArray, List.set_cons_zero, List.set_cons_succ, e14, e15, e16]
        clear hf F e14 e15 e16 h14 h15 ho hb
        generalize aT b = AT
        clear b
        go_upto_region 5 with fail
        by_cases hc7 : V1.cd = 0
        case neg =>
          have HF := (show Hid (V = rnBad V1.cd) by show _ = _; rw [HV1.out, if_neg hc7])
          have z5 : (V1.cd != 0) = true := by simp [hc7]
          go_upto_region 6 with fail
          have HBB : w.heap.size ≤ w6.heap.size := by omega
          refine wp_region_rp (szB V1.cd w.heap.size (w.heap.size)) [10, 12, 62, 63, 64] (w.heap.size) (fun a0 => a0.tmps.size = 71 ∧ aT a0 11 = .pointer (some ⟨(w.heap.size + 1), 0, none⟩) ∧ aT a0 16 = .int .i64 V1.cd) rfl (by kernel_rfl) rfl ⟨rfl, rfl, rfl⟩ (szB_stb V1.cd w.heap.size (w.heap.size)) ?_ ?_ ?_
          · intro k hk hk2
            match k, hk, hk2 with
            | 6, _, _ => exact H6R.out.1
            | 0, hk, _ => exact absurd hk (by show ¬ (6 ≤ 0); omega)
            | 1, hk, _ => exact absurd hk (by show ¬ (6 ≤ 1); omega)
            | 2, hk, _ => exact absurd hk (by show ¬ (6 ≤ 2); omega)
            | 3, hk, _ => exact absurd hk (by show ¬ (6 ≤ 3); omega)
            | 4, hk, _ => exact absurd hk (by show ¬ (6 ≤ 4); omega)
            | 5, hk, _ => exact absurd hk (by show ¬ (6 ≤ 5); omega)
            | k + 7, _, hk2 => exact absurd hk2 (by show ¬ (k + 7 < 7); omega)
          · rintro a0 ⟨hz, g11, g16⟩
            refine StepsRI.cons ?_ (StepsRI.cons ?_ (StepsRI.cons ?_ (StepsRI.cons ?_ (StepsRI.cons ?_ (StepsRI.cons ?_ (StepsRI.nil))))))
            · intro lQ b W hI hUN hED KQ hKQ
              refine opw_buildSlice _ 0 _ rfl #[] (by simp) (.slice (some ⟨W.heap.size, 0, none⟩) 0 0) (W.alloc (.cells #[] 45)) (by kernel_rfl) ?_
              exact hKQ.out _ _ (hI.put 0 62 rfl rfl (by rw [hz]; decide) rfl hUN rfl HBB (szB_stb V1.cd w.heap.size (w.heap.size)) ((Below.refl _ _).alloc (Nat.le_refl _) _) ⟨W.heap.size, rfl, ownS_empty W (Nat.le_trans HBB hI.bel.size)⟩)
            · intro lQ b W hI hUN hED KQ hKQ
              refine opw_build 29 _ rfl #[] (by simp []) (.agg #[.int .i64 0, .int .u64 0, .int .i64 0, .int .i64 0]) (by kernel_rfl) ?_
              exact hKQ.out _ _ (hI.put 1 63 rfl rfl (by rw [hz]; decide) rfl hUN rfl HBB (szB_stb V1.cd w.heap.size (w.heap.size)) (Below.refl _ _) rfl)
            · intro lQ b W hI hUN hED KQ hKQ
              exact opw_move 16 rfl (hKQ.out _ _ (hI.put 2 64 rfl rfl (by rw [hz]; decide) rfl hUN rfl HBB (szB_stb V1.cd w.heap.size (w.heap.size)) (Below.refl _ _) ((hI.fr.same 16 (by decide)).trans g16)))
            · intro lQ b W hI hUN hED KQ hKQ
              have f := hI.got 0 (of_decide_eq_true rfl) (edge hED 0 (by kernel_rfl)) rfl
              exact opw_assign 62 rfl (hKQ.out _ _ (hI.put 3 10 rfl rfl (by rw [hz]; decide) rfl hUN rfl HBB (szB_stb V1.cd w.heap.size (w.heap.size)) (Below.refl _ _) f))
            · intro lQ b W hI hUN hED KQ hKQ
              have hgb := (hI.vot1 6 4 (of_decide_eq_true rfl) (of_decide_eq_true rfl) hUN rfl)
              have fb := ((hI.fr.same 11 (by decide)).trans g11)
              have f := hI.got 1 (of_decide_eq_true rfl) (edge hED 1 (by kernel_rfl)) rfl
              refine wp_store_row 29 _ _ rfl ((w.heap.size + 1)) #[.int .i64 0, .int .u64 0, .int .i64 0, .int .i64 0] fb f 29 _ hgb (by kernel_rfl) rfl (by simp [Value.oneCell']) ?_
              have ht := setRow_touch W ((w.heap.size + 1)) #[.int .i64 0, .int .u64 0, .int .i64 0, .int .i64 0]
              exact hKQ.out _ _ (hI.store 4 (fun j hj => by cases hj) (hI.bel.trans (ht.below (by first | exact HGE11 | omega) (Nat.le_trans HBB hI.bel.size))) (szB_st4 V1.cd w.heap.size (w.heap.size) hgb ht) (setRow_heap W ((w.heap.size + 1)) _ _ _ _ hgb))
            · intro lQ b W hI hUN hED KQ hKQ
              have f := hI.got 2 (of_decide_eq_true rfl) (edge hED 2 (by kernel_rfl)) rfl
              exact opw_assign 64 rfl (hKQ.out _ _ (hI.put 5 12 rfl rfl (by rw [hz]; decide) rfl hUN rfl HBB (szB_stb V1.cd w.heap.size (w.heap.size)) (Below.refl _ _) f))
          · intro b W hf hb F
            have e0 := F 4 (of_decide_eq_true rfl) rfl
            obtain ⟨gz, e1, hoz⟩ := F 3 (of_decide_eq_true rfl) rfl
            have e3 := F 5 (of_decide_eq_true rfl) rfl
            replace e1 : aT b 10 = _ := e1
            replace e3 : aT b 12 = _ := e3
            rw [hf.eq]
            simp only [puts, Act.put, List.setIfInBounds_toArray, List.set_cons_zero, List.set_cons_succ, e1, e3]
            clear hf F
            go_wp2
            try simp only [Exit.inBlock, Exit.then]
            exact bodyPost_ret (results_rn rfl _ (w.heap.size + 1) _ rfl rfl _ rfl _ _ e0 rfl) rfl ⟨some ⟨gz, 0, none⟩, 0, by rw [HF.out]; rfl, ⟨[], by rw [HF.out]; exact hoz, by rw [HF.out]; rfl⟩, hc6.trans hb⟩
  
        case pos =>
          have HF := (show Hid (V = ⟨xs ++ [stOf V1], V1.t, 0⟩) by show _ = _; rw [HV1.out, if_pos hc7])
          have z5 : (V1.cd != 0) = false := by simp [hc7]
          clear hc7
          go_upto_region 7 with fail
          have HBB : w.heap.size ≤ w6.heap.size := by omega
          have hby := hc6
          refine wp_region_ri (s7Sp A0 0 c xs V1 a2 c2 gst gsc w.heap.size w6.heap.size (w.heap.size)) [10, 12, 65, 66, 67, 68, 69, 70] (w.heap.size) (fun a0 => a0.tmps.size = 71 ∧ aT a0 1 = .slice A0 0 c ∧ aT a0 11 = .pointer (some ⟨(w.heap.size + 1), 0, none⟩) ∧ aT a0 14 = .pointer (some ⟨gst, 0, none⟩) ∧ aT a0 15 = .pointer (some ⟨gsc, 0, none⟩)) (by kernel_rfl) rfl (by kernel_rfl) rfl ⟨rfl, rfl, rfl, rfl, rfl⟩ (s7Sp_stb A0 0 c xs V1 a2 c2 gst gsc w.heap.size w6.heap.size (w.heap.size)) ?_ ?_ ?_
          · intro k hk hk2
            match k, hk, hk2 with
            | 9, _, _ => exact H6R.out.2.1
            | 10, _, _ => exact ⟨H6R.out.2.2, by omega⟩
            | 11, _, _ => exact H6R.out.1
            | 12, _, _ => exact (show Own w.heap.size w6 a2 V1.sg.length c2 V1.sg from HO6.out)
            | 0, hk, _ => exact absurd hk (by show ¬ (9 ≤ 0); omega)
            | 1, hk, _ => exact absurd hk (by show ¬ (9 ≤ 1); omega)
            | 2, hk, _ => exact absurd hk (by show ¬ (9 ≤ 2); omega)
            | 3, hk, _ => exact absurd hk (by show ¬ (9 ≤ 3); omega)
            | 4, hk, _ => exact absurd hk (by show ¬ (9 ≤ 4); omega)
            | 5, hk, _ => exact absurd hk (by show ¬ (9 ≤ 5); omega)
            | 6, hk, _ => exact absurd hk (by show ¬ (9 ≤ 6); omega)
            | 7, hk, _ => exact absurd hk (by show ¬ (9 ≤ 7); omega)
            | 8, hk, _ => exact absurd hk (by show ¬ (9 ≤ 8); omega)
            | k + 13, _, hk2 => exact absurd hk2 (by show ¬ (k + 13 < 13); omega)
          · rintro a0 ⟨hz, g1, g11, g14, g15⟩
            refine StepsRI.cons ?_ (StepsRI.cons ?_ (StepsRI.cons ?_ (StepsRI.cons ?_ (StepsRI.cons ?_ (StepsRI.cons ?_ (StepsRI.cons ?_ (StepsRI.cons ?_ (StepsRI.cons ?_ (StepsRI.nil)))))))))
            · intro lQ b W hI hUN hED KQ hKQ
              exact opw_move 1 rfl (hKQ.out _ _ (hI.put 0 65 rfl rfl (by rw [hz]; decide) rfl hUN rfl HBB (s7Sp_stb A0 0 c xs V1 a2 c2 gst gsc w.heap.size w6.heap.size (w.heap.size)) (Below.refl _ _) ((hI.fr.same 1 (by decide)).trans g1)))
            · intro lQ b W hI hUN hED KQ hKQ
              have f0 : aT b 65 = .slice A0 0 c := hI.got 0 (of_decide_eq_true rfl) (edge hED 0 (by kernel_rfl)) rfl
              refine opw_call 21 #[.tmp 65] _ _ _ rfl Tryz.func21 (by kernel_rfl) rfl #[.slice A0 0 c] (by simp [ev, f0]) ?_
              refine (l18Copy_any A0 0 c xs W (HST.out W (hby.trans hI.bel)) (by omega)).mono ?_
              rintro e W2 ⟨a1, c1, ps, rfl, ⟨ho, hxs⟩, hb⟩
              exact ⟨_, rfl, hKQ.out _ _ (hI.put 1 66 rfl rfl (by rw [hz]; decide) rfl hUN rfl HBB (s7Sp_stb A0 0 c xs V1 a2 c2 gst gsc w.heap.size w6.heap.size (w.heap.size)) hb ⟨a1, c1, ps, rfl, ho.mono hI.bel.size, hxs⟩)⟩
            · intro lQ b W hI hUN hED KQ hKQ
              have hg := (hI.vot 9 (of_decide_eq_true rfl) (of_decide_eq_true rfl) rfl)
              refine wp_load_row 45 _ rfl (gst) ((hI.fr.same 14 (by decide)).trans g14) 45 #[.int .i64 V1.alg, .int .u64 V1.dg, .int .i64 V1.at2, .int .u64 V1.ky, .slice a2 V1.sg.length c2] (0, 0) _ hg Tryz.underlying45 rfl (by kernel_rfl) ?_
              exact hKQ.out _ _ (hI.put 2 67 rfl rfl (by rw [hz]; decide) rfl hUN rfl HBB (s7Sp_stb A0 0 c xs V1 a2 c2 gst gsc w.heap.size w6.heap.size (w.heap.size)) (Below.refl _ _) rfl)
            · intro lQ b W hI hUN hED KQ hKQ
              have f := hI.got 2 (of_decide_eq_true rfl) (edge hED 2 (by kernel_rfl)) rfl
              replace f : aT b 67 = .agg #[.int .i64 V1.alg, .int .u64 V1.dg, .int .i64 V1.at2, .int .u64 V1.ky, .slice a2 V1.sg.length c2] := f
              refine opw_buildSlice _ 1 _ rfl #[(0, .agg #[.int .i64 V1.alg, .int .u64 V1.dg, .int .i64 V1.at2, .int .u64 V1.ky, .slice a2 V1.sg.length c2])] (by simp [ev, f]) (.slice (some ⟨W.heap.size, 0, none⟩) 1 1) (W.alloc (.cells #[.int .i64 V1.alg, .int .u64 V1.dg, .int .i64 V1.at2, .int .u64 V1.ky, .slice a2 V1.sg.length c2] 45)) (by kernel_rfl) ?_
              exact hKQ.out _ _ (hI.put 3 68 rfl rfl (by rw [hz]; decide) rfl hUN rfl HBB (s7Sp_stb A0 0 c xs V1 a2 c2 gst gsc w.heap.size w6.heap.size (w.heap.size)) ((Below.refl _ _).alloc (Nat.le_refl _) _) ⟨W.heap.size, rfl, heap_alloc_new W _⟩)
            · intro lQ b W hI hUN hED KQ hKQ
              obtain ⟨a1, c1, ps, f0, ho, hxs⟩ := hI.got1 1 4 (of_decide_eq_true rfl) (edge hED 1 (by kernel_rfl)) hUN rfl
              replace f0 : aT b 66 = .slice a1 0 c1 := f0
              obtain ⟨gk, f1, hgk⟩ := hI.got1 3 4 (of_decide_eq_true rfl) (edge hED 3 (by kernel_rfl)) hUN rfl
              replace f1 : aT b 68 = .slice (some ⟨gk, 0, none⟩) 1 1 := f1
              have l6 : lQ 6 = false := by
                cases h : lQ 6 with
                | false => rfl
                | true =>
                  have h2 := hI.cl 6 (of_decide_eq_true rfl) h 4 (List.Mem.head _)
                  rw [show lQ 4 = false from hUN] at h2
                  cases h2
              have hsg := hI.vot 12 (of_decide_eq_true rfl) (of_decide_eq_true rfl) rfl
              have hRW : w6.heap.size ≤ W.heap.size := hI.bel.size
              refine opw_append_st 66 68 28 rfl w6.heap.size 45 i0 _ 5 56 Tryz.underlying28 hi hz0 hz1 hz2 rfl (by decide) (.slice a1 0 c1) 0 _ f0 ho.row ⟨gk, 0, none⟩ 1 1 [.int .i64 V1.alg, .int .u64 V1.dg, .int .i64 V1.at2, .int .u64 V1.ky, .slice a2 V1.sg.length c2] f1 rfl (cells_of5 hgk) (by intro u hu; simp only [List.mem_cons, List.not_mem_nil, or_false] at hu; rcases hu with rfl | rfl | rfl | rfl | rfl <;> rfl) (by unfold maxLen; omega) (by omega) hRW ?_
              intro v' w' hv' hg'
              obtain ⟨a', c', rfl⟩ := owns_shapeR hv'
              have hlo : ∀ k, (Value.slice a1 0 c1).ownBlock = some k → w6.heap.size ≤ k := fun k hk => (ho.row.lt k hk).1
              have hbR : Below w6.heap.size W w' := (Below.refl _ _).grown hg' hRW hlo
              have hN : OwnS w.heap.size w' a' (0 + 1) c' (ps ++ [((a2, V1.sg.length, c2), stOf V1)]) := (ho.mono HBB).appended (p := ((a2, V1.sg.length, c2), stOf V1)) hsg HRG.out (fun j k hj h1 h2 => by have e1 := ((ho.each j hj).row.lt k h1).1; have e2 := HJ.out k h2; omega) (by rw [List.flatMap_append]; exact ownsRow_mono hv' HBB) hg'
              exact hKQ.out _ _ (hI.turn 4 69 (fun j hj => by cases hj) rfl (by rw [hz]; decide) rfl hUN rfl (hI.bel.trans (hbR.mono HBB)) (s7Sp_st4 A0 0 c xs V1 a2 c2 gst gsc w.heap.size w6.heap.size w.heap.size hbR hg' hlo HJ.out L14 L15 LG l6) ⟨a', c', ps ++ [((a2, V1.sg.length, c2), stOf V1)], rfl, hN, by simp [xsOf, ← hxs]⟩)
            · intro lQ b W hI hUN hED KQ hKQ
              have hg := (hI.vot 10 (of_decide_eq_true rfl) (of_decide_eq_true rfl) rfl).1
              refine wp_load_row 29 _ rfl (gsc) ((hI.fr.same 15 (by decide)).trans g15) 29 #[.int .i64 V1.t.1, .int .u64 V1.t.2.1, .int .i64 V1.t.2.2.1, .int .i64 V1.t.2.2.2] (0, 0) _ hg Tryz.underlying29 rfl (by kernel_rfl) ?_
              exact hKQ.out _ _ (hI.put 5 70 rfl rfl (by rw [hz]; decide) rfl hUN rfl HBB (s7Sp_stb A0 0 c xs V1 a2 c2 gst gsc w.heap.size w6.heap.size (w.heap.size)) (Below.refl _ _) rfl)
            · intro lQ b W hI hUN hED KQ hKQ
              have f := hI.got 4 (of_decide_eq_true rfl) (edge hED 4 (by kernel_rfl)) rfl
              exact opw_assign 69 rfl (hKQ.out _ _ (hI.putp 6 10 (fun j hj => by rcases List.mem_singleton.1 hj with rfl; exact (edge hED 4 (by kernel_rfl))) rfl (by rw [hz]; decide) rfl hUN rfl HBB (s7Sp_stb A0 0 c xs V1 a2 c2 gst gsc w.heap.size w6.heap.size (w.heap.size)) (Below.refl _ _) f))
            · intro lQ b W hI hUN hED KQ hKQ
              have hgb := (hI.vot1 11 7 (of_decide_eq_true rfl) (of_decide_eq_true rfl) hUN rfl)
              have fb := ((hI.fr.same 11 (by decide)).trans g11)
              have f := hI.got 5 (of_decide_eq_true rfl) (edge hED 5 (by kernel_rfl)) rfl
              refine wp_store_row 29 _ _ rfl ((w.heap.size + 1)) #[.int .i64 V1.t.1, .int .u64 V1.t.2.1, .int .i64 V1.t.2.2.1, .int .i64 V1.t.2.2.2] fb f 29 _ hgb (by kernel_rfl) rfl (by simp [Value.oneCell']) ?_
              have ht := setRow_touch W ((w.heap.size + 1)) #[.int .i64 V1.t.1, .int .u64 V1.t.2.1, .int .i64 V1.t.2.2.1, .int .i64 V1.t.2.2.2]
              exact hKQ.out _ _ (hI.store 7 (fun j hj => by cases hj) (hI.bel.trans (ht.below (by first | exact HGE11 | omega) (Nat.le_trans HBB hI.bel.size))) (s7Sp_st7 A0 0 c xs V1 a2 c2 gst gsc w.heap.size w6.heap.size (w.heap.size) hgb ht) (setRow_heap W ((w.heap.size + 1)) _ _ _ _ hgb))
            · intro lQ b W hI hUN hED KQ hKQ
              exact opw_const (.int .i64 0) rfl (hKQ.out _ _ (hI.put 8 12 rfl rfl (by rw [hz]; decide) rfl hUN rfl HBB (s7Sp_stb A0 0 c xs V1 a2 c2 gst gsc w.heap.size w6.heap.size (w.heap.size)) (Below.refl _ _) rfl))
          · intro b W hf hb F
            obtain ⟨a', c', ps', e10, ho, hxs⟩ := F 6 (of_decide_eq_true rfl) rfl
            have e11 := F 7 (of_decide_eq_true rfl) rfl
            have e12 := F 8 (of_decide_eq_true rfl) rfl
            replace e10 : aT b 10 = _ := e10
            replace e12 : aT b 12 = _ := e12
            rw [hf.eq]
            simp only [puts, Act.put, List.setIfInBounds_toArray, List.set_cons_zero, List.set_cons_succ, e10, e12]
            clear hf F
            go_wp2
            try simp only [Exit.inBlock, Exit.then]
            exact bodyPost_ret (results_rn rfl _ (w.heap.size + 1) _ rfl rfl _ rfl _ _ e11 rfl) rfl ⟨a', c', by rw [HF.out]; simp [rnOut, HLX.out], ⟨ps', by rw [HF.out]; simpa [HLX.out] using ho, by rw [HF.out]; exact hxs⟩, hby.trans hb⟩

    case neg =>
      obtain ⟨q, rfl⟩ : ∃ q, N0 = q + 1 := ⟨N0 - 1, by omega⟩
      obtain ⟨b0, off, a1, n1, d1, rfl, hlb, hc, -, -, -, -⟩ := (HST.out wq hcq).get q (by omega)
      obtain ⟨y0, y1, y2, y3, y4⟩ := hc
      obtain ⟨T2, hT2⟩ : ∃ T2, T2 = (xs.getD q default).at2 := ⟨_, rfl⟩
      rw [← hT2] at y2
      have HT2 : Hid (_ = _) := hT2
      clear hT2
      by_cases g4 : at2 < T2
      case pos =>
        have HF := (show Hid (V = rnBad 1) from HVF.out (fun hp => by have h1 : (xs.getD q default).at2 ≤ at2 := hp.2.2.2 (by omega); rw [← HT2.out] at h1; omega))
        go_upto_region 3 with fail
        have HBB : w.heap.size ≤ wq.heap.size := hcq.size
        refine wp_region_rp (szA 1 w.heap.size (w.heap.size)) [10, 12, 45, 46] (w.heap.size) (fun a0 => a0.tmps.size = 71 ∧ aT a0 11 = .pointer (some ⟨(w.heap.size + 1), 0, none⟩)) rfl (by kernel_rfl) rfl ⟨rfl, rfl⟩ (szA_stb 1 w.heap.size (w.heap.size)) ?_ ?_ ?_
        · intro k hk hk2
          match k, hk, hk2 with
          | 5, _, _ => exact HQ.out
          | 0, hk, _ => exact absurd hk (by show ¬ (5 ≤ 0); omega)
          | 1, hk, _ => exact absurd hk (by show ¬ (5 ≤ 1); omega)
          | 2, hk, _ => exact absurd hk (by show ¬ (5 ≤ 2); omega)
          | 3, hk, _ => exact absurd hk (by show ¬ (5 ≤ 3); omega)
          | 4, hk, _ => exact absurd hk (by show ¬ (5 ≤ 4); omega)
          | k + 6, _, hk2 => exact absurd hk2 (by show ¬ (k + 6 < 6); omega)
        · rintro a0 ⟨hz, g11⟩
          refine StepsRI.cons ?_ (StepsRI.cons ?_ (StepsRI.cons ?_ (StepsRI.cons ?_ (StepsRI.cons ?_ (StepsRI.nil)))))
          · intro lQ b W hI hUN hED KQ hKQ
            refine opw_buildSlice _ 0 _ rfl #[] (by simp) (.slice (some ⟨W.heap.size, 0, none⟩) 0 0) (W.alloc (.cells #[] 45)) (by kernel_rfl) ?_
            exact hKQ.out _ _ (hI.put 0 45 rfl rfl (by rw [hz]; decide) rfl hUN rfl HBB (szA_stb 1 w.heap.size (w.heap.size)) ((Below.refl _ _).alloc (Nat.le_refl _) _) ⟨W.heap.size, rfl, ownS_empty W (Nat.le_trans HBB hI.bel.size)⟩)
          · intro lQ b W hI hUN hED KQ hKQ
            refine opw_build 29 _ rfl #[] (by simp []) (.agg #[.int .i64 0, .int .u64 0, .int .i64 0, .int .i64 0]) (by kernel_rfl) ?_
            exact hKQ.out _ _ (hI.put 1 46 rfl rfl (by rw [hz]; decide) rfl hUN rfl HBB (szA_stb 1 w.heap.size (w.heap.size)) (Below.refl _ _) rfl)
          · intro lQ b W hI hUN hED KQ hKQ
            have f := hI.got 0 (of_decide_eq_true rfl) (edge hED 0 (by kernel_rfl)) rfl
            exact opw_assign 45 rfl (hKQ.out _ _ (hI.put 2 10 rfl rfl (by rw [hz]; decide) rfl hUN rfl HBB (szA_stb 1 w.heap.size (w.heap.size)) (Below.refl _ _) f))
          · intro lQ b W hI hUN hED KQ hKQ
            have hgb := (hI.vot1 5 3 (of_decide_eq_true rfl) (of_decide_eq_true rfl) hUN rfl)
            have fb := ((hI.fr.same 11 (by decide)).trans g11)
            have f := hI.got 1 (of_decide_eq_true rfl) (edge hED 1 (by kernel_rfl)) rfl
            refine wp_store_row 29 _ _ rfl ((w.heap.size + 1)) #[.int .i64 0, .int .u64 0, .int .i64 0, .int .i64 0] fb f 29 _ hgb (by kernel_rfl) rfl (by simp [Value.oneCell']) ?_
            have ht := setRow_touch W ((w.heap.size + 1)) #[.int .i64 0, .int .u64 0, .int .i64 0, .int .i64 0]
            exact hKQ.out _ _ (hI.store 3 (fun j hj => by cases hj) (hI.bel.trans (ht.below (by first | exact HGE11 | omega) (Nat.le_trans HBB hI.bel.size))) (szA_st3 1 w.heap.size (w.heap.size) hgb ht) (setRow_heap W ((w.heap.size + 1)) _ _ _ _ hgb))
          · intro lQ b W hI hUN hED KQ hKQ
            exact opw_const (.int .i64 1) rfl (hKQ.out _ _ (hI.put 4 12 rfl rfl (by rw [hz]; decide) rfl hUN rfl HBB (szA_stb 1 w.heap.size (w.heap.size)) (Below.refl _ _) rfl))
        · intro b W hf hb F
          have e0 := F 3 (of_decide_eq_true rfl) rfl
          obtain ⟨gz, e1, hoz⟩ := F 2 (of_decide_eq_true rfl) rfl
          have e3 := F 4 (of_decide_eq_true rfl) rfl
          replace e1 : aT b 10 = _ := e1
          replace e3 : aT b 12 = _ := e3
          rw [hf.eq]
          simp only [puts, Act.put, List.setIfInBounds_toArray, List.set_cons_zero, List.set_cons_succ, e1, e3]
          clear hf F
          go_wp2
          try simp only [Exit.inBlock, Exit.then]
          exact bodyPost_ret (results_rn rfl _ (w.heap.size + 1) _ rfl rfl _ rfl _ _ e0 rfl) rfl ⟨some ⟨gz, 0, none⟩, 0, by rw [HF.out]; rfl, ⟨[], by rw [HF.out]; exact hoz, by rw [HF.out]; rfl⟩, hcq.trans hb⟩

      case neg =>
        have HP : Hid (rnP doc xs (q + 1) at2) := ⟨by omega, by have := HLD.out; omega, HAS.out, fun _ => by show (xs.getD q default).at2 ≤ at2; rw [← HT2.out]; omega⟩
        have HV1 := (show Hid (V = if V1.cd = 0 then ⟨xs ++ [stOf V1], V1.t, 0⟩ else rnBad V1.cd) from HVT.out HP.out)
        have hfl : F.length ≤ 13000 := by have h1 := covd_len doc xs (q + 1) HAS.out (q + 1) (Nat.le_refl _); have h2 := HLD.out; rw [HFE.out]; omega
        have HCO : Hid (∀ W, Below wq.heap.size wq W → Calls Tryz.prog 20 #[.slice ad nd cd, .slice (some ⟨b0, off, none⟩) (q + 1) c] W fun e w' => ∃ a' c', e = .returned (.slice a' F.length c') ∧ Own W.heap.size w' a' F.length c' F ∧ Below W.heap.size W w') := by
          intro W hW
          rw [HFE.out]
          exact l18Covers_any ad nd cd doc (some ⟨b0, off, none⟩) (q + 1) c xs W (HRD.out W (keepT hcq hW)) hd0 (by omega) (HST.out W (keepT hcq hW)) HAS.out (by omega)
        go_upto_region 4 with fail
        clear hlb y0 y1 y2 y3 y4
        have HBB : wq.heap.size ≤ wq.heap.size := Nat.le_refl _
        refine wp_region_ri (s4Sp ad nd cd (some ⟨b0, off, none⟩) (q + 1) c alg at2 sc x h nn dv F V1 w.heap.size (wq.heap.size)) [14, 15, 16, 47, 48, 49, 50, 51, 52, 53, 54, 55, 56, 57, 58, 59] (wq.heap.size) (fun a0 => a0.tmps.size = 71 ∧ aT a0 0 = .slice ad nd cd ∧ aT a0 1 = .slice (some ⟨b0, off, none⟩) (q + 1) c ∧ aT a0 2 = .int .i64 alg ∧ aT a0 3 = .int .i64 at2 ∧ aT a0 9 = .pointer (some ⟨w.heap.size, 0, none⟩)) (by kernel_rfl) rfl (by kernel_rfl) rfl ⟨rfl, rfl, rfl, rfl, rfl, rfl⟩ (s4Sp_stb ad nd cd (some ⟨b0, off, none⟩) (q + 1) c alg at2 sc x h nn dv F V1 w.heap.size (wq.heap.size)) ?_ ?_ ?_
        · intro k hk hk2
          match k, hk, hk2 with
          | 18, _, _ => exact ⟨HQ0.out, by omega⟩
          | 0, hk, _ => exact absurd hk (by show ¬ (18 ≤ 0); omega)
          | 1, hk, _ => exact absurd hk (by show ¬ (18 ≤ 1); omega)
          | 2, hk, _ => exact absurd hk (by show ¬ (18 ≤ 2); omega)
          | 3, hk, _ => exact absurd hk (by show ¬ (18 ≤ 3); omega)
          | 4, hk, _ => exact absurd hk (by show ¬ (18 ≤ 4); omega)
          | 5, hk, _ => exact absurd hk (by show ¬ (18 ≤ 5); omega)
          | 6, hk, _ => exact absurd hk (by show ¬ (18 ≤ 6); omega)
          | 7, hk, _ => exact absurd hk (by show ¬ (18 ≤ 7); omega)
          | 8, hk, _ => exact absurd hk (by show ¬ (18 ≤ 8); omega)
          | 9, hk, _ => exact absurd hk (by show ¬ (18 ≤ 9); omega)
          | 10, hk, _ => exact absurd hk (by show ¬ (18 ≤ 10); omega)
          | 11, hk, _ => exact absurd hk (by show ¬ (18 ≤ 11); omega)
          | 12, hk, _ => exact absurd hk (by show ¬ (18 ≤ 12); omega)
          | 13, hk, _ => exact absurd hk (by show ¬ (18 ≤ 13); omega)
          | 14, hk, _ => exact absurd hk (by show ¬ (18 ≤ 14); omega)
          | 15, hk, _ => exact absurd hk (by show ¬ (18 ≤ 15); omega)
          | 16, hk, _ => exact absurd hk (by show ¬ (18 ≤ 16); omega)
          | 17, hk, _ => exact absurd hk (by show ¬ (18 ≤ 17); omega)
          | k + 19, _, hk2 => exact absurd hk2 (by show ¬ (k + 19 < 19); omega)
        · rintro a0 ⟨hz, g0, g1, g2, g3, g9⟩
          refine StepsRI.cons ?_ (StepsRI.cons ?_ (StepsRI.cons ?_ (StepsRI.cons ?_ (StepsRI.cons ?_ (StepsRI.cons ?_ (StepsRI.cons ?_ (StepsRI.cons ?_ (StepsRI.cons ?_ (StepsRI.cons ?_ (StepsRI.cons ?_ (StepsRI.cons ?_ (StepsRI.cons ?_ (StepsRI.cons ?_ (StepsRI.cons ?_ (StepsRI.cons ?_ (StepsRI.cons ?_ (StepsRI.cons ?_ (StepsRI.nil))))))))))))))))))
          · intro lQ b W hI hUN hED KQ hKQ
            exact opw_move 2 rfl (hKQ.out _ _ (hI.put 0 48 rfl rfl (by rw [hz]; decide) rfl hUN rfl HBB (s4Sp_stb ad nd cd (some ⟨b0, off, none⟩) (q + 1) c alg at2 sc x h nn dv F V1 w.heap.size (wq.heap.size)) (Below.refl _ _) ((hI.fr.same 2 (by decide)).trans g2)))
          · intro lQ b W hI hUN hED KQ hKQ
            exact opw_move 2 rfl (hKQ.out _ _ (hI.put 1 49 rfl rfl (by rw [hz]; decide) rfl hUN rfl HBB (s4Sp_stb ad nd cd (some ⟨b0, off, none⟩) (q + 1) c alg at2 sc x h nn dv F V1 w.heap.size (wq.heap.size)) (Below.refl _ _) ((hI.fr.same 2 (by decide)).trans g2)))
          · intro lQ b W hI hUN hED KQ hKQ
            exact opw_move 0 rfl (hKQ.out _ _ (hI.put 2 50 rfl rfl (by rw [hz]; decide) rfl hUN rfl HBB (s4Sp_stb ad nd cd (some ⟨b0, off, none⟩) (q + 1) c alg at2 sc x h nn dv F V1 w.heap.size (wq.heap.size)) (Below.refl _ _) ((hI.fr.same 0 (by decide)).trans g0)))
          · intro lQ b W hI hUN hED KQ hKQ
            exact opw_move 1 rfl (hKQ.out _ _ (hI.put 3 51 rfl rfl (by rw [hz]; decide) rfl hUN rfl HBB (s4Sp_stb ad nd cd (some ⟨b0, off, none⟩) (q + 1) c alg at2 sc x h nn dv F V1 w.heap.size (wq.heap.size)) (Below.refl _ _) ((hI.fr.same 1 (by decide)).trans g1)))
          · intro lQ b W hI hUN hED KQ hKQ
            have f0 := hI.got 2 (of_decide_eq_true rfl) (edge hED 2 (by kernel_rfl)) rfl
            replace f0 : aT b 50 = .slice ad nd cd := f0
            have f1 := hI.got 3 (of_decide_eq_true rfl) (edge hED 3 (by kernel_rfl)) rfl
            replace f1 : aT b 51 = .slice (some ⟨b0, off, none⟩) (q + 1) c := f1
            refine opw_call 20 #[.tmp 50, .tmp 51] _ _ _ rfl Tryz.func20 (by kernel_rfl) rfl #[.slice ad nd cd, .slice (some ⟨b0, off, none⟩) (q + 1) c] (by simp [ev, f0, f1]) ?_
            refine (HCO.out W hI.bel).mono ?_
            rintro e W2 ⟨a5, c5, rfl, ho, hb⟩
            exact ⟨_, rfl, hKQ.out _ _ (hI.put 4 52 rfl rfl (by rw [hz]; decide) rfl hUN rfl HBB (s4Sp_stb ad nd cd (some ⟨b0, off, none⟩) (q + 1) c alg at2 sc x h nn dv F V1 w.heap.size (wq.heap.size)) hb ⟨a5, c5, rfl, ho.mono (Nat.le_trans HBB hI.bel.size)⟩)⟩
          · intro lQ b W hI hUN hED KQ hKQ
            have f0 := hI.got 1 (of_decide_eq_true rfl) (edge hED 1 (by kernel_rfl)) rfl
            replace f0 : aT b 49 = .int .i64 alg := f0
            have f1 := hI.got 4 (of_decide_eq_true rfl) (edge hED 4 (by kernel_rfl)) rfl
            obtain ⟨a5, c5, f1, o1_0⟩ := f1
            replace f1 : aT b 52 = .slice a5 F.length c5 := f1
            refine opw_call 19 #[.tmp 49, .tmp 52] _ _ _ rfl Tryz.func19 (by kernel_rfl) rfl #[.int .i64 alg, .slice a5 F.length c5] (by simp [ev, f0, f1]) ?_
            refine (HDG.out W a5 c5 o1_0.toRow o1_0.nil (by omega)).mono ?_
            rintro e W2 ⟨rfl, hb⟩
            exact ⟨_, rfl, hKQ.out _ _ (hI.put 5 53 rfl rfl (by rw [hz]; decide) rfl hUN rfl HBB (s4Sp_stb ad nd cd (some ⟨b0, off, none⟩) (q + 1) c alg at2 sc x h nn dv F V1 w.heap.size (wq.heap.size)) hb rfl)⟩
          · intro lQ b W hI hUN hED KQ hKQ
            exact opw_move 3 rfl (hKQ.out _ _ (hI.put 6 54 rfl rfl (by rw [hz]; decide) rfl hUN rfl HBB (s4Sp_stb ad nd cd (some ⟨b0, off, none⟩) (q + 1) c alg at2 sc x h nn dv F V1 w.heap.size (wq.heap.size)) (Below.refl _ _) ((hI.fr.same 3 (by decide)).trans g3)))
          · intro lQ b W hI hUN hED KQ hKQ
            have hg := (hI.vot 18 (of_decide_eq_true rfl) (of_decide_eq_true rfl) rfl).1
            refine wp_load_row 29 _ rfl (w.heap.size) ((hI.fr.same 9 (by decide)).trans g9) 29 #[.int .i64 sc, .int .u64 x, .int .i64 h, .int .i64 nn] (0, 0) _ hg Tryz.underlying29 rfl (by kernel_rfl) ?_
            exact hKQ.out _ _ (hI.put 7 55 rfl rfl (by rw [hz]; decide) rfl hUN rfl HBB (s4Sp_stb ad nd cd (some ⟨b0, off, none⟩) (q + 1) c alg at2 sc x h nn dv F V1 w.heap.size (wq.heap.size)) (Below.refl _ _) rfl)
          · intro lQ b W hI hUN hED KQ hKQ
            have f0 := hI.got 0 (of_decide_eq_true rfl) (edge hED 0 (by kernel_rfl)) rfl
            replace f0 : aT b 48 = .int .i64 alg := f0
            have f1 := hI.got 5 (of_decide_eq_true rfl) (edge hED 5 (by kernel_rfl)) rfl
            replace f1 : aT b 53 = .int .u64 dv := f1
            have f2 := hI.got 6 (of_decide_eq_true rfl) (edge hED 6 (by kernel_rfl)) rfl
            replace f2 : aT b 54 = .int .i64 at2 := f2
            have f3 := hI.got 7 (of_decide_eq_true rfl) (edge hED 7 (by kernel_rfl)) rfl
            replace f3 : aT b 55 = .agg #[.int .i64 sc, .int .u64 x, .int .i64 h, .int .i64 nn] := f3
            refine opw_call 18 #[.tmp 48, .tmp 53, .tmp 54, .tmp 55] _ _ _ rfl Tryz.func18 (by kernel_rfl) rfl #[.int .i64 alg, .int .u64 dv, .int .i64 at2, .agg #[.int .i64 sc, .int .u64 x, .int .i64 h, .int .i64 nn]] (by simp [ev, f0, f1, f2, f3]) ?_
            refine (HMS.out W).mono ?_
            rintro e W2 ⟨a2, c2, rfl, ho, hb⟩
            exact ⟨_, rfl, hKQ.out _ _ (hI.put 8 56 rfl rfl (by rw [hz]; decide) rfl hUN rfl HBB (s4Sp_stb ad nd cd (some ⟨b0, off, none⟩) (q + 1) c alg at2 sc x h nn dv F V1 w.heap.size (wq.heap.size)) hb ⟨a2, c2, rfl, ho.mono (Nat.le_trans HBB hI.bel.size)⟩)⟩
          · intro lQ b W hI hUN hED KQ hKQ
            have f := hI.got 8 (of_decide_eq_true rfl) (edge hED 8 (by kernel_rfl)) rfl
            exact opw_move 56 rfl (hKQ.out _ _ (hI.put 9 47 rfl rfl (by rw [hz]; decide) rfl hUN rfl HBB (s4Sp_stb ad nd cd (some ⟨b0, off, none⟩) (q + 1) c alg at2 sc x h nn dv F V1 w.heap.size (wq.heap.size)) (Below.refl _ _) f))
          · intro lQ b W hI hUN hED KQ hKQ
            have f := hI.got 9 (of_decide_eq_true rfl) (edge hED 9 (by kernel_rfl)) rfl
            obtain ⟨a2, c2, f, o_0⟩ := f
            exact opw_extract 47 0 rfl _ _ f rfl (hKQ.out _ _ (hI.put 10 57 rfl rfl (by rw [hz]; decide) rfl hUN rfl HBB (s4Sp_stb ad nd cd (some ⟨b0, off, none⟩) (q + 1) c alg at2 sc x h nn dv F V1 w.heap.size (wq.heap.size)) (Below.refl _ _) ⟨a2, c2, rfl, o_0⟩))
          · intro lQ b W hI hUN hED KQ hKQ
            have f := hI.got 9 (of_decide_eq_true rfl) (edge hED 9 (by kernel_rfl)) rfl
            obtain ⟨a2, c2, f, o_0⟩ := f
            exact opw_extract 47 1 rfl _ _ f rfl (hKQ.out _ _ (hI.put 11 58 rfl rfl (by rw [hz]; decide) rfl hUN rfl HBB (s4Sp_stb ad nd cd (some ⟨b0, off, none⟩) (q + 1) c alg at2 sc x h nn dv F V1 w.heap.size (wq.heap.size)) (Below.refl _ _) rfl))
          · intro lQ b W hI hUN hED KQ hKQ
            have f := hI.got 9 (of_decide_eq_true rfl) (edge hED 9 (by kernel_rfl)) rfl
            obtain ⟨a2, c2, f, o_0⟩ := f
            exact opw_extract 47 2 rfl _ _ f rfl (hKQ.out _ _ (hI.put 12 59 rfl rfl (by rw [hz]; decide) rfl hUN rfl HBB (s4Sp_stb ad nd cd (some ⟨b0, off, none⟩) (q + 1) c alg at2 sc x h nn dv F V1 w.heap.size (wq.heap.size)) (Below.refl _ _) rfl))
          · intro lQ b W hI hUN hED KQ hKQ
            refine opw_value (w' := W.alloc (.cells #[.int .i64 0, .int .u64 0, .int .i64 0, .int .u64 0, .slice none 0 0] 45)) (.pointer (some ⟨W.heap.size, 0, none⟩)) (by kernel_rfl) ?_
            exact hKQ.out _ _ (hI.put 13 14 rfl rfl (by rw [hz]; decide) rfl hUN rfl HBB (s4Sp_stb ad nd cd (some ⟨b0, off, none⟩) (q + 1) c alg at2 sc x h nn dv F V1 w.heap.size (wq.heap.size)) ((Below.refl _ _).alloc (Nat.le_refl _) _) ⟨W.heap.size, rfl, heap_alloc_new W _, Nat.le_trans HBB hI.bel.size⟩)
          · intro lQ b W hI hUN hED KQ hKQ
            refine opw_value (w' := W.alloc (.cells #[.int .i64 0, .int .u64 0, .int .i64 0, .int .i64 0] 29)) (.pointer (some ⟨W.heap.size, 0, none⟩)) (by kernel_rfl) ?_
            exact hKQ.out _ _ (hI.put 14 15 rfl rfl (by rw [hz]; decide) rfl hUN rfl HBB (s4Sp_stb ad nd cd (some ⟨b0, off, none⟩) (q + 1) c alg at2 sc x h nn dv F V1 w.heap.size (wq.heap.size)) ((Below.refl _ _).alloc (Nat.le_refl _) _) ⟨W.heap.size, rfl, heap_alloc_new W _, Nat.le_trans HBB hI.bel.size⟩)
          · intro lQ b W hI hUN hED KQ hKQ
            obtain ⟨g, fb, hgb, hge⟩ := hI.got1 13 15 (of_decide_eq_true rfl) (edge hED 13 (by kernel_rfl)) hUN rfl
            have f := hI.got 10 (of_decide_eq_true rfl) (edge hED 10 (by kernel_rfl)) rfl
            obtain ⟨a2, c2, f, o_0⟩ := f
            refine wp_store_row 45 _ _ rfl g #[.int .i64 V1.alg, .int .u64 V1.dg, .int .i64 V1.at2, .int .u64 V1.ky, .slice a2 V1.sg.length c2] fb f 45 _ hgb (by kernel_rfl) rfl (by simp [Value.oneCell']) ?_
            have ht := setRow_touch W g #[.int .i64 V1.alg, .int .u64 V1.dg, .int .i64 V1.at2, .int .u64 V1.ky, .slice a2 V1.sg.length c2]
            exact hKQ.out _ _ (hI.store 15 (fun j hj => by
                rcases List.mem_singleton.1 hj with rfl
                exact edge hED 13 (by kernel_rfl)) (hI.bel.trans (ht.below hge (Nat.le_trans HBB hI.bel.size))) (s4Sp_st15 ad nd cd (some ⟨b0, off, none⟩) (q + 1) c alg at2 sc x h nn dv F V1 w.heap.size (wq.heap.size) hgb ht hge) ⟨g, a2, c2, fb, (setRow_heap W g _ _ _ _ hgb), hge, ⟨ownsRow_box o_0.row hgb (by decide) ht, o_0.byte⟩⟩)
          · intro lQ b W hI hUN hED KQ hKQ
            obtain ⟨g, fb, hgb, hge⟩ := hI.got1 14 16 (of_decide_eq_true rfl) (edge hED 14 (by kernel_rfl)) hUN rfl
            have f := hI.got 11 (of_decide_eq_true rfl) (edge hED 11 (by kernel_rfl)) rfl
            refine wp_store_row 29 _ _ rfl g #[.int .i64 V1.t.1, .int .u64 V1.t.2.1, .int .i64 V1.t.2.2.1, .int .i64 V1.t.2.2.2] fb f 29 _ hgb (by kernel_rfl) rfl (by simp [Value.oneCell']) ?_
            have ht := setRow_touch W g #[.int .i64 V1.t.1, .int .u64 V1.t.2.1, .int .i64 V1.t.2.2.1, .int .i64 V1.t.2.2.2]
            exact hKQ.out _ _ (hI.store 16 (fun j hj => by
                rcases List.mem_singleton.1 hj with rfl
                exact edge hED 14 (by kernel_rfl)) (hI.bel.trans (ht.below hge (Nat.le_trans HBB hI.bel.size))) (s4Sp_st16 ad nd cd (some ⟨b0, off, none⟩) (q + 1) c alg at2 sc x h nn dv F V1 w.heap.size (wq.heap.size) hgb ht hge) ⟨g, fb, (setRow_heap W g _ _ _ _ hgb), hge⟩)
          · intro lQ b W hI hUN hED KQ hKQ
            have f := hI.got 12 (of_decide_eq_true rfl) (edge hED 12 (by kernel_rfl)) rfl
            exact opw_assign 59 rfl (hKQ.out _ _ (hI.put 17 16 rfl rfl (by rw [hz]; decide) rfl hUN rfl HBB (s4Sp_stb ad nd cd (some ⟨b0, off, none⟩) (q + 1) c alg at2 sc x h nn dv F V1 w.heap.size (wq.heap.size)) (Below.refl _ _) f))
        · intro b W hf hb F
          obtain ⟨gst, a2, c2, e14, h14, hgst, ho⟩ := F 15 (of_decide_eq_true rfl) rfl
          obtain ⟨gsc, e15, h15, hgsc⟩ := F 16 (of_decide_eq_true rfl) rfl
          have e16 := F 17 (of_decide_eq_true rfl) rfl
          replace e14 : aT b 14 = _ := e14
          replace e15 : aT b 15 = _ := e15
          replace e16 : aT b 16 = _ := e16
          obtain ⟨w6, hw6⟩ : ∃ w6, w6 = W := ⟨_, rfl⟩
          subst hw6
          have H6R : Hid (w6.heap[w.heap.size + 1]? = some (.cells #[.int .i64 0, .int .u64 0, .int .i64 0, .int .i64 0] 29 (0, 0)) ∧ w6.heap[gst]? = some (.cells #[.int .i64 V1.alg, .int .u64 V1.dg, .int .i64 V1.at2, .int .u64 V1.ky, .slice a2 V1.sg.length c2] 45 (0, 0)) ∧ w6.heap[gsc]? = some (.cells #[.int .i64 V1.t.1, .int .u64 V1.t.2.1, .int .i64 V1.t.2.2.1, .int .i64 V1.t.2.2.2] 29 (0, 0))) := ⟨below_kept HQ.out hb, h14, h15⟩
          have hc6 := keepT hcq hb
          have L14 : gst < w6.heap.size := (Array.getElem?_eq_some_iff.1 h14).1
          have L15 : gsc < w6.heap.size := (Array.getElem?_eq_some_iff.1 h15).1
          have LG : w.heap.size + 1 < w6.heap.size := (Array.getElem?_eq_some_iff.1 H6R.out.1).1
          have HO6 : Hid (Own w.heap.size w6 a2 V1.sg.length c2 V1.sg) := ho.mono hcq.size
          have HJ : Hid (∀ k, (Value.slice a2 V1.sg.length c2).ownBlock = some k → k < w6.heap.size) := fun k hk => (ho.row.lt k hk).2
          rw [hf.eq]
          simp only [puts, Act.put, List.setIfInBounds_toArray, List.set_cons_zero, List.set_cons_succ, e14, e15, e16]
          clear hf F e14 e15 e16 h14 h15 ho hb
          generalize aT b = AT
          clear b
          go_upto_region 5 with fail
          by_cases hc7 : V1.cd = 0
          case neg =>
            have HF := (show Hid (V = rnBad V1.cd) by show _ = _; rw [HV1.out, if_neg hc7])
            have z5 : (V1.cd != 0) = true := by simp [hc7]
            go_upto_region 6 with fail
            have HBB : w.heap.size ≤ w6.heap.size := by omega
            refine wp_region_rp (szB V1.cd w.heap.size (w.heap.size)) [10, 12, 62, 63, 64] (w.heap.size) (fun a0 => a0.tmps.size = 71 ∧ aT a0 11 = .pointer (some ⟨(w.heap.size + 1), 0, none⟩) ∧ aT a0 16 = .int .i64 V1.cd) rfl (by kernel_rfl) rfl ⟨rfl, rfl, rfl⟩ (szB_stb V1.cd w.heap.size (w.heap.size)) ?_ ?_ ?_
            · intro k hk hk2
              match k, hk, hk2 with
              | 6, _, _ => exact H6R.out.1
              | 0, hk, _ => exact absurd hk (by show ¬ (6 ≤ 0); omega)
              | 1, hk, _ => exact absurd hk (by show ¬ (6 ≤ 1); omega)
              | 2, hk, _ => exact absurd hk (by show ¬ (6 ≤ 2); omega)
              | 3, hk, _ => exact absurd hk (by show ¬ (6 ≤ 3); omega)
              | 4, hk, _ => exact absurd hk (by show ¬ (6 ≤ 4); omega)
              | 5, hk, _ => exact absurd hk (by show ¬ (6 ≤ 5); omega)
              | k + 7, _, hk2 => exact absurd hk2 (by show ¬ (k + 7 < 7); omega)
            · rintro a0 ⟨hz, g11, g16⟩
              refine StepsRI.cons ?_ (StepsRI.cons ?_ (StepsRI.cons ?_ (StepsRI.cons ?_ (StepsRI.cons ?_ (StepsRI.cons ?_ (StepsRI.nil))))))
              · intro lQ b W hI hUN hED KQ hKQ
                refine opw_buildSlice _ 0 _ rfl #[] (by simp) (.slice (some ⟨W.heap.size, 0, none⟩) 0 0) (W.alloc (.cells #[] 45)) (by kernel_rfl) ?_
                exact hKQ.out _ _ (hI.put 0 62 rfl rfl (by rw [hz]; decide) rfl hUN rfl HBB (szB_stb V1.cd w.heap.size (w.heap.size)) ((Below.refl _ _).alloc (Nat.le_refl _) _) ⟨W.heap.size, rfl, ownS_empty W (Nat.le_trans HBB hI.bel.size)⟩)
              · intro lQ b W hI hUN hED KQ hKQ
                refine opw_build 29 _ rfl #[] (by simp []) (.agg #[.int .i64 0, .int .u64 0, .int .i64 0, .int .i64 0]) (by kernel_rfl) ?_
                exact hKQ.out _ _ (hI.put 1 63 rfl rfl (by rw [hz]; decide) rfl hUN rfl HBB (szB_stb V1.cd w.heap.size (w.heap.size)) (Below.refl _ _) rfl)
              · intro lQ b W hI hUN hED KQ hKQ
                exact opw_move 16 rfl (hKQ.out _ _ (hI.put 2 64 rfl rfl (by rw [hz]; decide) rfl hUN rfl HBB (szB_stb V1.cd w.heap.size (w.heap.size)) (Below.refl _ _) ((hI.fr.same 16 (by decide)).trans g16)))
              · intro lQ b W hI hUN hED KQ hKQ
                have f := hI.got 0 (of_decide_eq_true rfl) (edge hED 0 (by kernel_rfl)) rfl
                exact opw_assign 62 rfl (hKQ.out _ _ (hI.put 3 10 rfl rfl (by rw [hz]; decide) rfl hUN rfl HBB (szB_stb V1.cd w.heap.size (w.heap.size)) (Below.refl _ _) f))
              · intro lQ b W hI hUN hED KQ hKQ
                have hgb := (hI.vot1 6 4 (of_decide_eq_true rfl) (of_decide_eq_true rfl) hUN rfl)
                have fb := ((hI.fr.same 11 (by decide)).trans g11)
                have f := hI.got 1 (of_decide_eq_true rfl) (edge hED 1 (by kernel_rfl)) rfl
                refine wp_store_row 29 _ _ rfl ((w.heap.size + 1)) #[.int .i64 0, .int .u64 0, .int .i64 0, .int .i64 0] fb f 29 _ hgb (by kernel_rfl) rfl (by simp [Value.oneCell']) ?_
                have ht := setRow_touch W ((w.heap.size + 1)) #[.int .i64 0, .int .u64 0, .int .i64 0, .int .i64 0]
                exact hKQ.out _ _ (hI.store 4 (fun j hj => by cases hj) (hI.bel.trans (ht.below (by first | exact HGE11 | omega) (Nat.le_trans HBB hI.bel.size))) (szB_st4 V1.cd w.heap.size (w.heap.size) hgb ht) (setRow_heap W ((w.heap.size + 1)) _ _ _ _ hgb))
              · intro lQ b W hI hUN hED KQ hKQ
                have f := hI.got 2 (of_decide_eq_true rfl) (edge hED 2 (by kernel_rfl)) rfl
                exact opw_assign 64 rfl (hKQ.out _ _ (hI.put 5 12 rfl rfl (by rw [hz]; decide) rfl hUN rfl HBB (szB_stb V1.cd w.heap.size (w.heap.size)) (Below.refl _ _) f))
            · intro b W hf hb F
              have e0 := F 4 (of_decide_eq_true rfl) rfl
              obtain ⟨gz, e1, hoz⟩ := F 3 (of_decide_eq_true rfl) rfl
              have e3 := F 5 (of_decide_eq_true rfl) rfl
              replace e1 : aT b 10 = _ := e1
              replace e3 : aT b 12 = _ := e3
              rw [hf.eq]
              simp only [puts, Act.put, List.setIfInBounds_toArray, List.set_cons_zero, List.set_cons_succ, e1, e3]
              clear hf F
              go_wp2
              try simp only [Exit.inBlock, Exit.then]
              exact bodyPost_ret (results_rn rfl _ (w.heap.size + 1) _ rfl rfl _ rfl _ _ e0 rfl) rfl ⟨some ⟨gz, 0, none⟩, 0, by rw [HF.out]; rfl, ⟨[], by rw [HF.out]; exact hoz, by rw [HF.out]; rfl⟩, hc6.trans hb⟩
  
          case pos =>
            have HF := (show Hid (V = ⟨xs ++ [stOf V1], V1.t, 0⟩) by show _ = _; rw [HV1.out, if_pos hc7])
            have z5 : (V1.cd != 0) = false := by simp [hc7]
            clear hc7
            go_upto_region 7 with fail
            have HBB : w.heap.size ≤ w6.heap.size := by omega
            have hby := hc6
            refine wp_region_ri (s7Sp (some ⟨b0, off, none⟩) (q + 1) c xs V1 a2 c2 gst gsc w.heap.size w6.heap.size (w.heap.size)) [10, 12, 65, 66, 67, 68, 69, 70] (w.heap.size) (fun a0 => a0.tmps.size = 71 ∧ aT a0 1 = .slice (some ⟨b0, off, none⟩) (q + 1) c ∧ aT a0 11 = .pointer (some ⟨(w.heap.size + 1), 0, none⟩) ∧ aT a0 14 = .pointer (some ⟨gst, 0, none⟩) ∧ aT a0 15 = .pointer (some ⟨gsc, 0, none⟩)) (by kernel_rfl) rfl (by kernel_rfl) rfl ⟨rfl, rfl, rfl, rfl, rfl⟩ (s7Sp_stb (some ⟨b0, off, none⟩) (q + 1) c xs V1 a2 c2 gst gsc w.heap.size w6.heap.size (w.heap.size)) ?_ ?_ ?_
            · intro k hk hk2
              match k, hk, hk2 with
              | 9, _, _ => exact H6R.out.2.1
              | 10, _, _ => exact ⟨H6R.out.2.2, by omega⟩
              | 11, _, _ => exact H6R.out.1
              | 12, _, _ => exact (show Own w.heap.size w6 a2 V1.sg.length c2 V1.sg from HO6.out)
              | 0, hk, _ => exact absurd hk (by show ¬ (9 ≤ 0); omega)
              | 1, hk, _ => exact absurd hk (by show ¬ (9 ≤ 1); omega)
              | 2, hk, _ => exact absurd hk (by show ¬ (9 ≤ 2); omega)
              | 3, hk, _ => exact absurd hk (by show ¬ (9 ≤ 3); omega)
              | 4, hk, _ => exact absurd hk (by show ¬ (9 ≤ 4); omega)
              | 5, hk, _ => exact absurd hk (by show ¬ (9 ≤ 5); omega)
              | 6, hk, _ => exact absurd hk (by show ¬ (9 ≤ 6); omega)
              | 7, hk, _ => exact absurd hk (by show ¬ (9 ≤ 7); omega)
              | 8, hk, _ => exact absurd hk (by show ¬ (9 ≤ 8); omega)
              | k + 13, _, hk2 => exact absurd hk2 (by show ¬ (k + 13 < 13); omega)
            · rintro a0 ⟨hz, g1, g11, g14, g15⟩
              refine StepsRI.cons ?_ (StepsRI.cons ?_ (StepsRI.cons ?_ (StepsRI.cons ?_ (StepsRI.cons ?_ (StepsRI.cons ?_ (StepsRI.cons ?_ (StepsRI.cons ?_ (StepsRI.cons ?_ (StepsRI.nil)))))))))
              · intro lQ b W hI hUN hED KQ hKQ
                exact opw_move 1 rfl (hKQ.out _ _ (hI.put 0 65 rfl rfl (by rw [hz]; decide) rfl hUN rfl HBB (s7Sp_stb (some ⟨b0, off, none⟩) (q + 1) c xs V1 a2 c2 gst gsc w.heap.size w6.heap.size (w.heap.size)) (Below.refl _ _) ((hI.fr.same 1 (by decide)).trans g1)))
              · intro lQ b W hI hUN hED KQ hKQ
                have f0 : aT b 65 = .slice (some ⟨b0, off, none⟩) (q + 1) c := hI.got 0 (of_decide_eq_true rfl) (edge hED 0 (by kernel_rfl)) rfl
                refine opw_call 21 #[.tmp 65] _ _ _ rfl Tryz.func21 (by kernel_rfl) rfl #[.slice (some ⟨b0, off, none⟩) (q + 1) c] (by simp [ev, f0]) ?_
                refine (l18Copy_any (some ⟨b0, off, none⟩) (q + 1) c xs W (HST.out W (hby.trans hI.bel)) (by omega)).mono ?_
                rintro e W2 ⟨a1, c1, ps, rfl, ⟨ho, hxs⟩, hb⟩
                exact ⟨_, rfl, hKQ.out _ _ (hI.put 1 66 rfl rfl (by rw [hz]; decide) rfl hUN rfl HBB (s7Sp_stb (some ⟨b0, off, none⟩) (q + 1) c xs V1 a2 c2 gst gsc w.heap.size w6.heap.size (w.heap.size)) hb ⟨a1, c1, ps, rfl, ho.mono hI.bel.size, hxs⟩)⟩
              · intro lQ b W hI hUN hED KQ hKQ
                have hg := (hI.vot 9 (of_decide_eq_true rfl) (of_decide_eq_true rfl) rfl)
                refine wp_load_row 45 _ rfl (gst) ((hI.fr.same 14 (by decide)).trans g14) 45 #[.int .i64 V1.alg, .int .u64 V1.dg, .int .i64 V1.at2, .int .u64 V1.ky, .slice a2 V1.sg.length c2] (0, 0) _ hg Tryz.underlying45 rfl (by kernel_rfl) ?_
                exact hKQ.out _ _ (hI.put 2 67 rfl rfl (by rw [hz]; decide) rfl hUN rfl HBB (s7Sp_stb (some ⟨b0, off, none⟩) (q + 1) c xs V1 a2 c2 gst gsc w.heap.size w6.heap.size (w.heap.size)) (Below.refl _ _) rfl)
              · intro lQ b W hI hUN hED KQ hKQ
                have f := hI.got 2 (of_decide_eq_true rfl) (edge hED 2 (by kernel_rfl)) rfl
                replace f : aT b 67 = .agg #[.int .i64 V1.alg, .int .u64 V1.dg, .int .i64 V1.at2, .int .u64 V1.ky, .slice a2 V1.sg.length c2] := f
                refine opw_buildSlice _ 1 _ rfl #[(0, .agg #[.int .i64 V1.alg, .int .u64 V1.dg, .int .i64 V1.at2, .int .u64 V1.ky, .slice a2 V1.sg.length c2])] (by simp [ev, f]) (.slice (some ⟨W.heap.size, 0, none⟩) 1 1) (W.alloc (.cells #[.int .i64 V1.alg, .int .u64 V1.dg, .int .i64 V1.at2, .int .u64 V1.ky, .slice a2 V1.sg.length c2] 45)) (by kernel_rfl) ?_
                exact hKQ.out _ _ (hI.put 3 68 rfl rfl (by rw [hz]; decide) rfl hUN rfl HBB (s7Sp_stb (some ⟨b0, off, none⟩) (q + 1) c xs V1 a2 c2 gst gsc w.heap.size w6.heap.size (w.heap.size)) ((Below.refl _ _).alloc (Nat.le_refl _) _) ⟨W.heap.size, rfl, heap_alloc_new W _⟩)
              · intro lQ b W hI hUN hED KQ hKQ
                obtain ⟨a1, c1, ps, f0, ho, hxs⟩ := hI.got1 1 4 (of_decide_eq_true rfl) (edge hED 1 (by kernel_rfl)) hUN rfl
                replace f0 : aT b 66 = .slice a1 (q + 1) c1 := f0
                obtain ⟨gk, f1, hgk⟩ := hI.got1 3 4 (of_decide_eq_true rfl) (edge hED 3 (by kernel_rfl)) hUN rfl
                replace f1 : aT b 68 = .slice (some ⟨gk, 0, none⟩) 1 1 := f1
                have l6 : lQ 6 = false := by
                  cases h : lQ 6 with
                  | false => rfl
                  | true =>
                    have h2 := hI.cl 6 (of_decide_eq_true rfl) h 4 (List.Mem.head _)
                    rw [show lQ 4 = false from hUN] at h2
                    cases h2
                have hsg := hI.vot 12 (of_decide_eq_true rfl) (of_decide_eq_true rfl) rfl
                have hRW : w6.heap.size ≤ W.heap.size := hI.bel.size
                refine opw_append_st 66 68 28 rfl w6.heap.size 45 i0 _ 5 56 Tryz.underlying28 hi hz0 hz1 hz2 rfl (by decide) (.slice a1 (q + 1) c1) (q + 1) _ f0 ho.row ⟨gk, 0, none⟩ 1 1 [.int .i64 V1.alg, .int .u64 V1.dg, .int .i64 V1.at2, .int .u64 V1.ky, .slice a2 V1.sg.length c2] f1 rfl (cells_of5 hgk) (by intro u hu; simp only [List.mem_cons, List.not_mem_nil, or_false] at hu; rcases hu with rfl | rfl | rfl | rfl | rfl <;> rfl) (by unfold maxLen; omega) (by omega) hRW ?_
                intro v' w' hv' hg'
                obtain ⟨a', c', rfl⟩ := owns_shapeR hv'
                have hlo : ∀ k, (Value.slice a1 (q + 1) c1).ownBlock = some k → w6.heap.size ≤ k := fun k hk => (ho.row.lt k hk).1
                have hbR : Below w6.heap.size W w' := (Below.refl _ _).grown hg' hRW hlo
                have hN : OwnS w.heap.size w' a' ((q + 1) + 1) c' (ps ++ [((a2, V1.sg.length, c2), stOf V1)]) := (ho.mono HBB).appended (p := ((a2, V1.sg.length, c2), stOf V1)) hsg HRG.out (fun j k hj h1 h2 => by have e1 := ((ho.each j hj).row.lt k h1).1; have e2 := HJ.out k h2; omega) (by rw [List.flatMap_append]; exact ownsRow_mono hv' HBB) hg'
                exact hKQ.out _ _ (hI.turn 4 69 (fun j hj => by cases hj) rfl (by rw [hz]; decide) rfl hUN rfl (hI.bel.trans (hbR.mono HBB)) (s7Sp_st4 (some ⟨b0, off, none⟩) (q + 1) c xs V1 a2 c2 gst gsc w.heap.size w6.heap.size w.heap.size hbR hg' hlo HJ.out L14 L15 LG l6) ⟨a', c', ps ++ [((a2, V1.sg.length, c2), stOf V1)], rfl, hN, by simp [xsOf, ← hxs]⟩)
              · intro lQ b W hI hUN hED KQ hKQ
                have hg := (hI.vot 10 (of_decide_eq_true rfl) (of_decide_eq_true rfl) rfl).1
                refine wp_load_row 29 _ rfl (gsc) ((hI.fr.same 15 (by decide)).trans g15) 29 #[.int .i64 V1.t.1, .int .u64 V1.t.2.1, .int .i64 V1.t.2.2.1, .int .i64 V1.t.2.2.2] (0, 0) _ hg Tryz.underlying29 rfl (by kernel_rfl) ?_
                exact hKQ.out _ _ (hI.put 5 70 rfl rfl (by rw [hz]; decide) rfl hUN rfl HBB (s7Sp_stb (some ⟨b0, off, none⟩) (q + 1) c xs V1 a2 c2 gst gsc w.heap.size w6.heap.size (w.heap.size)) (Below.refl _ _) rfl)
              · intro lQ b W hI hUN hED KQ hKQ
                have f := hI.got 4 (of_decide_eq_true rfl) (edge hED 4 (by kernel_rfl)) rfl
                exact opw_assign 69 rfl (hKQ.out _ _ (hI.putp 6 10 (fun j hj => by rcases List.mem_singleton.1 hj with rfl; exact (edge hED 4 (by kernel_rfl))) rfl (by rw [hz]; decide) rfl hUN rfl HBB (s7Sp_stb (some ⟨b0, off, none⟩) (q + 1) c xs V1 a2 c2 gst gsc w.heap.size w6.heap.size (w.heap.size)) (Below.refl _ _) f))
              · intro lQ b W hI hUN hED KQ hKQ
                have hgb := (hI.vot1 11 7 (of_decide_eq_true rfl) (of_decide_eq_true rfl) hUN rfl)
                have fb := ((hI.fr.same 11 (by decide)).trans g11)
                have f := hI.got 5 (of_decide_eq_true rfl) (edge hED 5 (by kernel_rfl)) rfl
                refine wp_store_row 29 _ _ rfl ((w.heap.size + 1)) #[.int .i64 V1.t.1, .int .u64 V1.t.2.1, .int .i64 V1.t.2.2.1, .int .i64 V1.t.2.2.2] fb f 29 _ hgb (by kernel_rfl) rfl (by simp [Value.oneCell']) ?_
                have ht := setRow_touch W ((w.heap.size + 1)) #[.int .i64 V1.t.1, .int .u64 V1.t.2.1, .int .i64 V1.t.2.2.1, .int .i64 V1.t.2.2.2]
                exact hKQ.out _ _ (hI.store 7 (fun j hj => by cases hj) (hI.bel.trans (ht.below (by first | exact HGE11 | omega) (Nat.le_trans HBB hI.bel.size))) (s7Sp_st7 (some ⟨b0, off, none⟩) (q + 1) c xs V1 a2 c2 gst gsc w.heap.size w6.heap.size (w.heap.size) hgb ht) (setRow_heap W ((w.heap.size + 1)) _ _ _ _ hgb))
              · intro lQ b W hI hUN hED KQ hKQ
                exact opw_const (.int .i64 0) rfl (hKQ.out _ _ (hI.put 8 12 rfl rfl (by rw [hz]; decide) rfl hUN rfl HBB (s7Sp_stb (some ⟨b0, off, none⟩) (q + 1) c xs V1 a2 c2 gst gsc w.heap.size w6.heap.size (w.heap.size)) (Below.refl _ _) rfl))
            · intro b W hf hb F
              obtain ⟨a', c', ps', e10, ho, hxs⟩ := F 6 (of_decide_eq_true rfl) rfl
              have e11 := F 7 (of_decide_eq_true rfl) rfl
              have e12 := F 8 (of_decide_eq_true rfl) rfl
              replace e10 : aT b 10 = _ := e10
              replace e12 : aT b 12 = _ := e12
              rw [hf.eq]
              simp only [puts, Act.put, List.setIfInBounds_toArray, List.set_cons_zero, List.set_cons_succ, e10, e12]
              clear hf F
              go_wp2
              try simp only [Exit.inBlock, Exit.then]
              exact bodyPost_ret (results_rn rfl _ (w.heap.size + 1) _ rfl rfl _ rfl _ _ e11 rfl) rfl ⟨a', c', by rw [HF.out]; simp [rnOut, HLX.out], ⟨ps', by rw [HF.out]; simpa [HLX.out] using ho, by rw [HF.out]; exact hxs⟩, hby.trans hb⟩

end Go.Proofs.YtmhijbcbckljmaaGreat

