import Derived.Test.YtbfjkmlmnhphoaaDoorGCO15CC9
import Derived.Test.YtbfjkmlmnhphoaaDoorGRGEMc
import Derived.Lib.AppendZeros
import Derived.Test.YtbfjkmlmnhphoaaDoorRJ
set_option linter.unusedVariables false
namespace Go.Proofs.YtbfjkmlmnhphoaaDoor
open Go.RowKit Go.Sort

/-- Where entry j's name lies. -/
def slOf (w : World) (b off : Nat) (j : Nat) : Sl := match w.cell? ⟨b, off + j * 4, none⟩ with
  | some (.slice a n c) => (a, n, c)
  | _ => (none, 0, 0)
theorem slOf_eq {w : World} {b off j : Nat} {an : Option Addr} {nn cn : Nat} (h : w.cell? ⟨b, off + j * 4, none⟩ = some (.slice an nn cn)) : slOf w b off j = (an, nn, cn) := by
  unfold slOf
  rw [h]
/-- A row of entries that is read: its values. -/
theorem newsG {w0 w : World} (hb0 : Below w0.heap.size w0 w) {b off n : Nat} {xs : List GP} (h : Gns w0 (some ⟨b, off, none⟩) n xs) : ∀ j u, (flG xs (slOf w0 b off) n)[j]? = some u → w.cell? ((⟨b, off, none⟩ : Addr).add j) = some u := by
  intro j u hu
  have hj := (List.getElem?_eq_some_iff.1 hu).1
  rw [flG_len] at hj
  obtain ⟨q, r, rfl, hr, hq⟩ : ∃ q r, j = q * 4 + r ∧ r < 4 ∧ q < n := ⟨j / 4, j % 4, by omega, by omega, by omega⟩
  obtain ⟨b', off', an, nn, cn, e, hlb, hc, hp⟩ := h.get q hq
  simp only [Option.some.injEq, Addr.mk.injEq] at e
  obtain ⟨rfl, rfl, _⟩ := e
  obtain ⟨f0, f1, f2, f3⟩ := flG_get xs (slOf w0 b off) n q hq
  rw [slOf_eq hc.c0] at f0
  rw [Addr.add_lit, hb0.cell (p := ⟨b, off + (q * 4 + r), none⟩) hlb]
  match r, hr with
  | 0, _ => rw [Nat.add_zero] at hu ⊢; rw [f0] at hu; rw [← hu]; exact hc.c0
  | 1, _ => rw [f1] at hu; rw [← hu, ← Nat.add_assoc]; exact hc.c1
  | 2, _ => rw [f2] at hu; rw [← hu, ← Nat.add_assoc]; exact hc.c2
  | 3, _ => rw [f3] at hu; rw [← hu, ← Nat.add_assoc]; exact hc.c3
theorem flG_one (xs : List GP) (sl : Nat → Sl) : ∀ n, ∀ u ∈ flG xs sl n, u.oneCell' = true := by
  intro n
  induction n with
  | zero => intro u hu; cases hu
  | succ n ih =>
    intro u hu
    simp only [flG] at hu
    rcases List.mem_append.1 hu with h | h
    · exact ih u h
    · simp only [List.mem_cons, List.not_mem_nil, or_false] at h
      rcases h with rfl | rfl | rfl | rfl <;> rfl
theorem flG_both (zs ys : List GP) (sl sg : Nat → Sl) (k : Nat) (hk : zs.length = k) : ∀ m, m ≤ ys.length → flG (zs ++ ys) (fun j => if j < k then sl j else sg (j - k)) (k + m) = flG zs sl k ++ flG ys sg m := by
  intro m
  induction m with
  | zero =>
    intro _
    rw [Nat.add_zero]
    simp only [flG, List.append_nil]
    exact flG_ext k (fun j hj => ⟨getD_left (by omega), by simp [hj]⟩)
  | succ m ih =>
    intro hm
    have e : (zs ++ ys).getD (k + m) default = ys.getD m default := by
      rw [List.getD_eq_getElem?_getD, List.getD_eq_getElem?_getD, List.getElem?_append_right (by omega), show k + m - zs.length = m by omega]
    rw [← Nat.add_assoc]
    simp only [flG]
    rw [ih (by omega), e, if_neg (by omega), show k + m - k = m by omega, List.append_assoc]

/-- append(out, ys...): out a row of entries of our own, ys whatever is read. -/
theorem wpList_append_rowG (w0 w : World) {ops : Array Oper} {rest : List Oper} {o : Oper} {a : Act} {Q : Exit → Act → World → Prop}
    (hg : o.guard = none) (s x : Operand) (hop : o.op = Op.call { callee := Callee.builtin Builtin.append, args := #[s, x], argTypes := #[34, 34] })
    (B : Nat) (ao : Option Addr) (k c : Nat) (zs : List GP) (sl : Nat → Sl) (hs : a.eval s = .slice ao k c) (hown : GsO w0 B w ao k c zs sl)
    (ay : Option Addr) (m cy : Nat) (ys : List GP) (hx : a.eval x = .slice ay m cy) (hb0 : Below w0.heap.size w0 w) (hrow : Gns w0 ay m ys) (hnil : ay = none → cy = 0)
    (hc : ∀ j, j < m → ∀ b off an nn cn, ay = some ⟨b, off, none⟩ → w0.cell? ⟨b, off + j * 4, none⟩ = some (.slice an nn cn) → (an = none → cn = 0) ∧ nn ≤ 1048576)
    (b1 : k + m ≤ 1000000) (b3 : B ≤ w.heap.size)
    (hK : ∀ a' c' w', (∃ sl', GsO w0 B w' a' (k + m) c' (zs ++ ys) sl') → w.grownBy w' (Value.slice ao k c).ownBlock → wpList Tryd.prog ops Q rest (a.put o.dst (.slice a' (k + m) c')) w') :
    wpList Tryd.prog ops Q (o :: rest) a w := by
  obtain ⟨i0, hi, hz0, hz1, hz2⟩ := info_parts Tryd.infoGone
  have hys := hrow.len
  have hzs := hown.len
  cases ay with
  | some ad =>
    by_cases h0 : 0 < m
    · obtain ⟨b, off, _, _, _, e, _⟩ := hrow.get 0 h0
      simp only [Option.some.injEq] at e
      subst e
      refine wpList_append_own w hg s x 34 hop B 63 i0 _ 4 48 Tryd.underlying34 hi hz0 hz1 hz2 rfl (by decide) _ k _ hs hown.row ⟨b, off, none⟩ m cy (flG ys (slOf w0 b off) m) hx (flG_len _ _ _) (newsG hb0 hrow) (flG_one _ _ _) (by unfold maxLen; omega) (by omega) b3 ?_
      intro v' w' r1 r2 _
      obtain ⟨a', c', rfl⟩ := owns_shapeP r1
      refine hK a' c' w' ⟨fun j => if j < k then sl j else slOf w0 b off (j - k), by rw [List.length_append]; omega, ?_, fun j hj => ?_⟩ r2
      · rw [flG_both zs ys sl _ k hzs m (by omega)]; exact r1
      · by_cases hjk : j < k
        · simp only [hjk, if_true]
          rw [getD_left (by omega)]
          exact hown.pts j hjk
        · simp only [hjk, if_false]
          have e : (zs ++ ys).getD j default = ys.getD (j - k) default := by
            rw [List.getD_eq_getElem?_getD, List.getD_eq_getElem?_getD, List.getElem?_append_right (by omega), show j - zs.length = j - k by omega]
          rw [e]
          obtain ⟨b', off', an, nn, cn, e2, hlb, hcc, hp⟩ := hrow.get (j - k) (by omega)
          simp only [Option.some.injEq, Addr.mk.injEq] at e2
          obtain ⟨rfl, rfl, _⟩ := e2
          rw [slOf_eq hcc.c0]
          obtain ⟨h1, h2⟩ := hc (j - k) (by omega) b off an nn cn rfl hcc.c0
          exact ⟨hp, h1, h2⟩
    · obtain rfl : m = 0 := by omega
      have hye : ys = [] := List.eq_nil_of_length_eq_zero hys
      subst hye
      refine wpList_append_own w hg s x 34 hop B 63 i0 _ 4 48 Tryd.underlying34 hi hz0 hz1 hz2 rfl (by decide) _ k _ hs hown.row ad 0 cy [] hx rfl (fun j u hu => by simp at hu) (fun u hu => by cases hu) (by unfold maxLen; omega) (by omega) b3 ?_
      intro v' w' r1 r2 _
      obtain ⟨a', c', rfl⟩ := owns_shapeP r1
      refine hK a' c' w' ⟨sl, by simpa using hzs, ?_, fun j hj => ?_⟩ r2
      · simpa using r1
      · simpa using hown.pts j hj
  | none =>
    have hm : m = 0 := by
      rcases Nat.eq_zero_or_pos m with h0 | h0
      · exact h0
      · obtain ⟨b, off, _, _, _, e, _⟩ := hrow.get 0 h0
        cases e
    subst hm
    have hye : ys = [] := List.eq_nil_of_length_eq_zero hys
    subst hye
    obtain rfl := hnil rfl
    refine wpList_append_own_none hg s x 34 hop B 63 i0 4 Tryd.underlying34 hi _ k _ hs hown.row hx ?_
    exact hK ao c w ⟨sl, by simpa using hown⟩ (World.grownBy.refl _ _)

set_option maxRecDepth 10000 in
set_option maxHeartbeats 1000000 in
theorem growG_nil (n : Nat) (w : World) (h0 : 0 < n) (hn : n ≤ 100000) :
    Calls Tryd.prog 99 #[.slice none 0 0, .int .i64 n] w fun e w' => ∃ a c, e = .returned (.slice a 0 c) ∧ w'.ownsRow w.heap.size 63 4 (.slice a 0 c) 0 [] ∧ Below w.heap.size w w' := by
  obtain ⟨i0, hi, hz0, hz1, hz2⟩ := info_parts Tryd.infoGone
  have hr := Lib.run_append_nil_zeros (P := Tryd.prog) w 34 3 34 63 i0 (.agg #[.slice none 0 0, .int .i64 0, .int .i64 0, .int .i64 0]) .i64 .i64 Tryd.underlying34 Tryd.underlying3 hi hz0 n h0 (by omega) (by omega) (by rw [hz2]; omega)
  obtain ⟨C, hC⟩ : ∃ C, C = grownCap w n 0 63 := ⟨_, rfl⟩
  rw [← hC] at hr
  obtain ⟨w1, hw1⟩ : ∃ w1, w1 = w.drew.alloc (.cells (Builtin.zeroCells (Value.agg #[.slice none 0 0, .int .i64 0, .int .i64 0, .int .i64 0]).cells n ++ Builtin.zeroCells (Value.agg #[.slice none 0 0, .int .i64 0, .int .i64 0, .int .i64 0]).cells (C - n)) 63) := ⟨_, rfl⟩
  rw [← hw1] at hr
  have hgc : n ≤ C ∧ C ≤ maxLen := by rw [hC]; exact ⟨grownCap_ge _ _ _ _ , grownCap_le_maxLen _ _ _ _ (by unfold maxLen; omega)⟩
  have hown : w1.ownsRow w.heap.size 63 4 (.slice (some ⟨w.heap.size, 0, none⟩) 0 C) 0 [] := by
    refine ⟨rfl, .inr ⟨w.heap.size, C, _, rfl, Nat.le_refl _, by rw [hw1]; exact heap_alloc_new w.drew _, Nat.zero_le _, hgc.2, ?_, rfl⟩⟩
    simp [Builtin.zeroCells, Value.cells]
    omega
  have hb1 : Below w.heap.size w w1 := by rw [hw1]; exact ((Below.refl _ _).drew).alloc (Nat.le_refl _) _
  have HW : Hid (_ = _) := hw1
  have HC : Hid (_ = _) := hC
  clear hgc hw1 hC
  have HR : Hid (_ = _) := hr
  clear hr
  go_enter Tryd.func99, Tryd.ntmps99
  go_wp2_with (first | (at_builtin; refine Lib.wpList_append_run _ rfl _ _ _ _ rfl _ _ rfl rfl _ _ HR.out ?_))
  go_ret
  exact ⟨_, _, rfl, hown, hb1⟩

set_option maxRecDepth 10000 in
set_option maxHeartbeats 1000000 in
theorem growG_zero (w : World) :
    Calls Tryd.prog 99 #[.slice none 0 0, .int .i64 0] w fun e w' => ∃ a c, e = .returned (.slice a 0 c) ∧ w'.ownsRow w.heap.size 63 4 (.slice a 0 c) 0 [] ∧ Below w.heap.size w w' := by
  go_enter Tryd.func99, Tryd.ntmps99
  go_wp2
  go_ret
  exact ⟨none, 0, rfl, World.ownsRow_nil _ _ _ _, Below.refl _ _⟩

theorem growG_any (n : Nat) (w : World) (hn : n ≤ 100000) :
    Calls Tryd.prog 99 #[.slice none 0 0, .int .i64 n] w fun e w' => ∃ a c, e = .returned (.slice a 0 c) ∧ w'.ownsRow w.heap.size 63 4 (.slice a 0 c) 0 [] ∧ Below w.heap.size w w' := by
  by_cases h : 0 < n
  · exact growG_nil n w h hn
  · obtain rfl : n = 0 := by omega
    exact growG_zero w

end Go.Proofs.YtbfjkmlmnhphoaaDoor

set_option linter.unusedVariables false
namespace Go.Proofs.YtbfjkmlmnhphoaaDoor
open Go.RowKit Go.Sort

/-- A row of entries that may be read: the names lie as they lay in w0. -/
structure GnsR (w0 : World) (a : Option Addr) (n c : Nat) (xs : List GP) : Prop where
  gns : Gns w0 a n xs
  nil : a = none → c = 0
  caps : ∀ j, j < n → ∀ b off an nn cn, a = some ⟨b, off, none⟩ → w0.cell? ⟨b, off + j * 4, none⟩ = some (.slice an nn cn) → (an = none → cn = 0) ∧ nn ≤ 1048576
/-- Rows of them, two. -/
structure RowsG (w0 : World) (b off : Nat) (W : World) (sz : Nat → Nat) (fl : Nat → List GP) : Prop where
  lt : b < W.heap.size
  get : ∀ k, k < 2 → ∃ ak nk ck zs, W.cell? ⟨b, off + k, none⟩ = some (.slice ak nk ck) ∧ GnsR w0 ak nk ck zs ∧ sz (k + 1) = sz k + nk ∧ fl (k + 1) = fl k ++ zs
  z0 : sz 0 = 0 ∧ fl 0 = []
  top : sz 2 ≤ 2000
theorem RowsG.kept {w0 : World} {b off : Nat} {W W' : World} {sz : Nat → Nat} {fl : Nat → List GP} (h : RowsG w0 b off W sz fl) (hb : Below W.heap.size W W') : RowsG w0 b off W' sz fl := by
  refine ⟨Nat.lt_of_lt_of_le h.lt hb.size, fun k hk => ?_, h.z0, h.top⟩
  obtain ⟨ak, nk, ck, zs, h1, h2⟩ := h.get k hk
  exact ⟨ak, nk, ck, zs, (hb.cell (p := ⟨b, off + k, none⟩) h.lt).trans h1, h2⟩
theorem RowsG.le {w0 : World} {b off : Nat} {W : World} {sz : Nat → Nat} {fl : Nat → List GP} (h : RowsG w0 b off W sz fl) (k : Nat) (hk : k ≤ 2) : sz k ≤ 2000 := by
  obtain ⟨_, n0, _, _, _, _, e0, _⟩ := h.get 0 (by omega)
  obtain ⟨_, n1, _, _, _, _, e1, _⟩ := h.get 1 (by omega)
  have := h.top
  have h0 := h.z0.1
  match k, hk with
  | 0, _ => omega
  | 1, _ => simp only [Nat.zero_add, Nat.reduceAdd] at e0 e1; omega
  | 2, _ => exact this

set_option maxRecDepth 10000 in
set_option maxHeartbeats 4000000 in
theorem concatG_any (w0 : World) (b off c : Nat) (sz : Nat → Nat) (fl : Nat → List GP) (w : World) (hb0 : Below w0.heap.size w0 w) (h : RowsG w0 b off w sz fl) :
    Calls Tryd.prog 80 #[.slice (some ⟨b, off, none⟩) 2 c] w fun e w' => ∃ a' c', e = .returned (.slice a' (sz 2) c') ∧ (∃ sl, GsO w0 w.heap.size w' a' (sz 2) c' (fl 2) sl) ∧ Below w.heap.size w w' := by
  have H0 : Hid (RowsG w0 b off w sz fl) := h
  have HB0 : Hid (Below w0.heap.size w0 w) := hb0
  have hlb := h.lt
  have s0 : Hid (sz 0 = 0) := h.z0.1
  clear h hb0
  go_enter Tryd.func80, Tryd.ntmps80
  go_wp2
  go_loopw [3, 11] (fun s i wr => ∃ (k q : Nat), k ≤ 2 ∧ i = .int .i64 k ∧ s = .int .i64 q ∧ Hid (q = sz k) ∧ Below w.heap.size w wr) (fun _ i _ => 2 - (intOf i).toNat)
  case atStart => exact ⟨0, 0, by omega, rfl, rfl, s0.out.symm, Below.refl _ _⟩
  case round =>
    obtain ⟨k, q, hk, rfl, rfl, HS, hbr⟩ := hrel
    have hws := hbr.size
    by_cases hlt : k < 2
    · obtain ⟨ak, nk, ck, zs, hc, hg, hs, _⟩ := H0.out.get k hlt
      have hcr : wr.cell? ⟨b, off + k, none⟩ = some (.slice ak nk ck) := (hbr.cell (p := ⟨b, off + k, none⟩) hlb).trans hc
      have HN : Hid (q + nk = sz (k + 1)) := by show _ = _; rw [hs, HS.out]
      have hsn : q + nk ≤ 2000 := by have := HN.out; have := H0.out.le (k + 1) (by omega); omega
      have zz : ¬ ((q : Int) + (nk : Int) < 0) := by omega
      have hkni : (k : Int) < 2 := by omega
      have hbw : b < wr.heap.size := by omega
      clear hc hg hs
      go_wp2
      go_roundw
      case rel => exact ⟨k + 1, q + nk, by omega, by go_num, by go_num, HN, hbr⟩
      case measure => simp [intOf]; omega
    · obtain rfl : k = 2 := by omega
      have HS2 : Hid (q = sz 2) := HS
      have hs5 : q ≤ 2000 := by have := HS2.out; have := H0.out.top; omega
      obtain ⟨w1, hw1⟩ : ∃ w1, w1 = wr := ⟨_, rfl⟩
      subst hw1
      go_wp2_with fail
      refine (growG_any q _ (by omega)).mono ?_
      rintro e w2 ⟨a2, c2, rfl, ho2, hb2⟩
      have HO2 : Hid (∃ sl, GsO w0 w.heap.size w2 a2 0 c2 (fl 0) sl) := ⟨fun _ => (none, 0, 0), by rw [H0.out.z0.2]; exact ⟨rfl, owns_monoC ho2 hws, fun j hj => absurd hj (Nat.not_lt_zero _)⟩⟩
      have hbz := hbr.trans (hb2.mono hws)
      clear ho2 HS hbr
      go_wp2
      go_loopw [6, 27] (fun o i wr => ∃ (j m : Nat) (ao : Option Addr) (cc : Nat), j ≤ 2 ∧ i = .int .i64 j ∧ o = .slice ao m cc ∧ Hid (m = sz j) ∧ Hid (∃ sl, GsO w0 w.heap.size wr ao m cc (fl j) sl) ∧ Below w.heap.size w wr) (fun _ i _ => 2 - (intOf i).toNat)
      case atStart => exact ⟨0, 0, a2, c2, by omega, rfl, rfl, s0.out.symm, HO2, hbz⟩
      case round =>
        obtain ⟨j, m, ao, cc, hj, rfl, rfl, HM, HO, hbr⟩ := hrel
        have hws2 := hbr.size
        by_cases hlt2 : j < 2
        · obtain ⟨ak, nk, ck, zs, hc, hg, hs, hf⟩ := H0.out.get j hlt2
          have hcr : wr.cell? ⟨b, off + j, none⟩ = some (.slice ak nk ck) := (hbr.cell (p := ⟨b, off + j, none⟩) hlb).trans hc
          have HE : Hid (fl (j + 1) = fl j ++ zs) := hf
          have HG : Hid (GnsR w0 ak nk ck zs) := hg
          have HM2 : Hid (m + nk = sz (j + 1)) := by show _ = _; rw [hs, HM.out]
          have hmn : m + nk ≤ 2000 := by have := HM2.out; have := H0.out.le (j + 1) (by omega); omega
          have HB2 : Hid (Below w0.heap.size w0 wr) := HB0.out.trans (hbr.mono HB0.out.size)
          have hkni : (j : Int) < 2 := by omega
          have hbw : b < wr.heap.size := by omega
          obtain ⟨sl, hsl⟩ := HO.out
          have HSL : Hid (GsO w0 w.heap.size wr ao m cc (fl j) sl) := hsl
          clear hc hg hs hf hsl
          go_wp2_with (at_builtin; refine wpList_append_rowG w0 _ rfl _ _ rfl w.heap.size ao m cc (fl j) sl rfl HSL.out ak nk ck zs rfl HB2.out HG.out.gns HG.out.nil HG.out.caps (by omega) hws2 ?_; intro a4 c4 w4 ho4 hg4; have hbr4 : Below w.heap.size w w4 := hbr.grown hg4 hws2 (fun kx hx => (HSL.out.row.lt kx hx).1); have HO4 : Hid (∃ sl, GsO w0 w.heap.size w4 a4 (m + nk) c4 (fl (j + 1)) sl) := (by rw [HE.out]; exact ho4); clear ho4 hg4)
          go_roundw
          case rel => exact ⟨j + 1, m + nk, a4, c4, by omega, by go_num, rfl, HM2, HO4, hbr4⟩
          case measure => simp [intOf]; omega
        · obtain rfl : j = 2 := by omega
          go_wp2
          go_ret
          exact ⟨ao, cc, by rw [← HM.out]; rfl, by rw [← HM.out]; exact HO.out, hbr⟩

end Go.Proofs.YtbfjkmlmnhphoaaDoor
