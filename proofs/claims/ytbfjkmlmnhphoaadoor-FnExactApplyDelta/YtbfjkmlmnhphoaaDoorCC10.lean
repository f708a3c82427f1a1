import Derived.Test.YtbfjkmlmnhphoaaDoorGCO15CC9
set_option linter.unusedVariables false
namespace Go.Proofs.YtbfjkmlmnhphoaaDoor
open Go.RowKit Go.Sort Go.Maps

theorem Dn_at (D : DataW Value) (ys : List GP) (q : List UInt8) (z : DataW Value) : ∀ k, (Dn D ys k).atKey (.string q) z = if (lastK ys q k).isSome then z else D.atKey (.string q) z
  | 0 => by simp [Dn, lastK]
  | k + 1 => by
    unfold Dn lastK
    by_cases e : kb (ys.getD k default) = q
    · rw [if_pos e, e, atKey_del_same]; simp
    · have hne : Lit.string q ≠ Lit.string (kb (ys.getD k default)) := fun e2 => e (by simpa using e2.symm)
      rw [if_neg e, atKey_del_other hne]
      exact Dn_at D ys q z k
/-- What the map answers at a key once the first k entries' keys are gone. -/
theorem Dn_look {w1 : World} {a : Option Addr} {n : Nat} {xs ys : List GP} (hG : Gns w1 a n xs) (hp : ∀ j, j < n → kOk (xs.getD j default)) (k : Nat) (q : List UInt8) : ∃ q1 q2 q3 s t r, (Dn (Vn w1 a xs n) ys k).atKey (.string q) (.held (.agg #[.slice none 0 0, .int .i64 0, .int .i64 0, .int .i64 0])) = .held (.agg #[.slice q1 q2 q3, .int .i64 s, .int .i64 t, .int .i64 r]) ∧ has (Dn (Vn w1 a xs n) ys k) (.string q) = ((lastK xs q n).isSome && (lastK ys q k).isNone) ∧ ∀ j, lastK xs q n = some j → lastK ys q k = none → t = (xs.getD j default).tm ∧ r = (xs.getD j default).rs := by
  obtain ⟨e1, e2⟩ := Vn_at w1 a xs q (.held (.agg #[.slice none 0 0, .int .i64 0, .int .i64 0, .int .i64 0])) n hp
  rw [Dn_has, e2, Dn_at, e1]
  cases hl : lastK ys q k with
  | some i => exact ⟨none, 0, 0, 0, 0, 0, rfl, rfl, fun j _ h => by cases h⟩
  | none =>
    cases hx : lastK xs q n with
    | none => exact ⟨none, 0, 0, 0, 0, 0, rfl, rfl, fun j h => by cases h⟩
    | some j =>
      obtain ⟨b, off, an, nn, cn, rfl, hlt, hc, _⟩ := hG.get j (lastK_lt hx).1
      refine ⟨an, nn, cn, (xs.getD j default).ser, (xs.getD j default).tm, (xs.getD j default).rs, ?_, rfl, fun i h _ => ?_⟩
      · show DataW.held (entV w1 (some ⟨b, off, none⟩) j) = _
        rw [entV_eq hc]
      · cases h; exact ⟨rfl, rfl⟩
theorem lastK_apart {ys : List GP} {k : Nat} (h : ∀ i, i < k → kb (ys.getD i default) ≠ kb (ys.getD k default)) : lastK ys (kb (ys.getD k default)) k = none := by
  cases e : lastK ys (kb (ys.getD k default)) k with
  | none => rfl
  | some i => exact absurd (lastK_lt e).2 (h i (lastK_lt e).1)

set_option maxRecDepth 10000 in
set_option maxHeartbeats 8000000 in
theorem changesOf_any (a1 : Option Addr) (n1 c1 : Nat) (a2 : Option Addr) (n2 c2 : Nat) (a3 : Option Addr) (n3 c3 : Nat) (x : CP) (b1 : Option Addr) (m1 d1 : Nat) (b2 : Option Addr) (m2 d2 : Nat) (b3 : Option Addr) (m3 d3 : Nat) (y : CP) (w0 w : World) (hb0 : Below w0.heap.size w0 w) (htab : Lib.TabIs Tryd.prog w "internal/strconv.uint64pow10" .u64 Lib.pow10Tab)
    (h : Gns w0 a2 n2 x.ents) (h' : Gns w0 b2 m2 y.ents) (hn : n2 ≤ 1000) (hm : m2 ≤ 1000) (hp : ∀ k, k < n2 → kOk (x.ents.getD k default)) (hq : ∀ k, k < m2 → kOk (y.ents.getD k default)) (hd : ∀ i k, i < m2 → k < i → kb (y.ents.getD k default) ≠ kb (y.ents.getD i default))
    (hc : ∀ k, k < n2 → ∀ b off an nn cn, a2 = some ⟨b, off, none⟩ → w0.cell? ⟨b, off + k * 4, none⟩ = some (.slice an nn cn) → (an = none → cn = 0) ∧ nn ≤ 1048576)
    (hc' : ∀ k, k < m2 → ∀ b off an nn cn, b2 = some ⟨b, off, none⟩ → w0.cell? ⟨b, off + k * 4, none⟩ = some (.slice an nn cn) → (an = none → cn = 0) ∧ nn ≤ 1048576) :
    Calls Tryd.prog 48 #[crv a1 n1 c1 a2 n2 c2 a3 n3 c3 x, crv b1 m1 d1 b2 m2 d2 b3 m3 d3 y] w fun e w' => ∃ p k d sl, e = .returned (.slice p k d) ∧ GsO w0 w.heap.size w' p k d (chgs x.ents y.ents y.tm) sl ∧ Below w.heap.size w w' := by
  obtain ⟨i0, hi, hz0, hz1, hz2⟩ := info_parts Tryd.infoGone
  have HB0 : Hid (Below w0.heap.size w0 w) := hb0
  have HA : Hid (Gns w0 a2 n2 x.ents) := h
  have HB : Hid (Gns w0 b2 m2 y.ents) := h'
  have HLN : Hid (x.ents.length = n2 ∧ y.ents.length = m2) := ⟨h.len, h'.len⟩
  have HP : Hid (∀ k, k < n2 → kOk (x.ents.getD k default)) := hp
  have HQ : Hid (∀ k, k < m2 → kOk (y.ents.getD k default)) := hq
  have HD : Hid (∀ i k, i < m2 → k < i → kb (y.ents.getD k default) ≠ kb (y.ents.getD i default)) := hd
  have HCA : Hid (∀ k, k < n2 → ∀ b off an nn cn, a2 = some ⟨b, off, none⟩ → w0.cell? ⟨b, off + k * 4, none⟩ = some (.slice an nn cn) → (an = none → cn = 0) ∧ nn ≤ 1048576) := hc
  have HCB : Hid (∀ k, k < m2 → ∀ b off an nn cn, b2 = some ⟨b, off, none⟩ → w0.cell? ⟨b, off + k * 4, none⟩ = some (.slice an nn cn) → (an = none → cn = 0) ∧ nn ≤ 1048576) := hc'
  have HT : Hid (∀ W, Below w.heap.size w W → Lib.TabIs Tryd.prog W "internal/strconv.uint64pow10" .u64 Lib.pow10Tab) := fun W hW => Lib.tabBelow_of_tabIs htab W hW
  clear hb0 h h' hp hq hd hc hc' htab
  obtain ⟨w1, hw1⟩ : ∃ w1, w1 = (w.alloc (.cells #[.slice a1 n1 c1, .int .i64 x.num, .int .i64 x.base, .int .i64 x.tm, .int .i64 x.next, .int .i64 x.scope, .bool x.ind, .slice a2 n2 c2, .slice a3 n3 c3] 36)).alloc (.cells #[.slice b1 m1 d1, .int .i64 y.num, .int .i64 y.base, .int .i64 y.tm, .int .i64 y.next, .int .i64 y.scope, .bool y.ind, .slice b2 m2 d2, .slice b3 m3 d3] 36) := ⟨_, rfl⟩
  have hbb : Below w.heap.size w w1 := by rw [hw1]; exact ((Below.refl _ _).alloc (Nat.le_refl _) _).alloc (by simp) _
  have hB1 : w1.heap[w.heap.size]? = some (.cells #[.slice a1 n1 c1, .int .i64 x.num, .int .i64 x.base, .int .i64 x.tm, .int .i64 x.next, .int .i64 x.scope, .bool x.ind, .slice a2 n2 c2, .slice a3 n3 c3] 36 (0, 0)) ∧ w1.heap[w.heap.size + 1]? = some (.cells #[.slice b1 m1 d1, .int .i64 y.num, .int .i64 y.base, .int .i64 y.tm, .int .i64 y.next, .int .i64 y.scope, .bool y.ind, .slice b2 m2 d2, .slice b3 m3 d3] 36 (0, 0)) := by rw [hw1]; exact two_blocks w _ _
  have hs1 : w1.heap.size = w.heap.size + 2 := by rw [hw1]; simp
  have HX1 : Hid (_ ∧ _) := hB1
  have HBW : Hid (Below w.heap.size w w1) := hbb
  have HS1 : Hid (_ = _) := hs1
  have HW : Hid (_ = _) := hw1
  have x7 : w1.cell? ⟨w.heap.size, 7, none⟩ = some (.slice a2 n2 c2) := (cell_of_row _ _ 7 _ _ (0, 0) hB1.1).trans rfl
  clear hw1 hB1 hbb hs1
  unfold crv
  go_enter Tryd.func48, Tryd.ntmps48
  go_upto_region 1 with fail
  rw [← HW.out]
  clear HW
  go_wp2_with fail
  refine (byKeyV_any a2 n2 c2 x.ents w1 (HT.out _ HBW.out) ((HA.out.kept HB0.out).kept HBW.out) hn (fun k hk => HP.out k hk)).mono ?_
  rintro e w2 ⟨rfl, hmp, hb2⟩
  have HM0 : Hid (MpV w1.heap.size n2 (Dn (Vn w1 a2 x.ents n2) y.ents 0) w2) := hmp
  have HB2 : Hid (Below w1.heap.size w1 w2) := hb2
  have HG1 : Hid (Gns w1 a2 n2 x.ents) := (HA.out.kept HB0.out).kept HBW.out
  have y7 : w2.cell? ⟨w.heap.size + 1, 7, none⟩ = some (.slice b2 m2 d2) := (cell_of_row _ _ 7 _ _ (0, 0) ((hb2.block _ (by rw [HS1.out]; omega)).trans HX1.out.2)).trans rfl
  clear hmp hb2 x7
  go_wp2_with fail
  clear y7
  go_loopw [6, 22] (fun o i wr => ∃ (k : Nat) (ao : Option Addr) (q cc : Nat), k ≤ m2 ∧ q ≤ k ∧ i = .int .i64 k ∧ o = .slice ao q cc ∧ Hid (∃ sl, GsO w0 w1.heap.size wr ao q cc (chA x.ents y.ents k) sl) ∧ Hid (MpV w1.heap.size n2 (Dn (Vn w1 a2 x.ents n2) y.ents k) wr) ∧ Below w1.heap.size w1 wr) (fun _ i _ => m2 - (intOf i).toNat)
  case atStart => exact ⟨0, none, 0, 0, Nat.zero_le _, Nat.le_refl _, rfl, rfl, ⟨fun _ => (none, 0, 0), GsO.empty _ _ _ _⟩, HM0.out, HB2.out⟩
  case round =>
    obtain ⟨k, ao, q, cc, hk, hqk, rfl, rfl, HO, HM, hbr⟩ := hrel
    by_cases hlt : k < m2
    · obtain ⟨b, off, an, nn, cn, rfl, hlb, hc, hp⟩ := HB.out.get k hlt
      obtain ⟨hnl, hn1⟩ := HCB.out k hlt b off an nn cn rfl hc.c0
      have hbw : Below w.heap.size w wr := HBW.out.trans (hbr.mono HBW.out.size)
      have HKZ := HQ.out k hlt
      have HLA : Hid (lastK y.ents (kb (y.ents.getD k default)) k = none) := lastK_apart (fun i hi => HD.out k i hlt hi)
      obtain ⟨z, hz⟩ : ∃ z, z = y.ents.getD k default := ⟨_, rfl⟩
      have HCH : Hid (chA x.ents y.ents (k + 1) = chA x.ents y.ents k ++ if sameE x.ents z then [] else [z]) := by show _ = _; rw [hz]; rfl
      have HDN : Hid (Dn (Vn w1 a2 x.ents n2) y.ents (k + 1) = (Dn (Vn w1 a2 x.ents n2) y.ents k).del (.string (kb z))) := by show _ = _; rw [hz]; rfl
      rw [← hz] at hc hp HKZ HLA
      have HKZ' : Hid (kOk z) := HKZ
      obtain ⟨e0, e1, e2, e3⟩ := hc.of (w' := wr) (fun i => (HB0.out.trans (hbw.mono HB0.out.size)).cell (p := ⟨b, i, none⟩) hlb)
      have HPT : Hid (Pts w0 an nn z.parts ∧ (an = none → cn = 0) ∧ nn ≤ 1048576) := ⟨hp, hnl, hn1⟩
      have hkni : (k : Int) < (m2 : Int) := by omega
      obtain ⟨q1, q2, q3, s, t, r, hV, hH, hTR⟩ := Dn_look HG1.out HP.out (ys := y.ents) k (kb z)
      rw [HLA.out] at hH
      have HSM : Hid (sameE x.ents z = ((lastK x.ents (kb z) n2).isSome && (decide (t = z.tm) && decide (r = z.rs)))) := by
        show _ = _
        unfold sameE
        rw [HLN.out.1]
        cases hl : lastK x.ents (kb z) n2 with
        | none => rfl
        | some j =>
          obtain ⟨rfl, rfl⟩ := hTR j hl HLA.out
          rfl
      obtain ⟨hb, hbe⟩ : ∃ hb, hb = (lastK x.ents (kb z) n2).isSome := ⟨_, rfl⟩
      rw [← hbe] at hH HSM
      have HV : Hid (_ = _) := hV
      have HHB : Hid (has (Dn (Vn w1 a2 x.ents n2) y.ents k) (.string (kb z)) = hb) := by show _ = _; rw [hH]; simp
      clear hc hp hz hnl hn1 hV hH hTR hbe HKZ HLA
      have M := fun W hb => goneKey_any an nn cn z W (HT.out W hb) (HPT.out.1.kept (HB0.out.trans (hb.mono HB0.out.size))) HKZ'.out.1
      unfold gov at M
      have hbz : Below wr.heap.size wr (wr.alloc (.cells #[.slice an nn cn, .int .i64 z.ser, .int .i64 z.tm, .int .i64 z.rs] 63)) := (Below.refl _ _).alloc (Nat.le_refl _) _
      have HMM : Hid (_) := M _ (hbw.trans (hbz.mono hbw.size))
      have HBZ : Hid (_) := hbz
      have HBR : Hid (Below w.heap.size w wr ∧ Below w1.heap.size w1 wr) := ⟨hbw, hbr⟩
      clear M hbz hbw hbr
      go_wp2_with fail
      refine Calls.mono HMM.out ?_
      rintro e w3 ⟨rfl, hb3⟩
      have hb3r : Below wr.heap.size wr w3 := HBZ.out.trans (hb3.mono HBZ.out.size)
      have hs3 : wr.heap.size < w3.heap.size := by have := hb3.size; simp at this; omega
      have hbx3 : w3.heap[wr.heap.size]? = some (.cells #[.slice an nn cn, .int .i64 z.ser, .int .i64 z.tm, .int .i64 z.rs] 63 (0, 0)) := (hb3.block _ (by simp)).trans (heap_alloc_new wr _)
      obtain ⟨w4, hw4⟩ : ∃ w4, w4 = w3.alloc (.cells #[.string (ftS z.parts), .int .i64 z.ser] 99) := ⟨_, rfl⟩
      have hb4 : Below w3.heap.size w3 w4 := by rw [hw4]; exact (Below.refl _ _).alloc (Nat.le_refl _) _
      have hs4 : w4.heap.size = w3.heap.size + 1 := by rw [hw4]; simp
      have hk4 : w4.heap[w3.heap.size]? = some (.cells #[.string (ftS z.parts), .int .i64 z.ser] 99 (0, 0)) := by rw [hw4]; exact heap_alloc_new w3 _
      have hb4r : Below wr.heap.size wr w4 := hb3r.trans (hb4.mono hb3r.size)
      have HX4 : Hid (_ ∧ _) := ⟨(hb4.block _ hs3).trans hbx3, hk4⟩
      have HM4 : Hid (MpV w1.heap.size n2 (Dn (Vn w1 a2 x.ents n2) y.ents k) w4) := MpV.below HM.out hb4r
      have HO4 : Hid (∃ sl, GsO w0 w1.heap.size w4 ao q cc (chA x.ents y.ents k) sl) := ⟨_, HO.out.choose_spec.below hb4r⟩
      have HBR4 : Hid (Below w.heap.size w w4 ∧ Below w1.heap.size w1 w4) := ⟨HBR.out.1.trans (hb4r.mono HBR.out.1.size), HBR.out.2.trans (hb4r.mono HBR.out.2.size)⟩
      have HS4 : Hid (w4.heap.size = w3.heap.size + 1 ∧ wr.heap.size < w3.heap.size) := ⟨hs4, hs3⟩
      have HOB : Hid (∀ g, ao = some ⟨g, 0, none⟩ → g < wr.heap.size) := fun g e => (ownsRow_in HO.out.choose_spec.row g e).2
      have k0 : w4.cell? ⟨w3.heap.size, 0, none⟩ = some (.string (ftS z.parts)) := (cell_of_row _ _ 0 _ _ (0, 0) hk4).trans rfl
      have k1 : w4.cell? ⟨w3.heap.size, 1, none⟩ = some (.int .i64 z.ser) := (cell_of_row _ _ 1 _ _ (0, 0) hk4).trans rfl
      have HW4 : Hid (_ = _) := hw4
      clear hw4 hb3 hb3r hs3 hbx3 hb4 hs4 hk4 hb4r HMM HBZ HM HO HBR e0 e1 e2 e3
      go_upto_region 7 with fail
      rw [← HW4.out]
      clear HW4
      obtain ⟨w5, hw5⟩ : ∃ w5, w5 = w4.alloc (.cells #[.slice q1 q2 q3, .int .i64 s, .int .i64 t, .int .i64 r] 63) := ⟨_, rfl⟩
      have hb5 : Below w4.heap.size w4 w5 := by rw [hw5]; exact (Below.refl _ _).alloc (Nat.le_refl _) _
      have hv5 : w5.heap[w4.heap.size]? = some (.cells #[.slice q1 q2 q3, .int .i64 s, .int .i64 t, .int .i64 r] 63 (0, 0)) := by rw [hw5]; exact heap_alloc_new w4 _
      have hx5 := (hb5.block _ (by have := HS4.out; omega)).trans HX4.out.1
      have hk5 := (hb5.block _ (by have := HS4.out; omega)).trans HX4.out.2
      have HX5 : Hid (_ ∧ _ ∧ _) := ⟨hx5, hk5, hv5⟩
      have HS5 : Hid (w4.heap.size < w5.heap.size) := by show _ < _; rw [hw5]; simp
      have HW5 : Hid (_ = _) := hw5
      clear hw5 hb5 hv5 hx5 hk5
      go_upto_region 8 with (at_lookup; refine wpList_lookupV _ rfl _ _ 95 rfl 99 63 kLaw Tryd.underlying95 (zeroGone _) _ n2 _ rfl HM4.out _ _ rfl HKZ'.out.at _ _ HV.out HHB.out ?_)
      rw [← HW5.out]
      have u2 : w5.cell? ⟨wr.heap.size, 2, none⟩ = some (.int .i64 z.tm) := (cell_of_row _ _ 2 _ _ (0, 0) HX5.out.1).trans rfl
      have u3 : w5.cell? ⟨wr.heap.size, 3, none⟩ = some (.int .i64 z.rs) := (cell_of_row _ _ 3 _ _ (0, 0) HX5.out.1).trans rfl
      have v2 : w5.cell? ⟨w4.heap.size, 2, none⟩ = some (.int .i64 t) := (cell_of_row _ _ 2 _ _ (0, 0) HX5.out.2.2).trans rfl
      have v3 : w5.cell? ⟨w4.heap.size, 3, none⟩ = some (.int .i64 r) := (cell_of_row _ _ 3 _ _ (0, 0) HX5.out.2.2).trans rfl
      go_cut [49] (fun c wx => ∃ bq : Bool, c = .bool bq ∧ Hid (bq = (!(hb && (decide (t = z.tm) && decide (r = z.rs)))) ∧ wx = w5))
      case first =>
        clear HW5 HX4 HM4 HO4 HBR4 HV HHB
        cases hb with
        | false =>
          go_wp2_with fail
          go_meet
          exact ⟨true, rfl, ⟨by simp, rfl⟩⟩
        | true =>
          by_cases ht : t = z.tm
          · subst ht
            by_cases hr : r = z.rs
            · subst hr
              go_wp2_with fail
              go_meet
              exact ⟨false, rfl, ⟨by simp, rfl⟩⟩
            · go_wp2_with fail
              go_meet
              exact ⟨r != z.rs, rfl, ⟨by simp [hr], rfl⟩⟩
          · go_wp2_with fail
            go_meet
            exact ⟨true, rfl, ⟨by simp [ht], rfl⟩⟩
      case rest =>
      obtain ⟨bq, rfl, hbq⟩ := hcut
      obtain ⟨hbq1, hwx⟩ := hbq.out
      rw [← HSM.out] at hbq1
      rw [hwx]
      clear hbq hwx u2 u3 v2 v3 HV HHB HSM
      have hal5 : Below w4.heap.size w4 w5 := by rw [HW5.out]; exact (Below.refl _ _).alloc (Nat.le_refl _) _
      have HM5 : Hid (MpV w1.heap.size n2 (Dn (Vn w1 a2 x.ents n2) y.ents k) w5) := MpV.below HM4.out hal5
      have HO5 : Hid (∃ sl, GsO w0 w1.heap.size w5 ao q cc (chA x.ents y.ents k) sl) := ⟨_, HO4.out.choose_spec.below hal5⟩
      have HBR5 : Hid (Below w.heap.size w w5 ∧ Below w1.heap.size w1 w5) := ⟨HBR4.out.1.trans (hal5.mono HBR4.out.1.size), HBR4.out.2.trans (hal5.mono HBR4.out.2.size)⟩
      clear hal5 HW5 HM4 HO4 HBR4 HX4
      cases bq with
      | true =>
        have HCE : Hid (chA x.ents y.ents (k + 1) = chA x.ents y.ents k ++ [z]) := by
          show _ = _
          rw [HCH.out]
          rw [show sameE x.ents z = false by simpa using hbq1]
          rfl
        clear hbq1 HCH
        have u0 : w5.cell? ⟨wr.heap.size, 0, none⟩ = some (.slice an nn cn) := (cell_of_row _ _ 0 _ _ (0, 0) HX5.out.1).trans rfl
        have u1 : w5.cell? ⟨wr.heap.size, 1, none⟩ = some (.int .i64 z.ser) := (cell_of_row _ _ 1 _ _ (0, 0) HX5.out.1).trans rfl
        have u2 : w5.cell? ⟨wr.heap.size, 2, none⟩ = some (.int .i64 z.tm) := (cell_of_row _ _ 2 _ _ (0, 0) HX5.out.1).trans rfl
        have u3 : w5.cell? ⟨wr.heap.size, 3, none⟩ = some (.int .i64 z.rs) := (cell_of_row _ _ 3 _ _ (0, 0) HX5.out.1).trans rfl
        obtain ⟨sl, hgs⟩ := HO5.out
        have hal : Below w5.heap.size w5 (w5.alloc (.cells #[.slice an nn cn, .int .i64 z.ser, .int .i64 z.tm, .int .i64 z.rs] 63)) := (Below.refl _ _).alloc (Nat.le_refl _) _
        have HG6 : Hid (GsO w0 w1.heap.size (w5.alloc (.cells #[.slice an nn cn, .int .i64 z.ser, .int .i64 z.tm, .int .i64 z.rs] 63)) ao q cc (chA x.ents y.ents k) sl) := hgs.below hal
        have HR6 : Hid ((w5.alloc (.cells #[.slice an nn cn, .int .i64 z.ser, .int .i64 z.tm, .int .i64 z.rs] 63)).ownsRow w1.heap.size 63 4 (.slice ao q cc) q (flG (chA x.ents y.ents k) sl q)) := HG6.out.row
        have hk6 : (w5.alloc (.cells #[.slice an nn cn, .int .i64 z.ser, .int .i64 z.tm, .int .i64 z.rs] 63)).heap[w3.heap.size]? = some (.cells #[.string (ftS z.parts), .int .i64 z.ser] 99 (0, 0)) := (hal.block _ (by have := HS4.out; have := HS5.out; omega)).trans HX5.out.2.1
        have hm6 : MpV w1.heap.size n2 (Dn (Vn w1 a2 x.ents n2) y.ents k) (w5.alloc (.cells #[.slice an nn cn, .int .i64 z.ser, .int .i64 z.tm, .int .i64 z.rs] 63)) := MpV.below HM5.out hal
        have hb6 : Below w1.heap.size w1 (w5.alloc (.cells #[.slice an nn cn, .int .i64 z.ser, .int .i64 z.tm, .int .i64 z.rs] 63)) := HBR5.out.2.trans (hal.mono HBR5.out.2.size)
        have HAPP : Hid (∀ a7 c7 w7, w7.ownsRow w1.heap.size 63 4 (.slice a7 (q + 1) c7) (q + 1) (flG (chA x.ents y.ents k) sl q ++ [.slice an nn cn, .int .i64 z.ser, .int .i64 z.tm, .int .i64 z.rs]) → (w5.alloc (.cells #[.slice an nn cn, .int .i64 z.ser, .int .i64 z.tm, .int .i64 z.rs] 63)).grownBy w7 (Value.slice ao q cc).ownBlock → Hid (∃ sl, GsO w0 w1.heap.size w7 a7 (q + 1) c7 (chA x.ents y.ents (k + 1)) sl) ∧ Hid (MpV w1.heap.size n2 (Dn (Vn w1 a2 x.ents n2) y.ents k) w7) ∧ Hid (Below w1.heap.size w1 w7) ∧ Hid (w7.heap[w3.heap.size]? = some (.cells #[.string (ftS z.parts), .int .i64 z.ser] 99 (0, 0)))) := by
          intro a7 c7 w7 hv7 hg7
          refine ⟨⟨fun j => if j = q then (an, nn, cn) else sl j, ?_⟩, MpV.grown hm6 HR6.out hg7, hb6.grown hg7 hb6.size (fun kx hx => (HR6.out.lt kx hx).1), (hg7.block _ (Array.getElem?_eq_some_iff.1 hk6).1 (fun e => ?_)).trans hk6⟩
          · rw [HCE.out]
            exact HG6.out.appended HPT.out.1 HPT.out.2.1 HPT.out.2.2 hv7
          · have e2 := HOB.out _ (ownsRow_ownBlock HR6.out _ e.symm)
            have := HS4.out
            omega
        have hs15 := HBR5.out.2.size
        clear hgs hal hk6 hm6 hb6 HM5 HO5 HBR5 HX5 HCE HG6
        go_upto_region 10 with (at_builtin; go_loud (refine wpList_append_own _ rfl (.tmp 50) (.tmp 52) 34 rfl w1.heap.size 63 i0 _ 4 48 Tryd.underlying34 hi hz0 hz1 hz2 rfl (by decide) _ q _ rfl HR6.out ⟨w5.heap.size, 0, none⟩ 1 1 [.slice an nn cn, .int .i64 z.ser, .int .i64 z.tm, .int .i64 z.rs] rfl rfl (World.news_of_block (heap_alloc_new w5 (.cells #[.slice an nn cn, .int .i64 z.ser, .int .i64 z.tm, .int .i64 z.rs] 63))) (by intro u hu; simp only [List.mem_cons, List.not_mem_nil, or_false] at hu; rcases hu with rfl | rfl | rfl | rfl <;> rfl) (by unfold maxLen; omega) (by omega) (by simp; omega) ?_; intro v7 w7 hv7 hg7 hs7; obtain ⟨g7, c7, rfl⟩ := ownsRow_succG hv7; have HN7 := HAPP.out _ c7 w7 hv7 hg7; have HN : Hid (_) := HN7; clear hv7 hg7 hs7 HN7 HAPP HR6))
        have k0 : w7.cell? ⟨w3.heap.size, 0, none⟩ = some (.string (ftS z.parts)) := (cell_of_row _ _ 0 _ _ (0, 0) HN.out.2.2.2.out).trans rfl
        have k1 : w7.cell? ⟨w3.heap.size, 1, none⟩ = some (.int .i64 z.ser) := (cell_of_row _ _ 1 _ _ (0, 0) HN.out.2.2.2.out).trans rfl
        go_wp2_with (at_delete; go_loud (refine wpList_delete_own _ rfl _ _ 95 99 rfl 63 kLaw Tryd.underlying95 RV w1.heap.size n2 _ rfl (HN.out.2.1.out) _ _ rfl HKZ'.out.at ?_; intro w8 hm8 ht8))
        have HM8 : Hid (_) := hm8
        have HB8 : Below w1.heap.size w1 w8 := HN.out.2.2.1.out.grown ht8.grown HN.out.2.2.1.out.size (fun kx hx => by cases hx; exact Nat.le_refl _)
        have HO8 : Hid (∃ sl, GsO w0 w1.heap.size w8 (some ⟨g7, 0, none⟩) (q + 1) c7 (chA x.ents y.ents (k + 1)) sl) := by
          obtain ⟨sm, hsm⟩ := HN.out.1.out
          exact ⟨sm, hsm.turned HN.out.2.1.out ht8⟩
        clear k0 k1 hm8 ht8 HN
        go_roundw
        case rel => exact ⟨k + 1, _, q + 1, c7, by omega, by omega, by go_num, rfl, HO8.out, (by show MpV _ _ _ _; rw [HDN.out]; exact HM8.out), HB8⟩
        case measure => simp [intOf]; omega
      | false =>
        have HCE : Hid (chA x.ents y.ents (k + 1) = chA x.ents y.ents k) := by
          show _ = _
          rw [HCH.out]
          rw [show sameE x.ents z = true by simpa using hbq1]
          simp
        clear hbq1 HCH
        have k0 : w5.cell? ⟨w3.heap.size, 0, none⟩ = some (.string (ftS z.parts)) := (cell_of_row _ _ 0 _ _ (0, 0) HX5.out.2.1).trans rfl
        have k1 : w5.cell? ⟨w3.heap.size, 1, none⟩ = some (.int .i64 z.ser) := (cell_of_row _ _ 1 _ _ (0, 0) HX5.out.2.1).trans rfl
        go_wp2_with (at_delete; go_loud (refine wpList_delete_own _ rfl _ _ 95 99 rfl 63 kLaw Tryd.underlying95 RV w1.heap.size n2 _ rfl (HM5.out) _ _ rfl HKZ'.out.at ?_; intro w8 hm8 ht8))
        have HM8 : Hid (_) := hm8
        have HB8 : Below w1.heap.size w1 w8 := HBR5.out.2.grown ht8.grown HBR5.out.2.size (fun kx hx => by cases hx; exact Nat.le_refl _)
        have HO8 : Hid (∃ sl, GsO w0 w1.heap.size w8 ao q cc (chA x.ents y.ents (k + 1)) sl) := ⟨_, by rw [HCE.out]; exact HO5.out.choose_spec.turned HM5.out ht8⟩
        clear k0 k1 hm8 ht8 HM5 HO5 HBR5 HX5 HCE
        go_roundw
        case rel => exact ⟨k + 1, ao, q, cc, by omega, by omega, by go_num, rfl, HO8.out, (by show MpV _ _ _ _; rw [HDN.out]; exact HM8.out), HB8⟩
        case measure => simp [intOf]; omega
    · have hkm : m2 = k := by omega
      subst hkm
      have hni : ¬ ((m2 : Int) < (m2 : Int)) := by omega
      obtain ⟨wo, hwo⟩ : ∃ wo, wo = wr := ⟨_, rfl⟩
      subst hwo
      have x7 : wo.cell? ⟨w.heap.size, 7, none⟩ = some (.slice a2 n2 c2) := (cell_of_row _ _ 7 _ _ (0, 0) ((hbr.block _ (by rw [HS1.out]; omega)).trans HX1.out.1)).trans rfl
      obtain ⟨DD, hDD⟩ : ∃ DD, DD = Dn (Vn w1 a2 x.ents n2) y.ents m2 := ⟨_, rfl⟩
      have HDD : Hid (_ = _) := hDD
      rw [← hDD] at HM
      clear hDD
      have HOO : Hid (∃ sl, GsO w0 w1.heap.size wo ao q cc (chA x.ents y.ents m2 ++ chB x.ents y.ents y.tm 0) sl) := by
        show ∃ sl, _
        simp only [chB, List.append_nil]
        exact HO.out
      clear HO
      go_wp2_with fail
      clear x7
      go_loopw [6, 60] (fun o i wr => ∃ (k : Nat) (ao : Option Addr) (q cc : Nat), k ≤ n2 ∧ q ≤ m2 + k ∧ i = .int .i64 k ∧ o = .slice ao q cc ∧ Hid (∃ sl, GsO w0 w1.heap.size wr ao q cc (chA x.ents y.ents m2 ++ chB x.ents y.ents y.tm k) sl) ∧ Hid (MpV w1.heap.size n2 DD wr) ∧ Below w1.heap.size w1 wr) (fun _ i _ => n2 - (intOf i).toNat)
      case atStart => exact ⟨0, ao, q, cc, Nat.zero_le _, hqk, rfl, rfl, HOO.out, HM.out, hbr⟩
      case round =>
        obtain ⟨k, ao2, q2', cc2, hk2, hqk2, rfl, rfl, HO2, HM2, hbr2⟩ := hrel
        by_cases hlt2 : k < n2
        · obtain ⟨b, off, an, nn, cn, rfl, hlb, hc, hp⟩ := HA.out.get k hlt2
          obtain ⟨hnl, hn1⟩ := HCA.out k hlt2 b off an nn cn rfl hc.c0
          have hbw : Below w.heap.size w wr := HBW.out.trans (hbr2.mono HBW.out.size)
          have HKZ := HP.out k hlt2
          have HLS : Hid ((lastK x.ents (kb (x.ents.getD k default)) n2).isSome = true) := by
            show _ = true
            cases e : lastK x.ents (kb (x.ents.getD k default)) n2 with
            | some j => rfl
            | none => exact absurd rfl (lastK_none e k hlt2)
          obtain ⟨z, hz⟩ : ∃ z, z = x.ents.getD k default := ⟨_, rfl⟩
          have HCH : Hid (chB x.ents y.ents y.tm (k + 1) = chB x.ents y.ents y.tm k ++ if (lastK y.ents (kb z) m2).isSome then [] else [outE y.tm z]) := by show _ = _; rw [hz, ← HLN.out.2]; rfl
          rw [← hz] at hc hp HKZ HLS
          have HKZ' : Hid (kOk z) := HKZ
          obtain ⟨e0, e1, e2, e3⟩ := hc.of (w' := wr) (fun i => (HB0.out.trans (hbw.mono HB0.out.size)).cell (p := ⟨b, i, none⟩) hlb)
          have HPT : Hid (Pts w0 an nn z.parts ∧ (an = none → cn = 0) ∧ nn ≤ 1048576) := ⟨hp, hnl, hn1⟩
          have hkni2 : (k : Int) < (n2 : Int) := by omega
          obtain ⟨q1, q2, q3, s, t, r, hV, hH, hTR⟩ := Dn_look HG1.out HP.out (ys := y.ents) m2 (kb z)
          rw [HLS.out] at hH
          rw [← HDD.out] at hV hH
          obtain ⟨hb, hbe⟩ : ∃ hb, hb = (lastK y.ents (kb z) m2).isNone := ⟨_, rfl⟩
          rw [← hbe] at hH
          have HBE : Hid (_ = _) := hbe
          have HV : Hid (_ = _) := hV
          have HHB : Hid (has DD (.string (kb z)) = hb) := by show _ = _; rw [hH]; simp
          clear hc hp hz hnl hn1 hV hH hTR hbe HKZ HLS
          have M := fun W hb => goneKey_any an nn cn z W (HT.out W hb) (HPT.out.1.kept (HB0.out.trans (hb.mono HB0.out.size))) HKZ'.out.1
          unfold gov at M
          have hbz : Below wr.heap.size wr (wr.alloc (.cells #[.slice an nn cn, .int .i64 z.ser, .int .i64 z.tm, .int .i64 z.rs] 63)) := (Below.refl _ _).alloc (Nat.le_refl _) _
          have HMM : Hid (_) := M _ (hbw.trans (hbz.mono hbw.size))
          have HBZ : Hid (_) := hbz
          have HBR : Hid (Below w.heap.size w wr ∧ Below w1.heap.size w1 wr) := ⟨hbw, hbr2⟩
          clear M hbz hbw hbr2
          go_wp2_with fail
          refine Calls.mono HMM.out ?_
          rintro e w3 ⟨rfl, hb3⟩
          have hb3r : Below wr.heap.size wr w3 := HBZ.out.trans (hb3.mono HBZ.out.size)
          have hs3 : wr.heap.size < w3.heap.size := by have := hb3.size; simp at this; omega
          have hbx3 : w3.heap[wr.heap.size]? = some (.cells #[.slice an nn cn, .int .i64 z.ser, .int .i64 z.tm, .int .i64 z.rs] 63 (0, 0)) := (hb3.block _ (by simp)).trans (heap_alloc_new wr _)
          have HM3 : Hid (MpV w1.heap.size n2 DD w3) := MpV.below HM2.out hb3r
          obtain ⟨w5, hw5⟩ : ∃ w5, w5 = w3.alloc (.cells #[.slice q1 q2 q3, .int .i64 s, .int .i64 t, .int .i64 r] 63) := ⟨_, rfl⟩
          have hb5 : Below w3.heap.size w3 w5 := by rw [hw5]; exact (Below.refl _ _).alloc (Nat.le_refl _) _
          have hb5r : Below wr.heap.size wr w5 := hb3r.trans (hb5.mono hb3r.size)
          have HX5 : Hid (_) := (hb5.block _ hs3).trans hbx3
          have HM5 : Hid (MpV w1.heap.size n2 DD w5) := MpV.below HM2.out hb5r
          have HO5 : Hid (∃ sl, GsO w0 w1.heap.size w5 ao2 q2' cc2 (chA x.ents y.ents m2 ++ chB x.ents y.ents y.tm k) sl) := ⟨_, HO2.out.choose_spec.below hb5r⟩
          have HBR5 : Hid (Below w1.heap.size w1 w5) := HBR.out.2.trans (hb5r.mono HBR.out.2.size)
          have HW5 : Hid (_ = _) := hw5
          clear hb3 hb3r hs3 hbx3 hw5 hb5 hb5r HM2 HO2 HBR HMM HBZ e0 e1 e2 e3
          go_upto_region 16 with (at_lookup; refine wpList_lookupV _ rfl _ _ 95 rfl 99 63 kLaw Tryd.underlying95 (zeroGone _) _ n2 _ rfl HM3.out _ _ rfl HKZ'.out.at _ _ HV.out HHB.out ?_)
          rw [← HW5.out]
          clear HW5 HM3 HV HHB
          cases hb with
          | true =>
            have HCE : Hid (chB x.ents y.ents y.tm (k + 1) = chB x.ents y.ents y.tm k ++ [outE y.tm z]) := by
              show _ = _
              rw [HCH.out]
              cases e : lastK y.ents (kb z) m2 with
              | none => rfl
              | some i => have := HBE.out; rw [e] at this; cases this
            have u0 : w5.cell? ⟨wr.heap.size, 0, none⟩ = some (.slice an nn cn) := (cell_of_row _ _ 0 _ _ (0, 0) HX5.out).trans rfl
            have u1 : w5.cell? ⟨wr.heap.size, 1, none⟩ = some (.int .i64 z.ser) := (cell_of_row _ _ 1 _ _ (0, 0) HX5.out).trans rfl
            have y3 : w5.cell? ⟨w.heap.size + 1, 3, none⟩ = some (.int .i64 y.tm) := (cell_of_row _ _ 3 _ _ (0, 0) ((HBR5.out.block _ (by rw [HS1.out]; omega)).trans HX1.out.2)).trans rfl
            obtain ⟨sl, hgs⟩ := HO5.out
            have hal : Below w5.heap.size w5 (w5.alloc (.cells #[.slice an nn cn, .int .i64 z.ser, .int .i64 y.tm, .int .i64 7] 63)) := (Below.refl _ _).alloc (Nat.le_refl _) _
            have HG6 : Hid (GsO w0 w1.heap.size (w5.alloc (.cells #[.slice an nn cn, .int .i64 z.ser, .int .i64 y.tm, .int .i64 7] 63)) ao2 q2' cc2 (chA x.ents y.ents m2 ++ chB x.ents y.ents y.tm k) sl) := hgs.below hal
            have HR6 : Hid ((w5.alloc (.cells #[.slice an nn cn, .int .i64 z.ser, .int .i64 y.tm, .int .i64 7] 63)).ownsRow w1.heap.size 63 4 (.slice ao2 q2' cc2) q2' (flG (chA x.ents y.ents m2 ++ chB x.ents y.ents y.tm k) sl q2')) := HG6.out.row
            have hm6 : MpV w1.heap.size n2 DD (w5.alloc (.cells #[.slice an nn cn, .int .i64 z.ser, .int .i64 y.tm, .int .i64 7] 63)) := MpV.below HM5.out hal
            have hb6 : Below w1.heap.size w1 (w5.alloc (.cells #[.slice an nn cn, .int .i64 z.ser, .int .i64 y.tm, .int .i64 7] 63)) := HBR5.out.trans (hal.mono HBR5.out.size)
            have HAPP : Hid (∀ a7 c7 w7, w7.ownsRow w1.heap.size 63 4 (.slice a7 (q2' + 1) c7) (q2' + 1) (flG (chA x.ents y.ents m2 ++ chB x.ents y.ents y.tm k) sl q2' ++ [.slice an nn cn, .int .i64 z.ser, .int .i64 y.tm, .int .i64 7]) → (w5.alloc (.cells #[.slice an nn cn, .int .i64 z.ser, .int .i64 y.tm, .int .i64 7] 63)).grownBy w7 (Value.slice ao2 q2' cc2).ownBlock → Hid (∃ sl, GsO w0 w1.heap.size w7 a7 (q2' + 1) c7 (chA x.ents y.ents m2 ++ chB x.ents y.ents y.tm (k + 1)) sl) ∧ Hid (MpV w1.heap.size n2 DD w7) ∧ Hid (Below w1.heap.size w1 w7)) := by
              intro a7 c7 w7 hv7 hg7
              refine ⟨⟨fun j => if j = q2' then (an, nn, cn) else sl j, ?_⟩, MpV.grown hm6 HR6.out hg7, hb6.grown hg7 hb6.size (fun kx hx => (HR6.out.lt kx hx).1)⟩
              rw [HCE.out, ← List.append_assoc]
              exact HG6.out.appended (y := outE y.tm z) HPT.out.1 HPT.out.2.1 HPT.out.2.2 hv7
            have hs15 := HBR5.out.size
            clear hgs hal hm6 hb6 HM5 HO5 HBR5 HX5 HCE HG6 HCH HBE
            go_wp2_with (at_builtin; go_loud (refine wpList_append_own _ rfl (.tmp 72) (.tmp 80) 34 rfl w1.heap.size 63 i0 _ 4 48 Tryd.underlying34 hi hz0 hz1 hz2 rfl (by decide) _ q2' _ rfl HR6.out ⟨w5.heap.size, 0, none⟩ 1 1 [.slice an nn cn, .int .i64 z.ser, .int .i64 y.tm, .int .i64 7] rfl rfl (World.news_of_block (heap_alloc_new w5 (.cells #[.slice an nn cn, .int .i64 z.ser, .int .i64 y.tm, .int .i64 7] 63))) (by intro u hu; simp only [List.mem_cons, List.not_mem_nil, or_false] at hu; rcases hu with rfl | rfl | rfl | rfl <;> rfl) (by unfold maxLen; omega) (by omega) (by simp; omega) ?_; intro v7 w7 hv7 hg7 hs7; obtain ⟨g7, c7, rfl⟩ := ownsRow_succG hv7; have HN7 := HAPP.out _ c7 w7 hv7 hg7; have HN : Hid (_) := HN7; clear hv7 hg7 hs7 HN7 HAPP HR6))
            clear u0 u1 y3
            go_roundw
            case rel => exact ⟨k + 1, _, q2' + 1, c7, by omega, by omega, by go_num, rfl, HN.out.1.out, HN.out.2.1.out, HN.out.2.2.out⟩
            case measure => simp [intOf]; omega
          | false =>
            have HCE : Hid (chB x.ents y.ents y.tm (k + 1) = chB x.ents y.ents y.tm k) := by
              show _ = _
              rw [HCH.out]
              cases e : lastK y.ents (kb z) m2 with
              | none => have := HBE.out; rw [e] at this; cases this
              | some i => simp
            clear HCH HBE HX5
            go_wp2_with fail
            go_roundw
            case rel => exact ⟨k + 1, ao2, q2', cc2, by omega, by omega, by go_num, rfl, (by show ∃ sl, _; rw [HCE.out]; exact HO5.out), HM5.out, HBR5.out⟩
            case measure => simp [intOf]; omega
        · have hkn : n2 = k := by omega
          subst hkn
          have hni2 : ¬ ((n2 : Int) < (n2 : Int)) := by omega
          have HB9 : Below w.heap.size w wr := HBW.out.trans (hbr2.mono HBW.out.size)
          go_wp2
          go_ret
          obtain ⟨sl, h1⟩ := HO2.out
          refine ⟨ao2, q2', cc2, rfl, ⟨sl, ?_⟩, HB9⟩
          unfold chgs
          rw [HLN.out.1, HLN.out.2]
          exact h1.lower (by rw [HS1.out]; omega)

end Go.Proofs.YtbfjkmlmnhphoaaDoor
