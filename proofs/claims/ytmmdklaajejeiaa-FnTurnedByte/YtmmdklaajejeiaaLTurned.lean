import Derived.Test.YtmmdklaajejeiaaWParts
import Derived.Test.YtmmdklaajejeiaaWL1
import Derived.Deep.RegionHeldLaw
namespace Go.Proofs.Ytmmdklaajejeiaa
open Go.RowKit

theorem xor8_range (x z : Int) (hx : 0 ≤ x ∧ x ≤ 255) (hz : 0 ≤ z ∧ z ≤ 255) : 0 ≤ bits .xor .u8 x z ∧ bits .xor .u8 x z ≤ 255 := by
  rw [u8_xor x z hx.1 (by omega) hz.1 (by omega)]
  have : x.toNat ^^^ z.toNat < 2 ^ 8 := Nat.xor_lt_two_pow (by omega) (by omega)
  omega
theorem xor8_ne (x z : Int) (hx : 0 ≤ x ∧ x ≤ 255) (hz : 1 ≤ z ∧ z ≤ 255) : x ≠ bits .xor .u8 x z := by
  rw [u8_xor x z hx.1 (by omega) (by omega) (by omega)]
  intro e
  have h1 : x.toNat = x.toNat ^^^ z.toNat := by omega
  have h2 : 0 ^^^ x.toNat = z.toNat ^^^ x.toNat := by rw [Nat.zero_xor, Nat.xor_comm]; exact h1
  have := xorN_cancel 0 z.toNat x.toNat h2
  omega

theorem wrapOne64 (z : Int) (h0 : 0 ≤ z) (h1 : z < 255) : IntKind.i64.wrap (1 + z) = 1 + z := by rw [IntKind.wrap_i64]; omega
theorem wrapOne8 (z : Int) (h0 : 0 ≤ z) (h1 : z < 255) : IntKind.u8.wrap (1 + z) = 1 + z := by rw [IntKind.wrap_u8]; omega

/-- One byte of one part is turned. -/
theorem Parts.turn {B top : Nat} {w : World} {a : Option Addr} {n cap : Nat} {bss : List (List Int)} {A : Nat → Option Addr} {L C : Nat → Nat} (hl : bss.length = n)
    (h1 : w.ownsRow B 22 1 (.slice a n cap) n ((List.range n).map fun j => .slice (A j) (L j) (C j))) (h2 : ∀ j, j < n → Own B w (A j) (L j) (C j) (bss.getD j []))
    (h3 : ∀ j k, j < k → k < n → ∀ g g', A j = some ⟨g, 0, none⟩ → A k = some ⟨g', 0, none⟩ → g < g') (h4 : ∀ j, j < n → ∀ g, A j = some ⟨g, 0, none⟩ → g < top)
    (i g : Nat) (hi : i < n) (hA : A i = some ⟨g, 0, none⟩) (j : Nat) (y : Int) (hy : 0 ≤ y ∧ y ≤ 255) :
    Parts B top (w.setCell ⟨g, j, none⟩ (.int .u8 y)) a n cap (bss.set i ((bss.getD i []).set j y)) := by
  have hOi := h2 i hi
  rw [hA] at hOi
  have hst := hOi.row.stored j (.int .u8 y)
  have hne22 := blocks5_22 h1 hOi.row (by decide)
  refine ⟨by simp [hl], A, L, C, h1.kept hst.2 hne22, fun k hk => ?_, h3, h4⟩
  by_cases e : k = i
  · subst e
    have eg : (bss.set k ((bss.getD k []).set j y)).getD k [] = (bss.getD k []).set j y := by simp [hl, hk]
    rw [eg, hA]
    exact hOi.store j y hy
  · have eg : (bss.set i ((bss.getD i []).set j y)).getD k [] = bss.getD k [] := by simp [List.getElem?_set_ne (Ne.symm e)]
    rw [eg]
    have hOk := h2 k hk
    refine ⟨hOk.row.kept hst.2 ?_, hOk.byte⟩
    rcases hOk.row.2 with ⟨hv, _⟩ | ⟨g', cap', cur, hv, _⟩
    · left
      simp only [Value.slice.injEq] at hv
      rw [hv.1]; rfl
    · right
      simp only [Value.slice.injEq] at hv
      rw [hv.1]
      simp only [Value.ownBlock, ne_eq, Option.some.injEq]
      rcases Nat.lt_or_ge k i with hki | hki
      · have := h3 k i hki hi g' g hv.1 hA; omega
      · have := h3 i k (by omega) hk g g' hA hv.1; omega
theorem total_set (bss : List (List Int)) (i j : Nat) (y : Int) : total (bss.set i ((bss.getD i []).set j y)) = total bss := by
  unfold total
  rw [List.map_set]
  have e : ((bss.getD i []).set j y).length = (bss.getD i []).length := by simp
  rw [e]
  by_cases h : i < bss.length
  · have e2 : (bss.map List.length).set i (bss.getD i []).length = bss.map List.length := by
      apply List.ext_getElem
      · simp
      · intro k h1 h2
        rw [List.getElem_set]
        split
        · rename_i e3
          subst e3
          simp [h]
        · rfl
    rw [e2]
  · rw [List.set_eq_of_length_le (by simpa using h)]

theorem Parts.cellOf {B : Nat} {w : World} {a : Option Addr} {n cap : Nat} {A : Nat → Option Addr} {L C : Nat → Nat}
    (h1 : w.ownsRow B 22 1 (.slice a n cap) n ((List.range n).map fun j => .slice (A j) (L j) (C j))) (k : Nat) (hk : k < n) : ∃ g, a = some ⟨g, 0, none⟩ ∧ g < w.heap.size ∧ w.cell? ⟨g, k, none⟩ = some (.slice (A k) (L k) (C k)) := by
  rcases h1.2 with ⟨_, h0⟩ | ⟨g, cap', cur, hv, _, hg, _⟩
  · omega
  · simp only [Value.slice.injEq] at hv
    obtain ⟨rfl, _, rfl⟩ := hv
    refine ⟨g, rfl, (Array.getElem?_eq_some_iff.1 hg).1, ?_⟩
    rw [h1.cellAt k (by omega)]
    simp [hk]

theorem Own.cellAt {B : Nat} {w : World} {g n cap : Nat} {bs : List Int} (h : Own B w (some ⟨g, 0, none⟩) n cap bs) (j : Nat) (hj : j < n) : w.cell? ⟨g, j, none⟩ = some (.int .u8 (bs.getD j 0)) := by
  obtain ⟨b, off, ha, hb, hc⟩ := h.toRow.get j hj
  simp only [Option.some.injEq, Addr.mk.injEq, and_true] at ha
  obtain ⟨rfl, rfl⟩ := ha
  rw [Nat.zero_add] at hc
  exact hc
theorem Parts.at_ {B top : Nat} {w : World} {a : Option Addr} {n cap : Nat} {bss : List (List Int)} (h : Parts B top w a n cap bss) (k : Nat) (hk : k < n) :
    ∃ g ak nk ck, a = some ⟨g, 0, none⟩ ∧ g < w.heap.size ∧ w.cell? ⟨g, k, none⟩ = some (.slice ak nk ck) ∧ Own B w ak nk ck (bss.getD k []) ∧ (∀ g', ak = some ⟨g', 0, none⟩ → g' ≠ g) := by
  obtain ⟨A, L, C, q1, q2, q3, q4⟩ := h.owns
  obtain ⟨g, e, hg, hc⟩ := Parts.cellOf q1 k hk
  refine ⟨g, _, _, _, e, hg, hc, q2 k hk, fun g' e' => ?_⟩
  subst e
  have h2 := q2 k hk
  rw [e'] at h2
  rcases blocks5_22 q1 h2.row (by decide) with h0 | h0
  · simp [Value.ownBlock] at h0
  · simp only [Value.ownBlock, ne_eq, Option.some.injEq] at h0
    exact fun q => h0 q.symm
theorem Parts.turned {B top : Nat} {w : World} {go g : Nat} {n cap nk ck : Nat} {bss : List (List Int)} (h : Parts B top w (some ⟨go, 0, none⟩) n cap bss) (k : Nat) (hk : k < n)
    (hc : w.cell? ⟨go, k, none⟩ = some (.slice (some ⟨g, 0, none⟩) nk ck)) (j : Nat) (y : Int) (hy : 0 ≤ y ∧ y ≤ 255) :
    Parts B top (w.setCell ⟨g, j, none⟩ (.int .u8 y)) (some ⟨go, 0, none⟩) n cap (bss.set k ((bss.getD k []).set j y)) := by
  obtain ⟨A, L, C, q1, q2, q3, q4⟩ := h.owns
  obtain ⟨g', e, _, hc'⟩ := Parts.cellOf q1 k hk
  simp only [Option.some.injEq, Addr.mk.injEq, and_true] at e
  subst e
  rw [hc] at hc'
  simp only [Option.some.injEq, Value.slice.injEq] at hc'
  exact Parts.turn h.len q1 q2 q3 q4 k g hk hc'.1.symm j y hy

/-- append as a step of a region: what is appended is whatever is read. -/
theorem step_append_row {P : Program} {ops : Array Oper} {o : Oper} {a : Act} {w : World} {K : Act → World → Prop} {Q : Exit → Act → World → Prop} {E : Prop}
    (hg : o.guard = none) (s x : Operand) (t : TypeId) (hop : o.op = Op.call { callee := Callee.builtin Builtin.append, args := #[s, x], argTypes := #[t, t] })
    (base : Nat) (i : TypeInfo) (h1 : P.underlying t = some (.slice 5)) (h2 : P.info? 5 = some i) (h3 : i.zero = some (.int .u8 0)) (h4 : i.size = 1) (h5 : i.bytes = 1)
    (v : Value) (n : Nat) (xs : List Value) (hs : a.eval s = v) (hown : w.ownsRow base 5 1 v n xs)
    (ao : Option Addr) (m c : Nat) (ys : List Int) (hx : a.eval x = .slice ao m c) (hrow : Row w ao m ys) (hnil : ao = none → c = 0)
    (b1 : n + m ≤ 140737488355328) (b3 : base ≤ w.heap.size)
    (hK : ∀ v' w', w'.ownsRow base 5 1 v' (n + m) (xs ++ ys.map (Value.int .u8)) → w.grownBy w' v.ownBlock → K (a.put o.dst v') w') :
    if Region.wanted o (yielded ops a.tmps) = true then Oper.wp P o a w K Q else E := by
  have hw : Region.wanted o (yielded ops a.tmps) = true := by simp [Region.wanted, hg]
  rw [if_pos hw]
  cases ao with
  | some ad =>
    obtain ⟨v', w', hrun, r1, r2, _⟩ := run_append_own (P := P) w base t o.type 5 i (.int .u8 0) 1 1 h1 h2 h3 h4 h5 rfl (by decide) v n xs hown ad m c (ys.map (Value.int .u8)) (by rw [List.length_map, hrow.len, Nat.mul_one]) (row_cells hrow) (ints_oneCell _ _) (by unfold maxLen; omega) (by omega) b3
    unfold Oper.wp
    simp [execOp, hop, resolve, invoke, builtin, hs, hx, hrun, Result.andThen]
    exact hK v' w' r1 r2
  | none =>
    obtain ⟨rfl, rfl⟩ := row_none hrow
    obtain rfl := hnil rfl
    have hrun := run_append_owned_none (P := P) (w := w) base t o.type 5 i 1 h1 h2 v n xs hown
    unfold Oper.wp
    simp [execOp, hop, resolve, invoke, builtin, hs, hx, hrun, Result.andThen]
    exact hK v w (by simpa using hown) (World.grownBy.refl _ _)

set_option maxHeartbeats 400000 in
theorem big_is (a : Option Addr) (n cap : Nat) (w : World) : Calls Try.prog 7 #[.slice a n cap] w fun e w' => e = .returned (.bool (decide (1048576 < (n : Int)))) ∧ w = w' := by
  go_enter Try.func7, Try.ntmps7
  go_wp2
  go_ret
  exact ⟨rfl, rfl⟩

set_option maxRecDepth 100000 in
set_option maxHeartbeats 4000000 in
theorem lawTurned_walk (a b : Option Addr) (n m ca cb : Nat) (z0 z1 : List Int) (w : World) (hr0 : IsRow .u8 w a n ca z0) (hr1 : IsRow .u8 w b m cb z1) :
    Calls Try.prog 6 #[.slice a n ca, .slice b m cb] w fun e w' => e = .returned (.bool true) ∧ Below w.heap.size w w' := by
  obtain ⟨hrow0, hmax0⟩ := hr0.row
  obtain ⟨hrow1, hmax1⟩ := hr1.row
  have NA : Hid (a = none → ca = 0) := hr0.nil
  obtain ⟨xs, hxs⟩ : ∃ xs, xs = z0.take n := ⟨_, rfl⟩
  obtain ⟨ys, hys⟩ : ∃ ys, ys = z1.take m := ⟨_, rfl⟩
  rw [← hxs] at hrow0
  rw [← hys] at hrow1
  clear hxs hr0 hys hr1
  unfold maxLen at hmax0 hmax1
  have HA : Hid (Row w a n xs) := hrow0
  have HB : Hid (Row w b m ys) := hrow1
  have BX := hrow0.byte
  have LX : Hid (xs.length = n) := hrow0.len
  clear hrow0 hrow1
  obtain ⟨i0, hi, hz0, hz1, hz2⟩ := info_parts Try.info5
  by_cases hbig : 20000 < n
  · go_enter Try.func6, Try.ntmps6
    go_wp2
    go_ret
    exact ⟨rfl, Below.refl _ _⟩
  · by_cases hbig1 : 1048576 < m
    · have hd : decide (1048576 < (m : Int)) = true := by simp; omega
      go_enter Try.func6, Try.ntmps6
      go_wp2_with (go_at_call 7; refine (big_is _ _ _ _).mono ?_; rintro e w' ⟨rfl, rfl⟩; rw [hd])
      go_ret
      exact ⟨rfl, Below.refl _ _⟩
    · have hd : decide (1048576 < (m : Int)) = false := by simp; omega
      go_enter Try.func6, Try.ntmps6
      go_wp2_with fail
      refine (big_is _ _ _ _).mono ?_
      rintro e w0 ⟨rfl, hw0⟩
      subst hw0
      rw [hd]
      go_wp2_with fail
      refine (drawHashAll_any b m cb ys _ HB.out (by omega)).mono ?_
      rintro e w1 ⟨B, ap, np, cp, bss, rfl, hnp, htot, hBw, hP, hb1⟩
      have s1 := hb1.size
      have HR : Hid (Rows2 w1 ap np bss) := hP.rows
      have HLn : Hid (bss.length = np) := hP.len
      have HP : Hid (Parts B w1.heap.size w1 ap np cp bss) := hP
      have HTt : Hid (total bss ≤ 60) := htot
      clear hP htot
      go_wp2_with fail
      refine (implPutNum_any (np : Int) _ (by omega)).mono ?_
      rintro e w2 ⟨a2, c2, rfl, ho2, hb2⟩
      have hp2 : putI (np : Int) = putN np := by rw [putI, if_neg (by omega), Int.toNat_natCast]
      rw [hp2] at ho2 ⊢
      have hpn : (putN np).length ≤ 9 := by rw [putN, putL_len]; exact cnt_le np (by omega)
      obtain ⟨m0, hm0⟩ : ∃ m0, m0 = (putN np).length := ⟨_, rfl⟩
      rw [← hm0] at ho2 hpn ⊢
      clear hp2 hm0
      go_wp2
      go_loopw [6, 7] (fun o i wr => ∃ (k q c : Nat) (ao : Option Addr), k ≤ np ∧ i = .int .i64 k ∧ o = .slice ao q c ∧ Own w1.heap.size wr ao q c (putN np ++ encParts (bss.take k)) ∧ Below w1.heap.size w1 wr) (fun _ i _ => np - (intOf i).toNat)
      case atStart => exact ⟨0, m0, c2, a2, Nat.zero_le _, rfl, rfl, by rw [List.take_zero, encParts_nil, List.append_nil]; exact ho2, hb2⟩
      case round =>
        obtain ⟨k, q, c, ao, hk, rfl, rfl, hor, hbr⟩ := hrel
        have hws := hbr.size
        have hqb : q ≤ 200 := by
          have h1 := hor.length
          rw [List.length_append] at h1
          have h2 := encParts_len1 (bss.take k) (fun p hp => by
            obtain ⟨i, hi, rfl⟩ := List.getElem_of_mem (List.mem_of_mem_take hp)
            have := part_le bss i hi HTt.out
            simp [hi] at this
            omega)
          have h3 : (putN np).length ≤ 9 := by rw [putN, putL_len]; exact cnt_le np (by omega)
          have h4 := total_take bss k
          have h5 := HTt.out
          have h6 : (bss.take k).length ≤ 6 := by rw [List.length_take]; omega
          omega
        by_cases hlt : k < np
        · obtain ⟨b3, off3, rfl, hb3, ak, nk, ck, hc3, hrk, hnk⟩ := HR.out.get k hlt
          have hcr : wr.cell? ⟨b3, off3 + k, none⟩ = some (.slice ak nk ck) := (hbr.cell (p := ⟨b3, off3 + k, none⟩) hb3).trans hc3
          have hkl : k < bss.length := by have := HLn.out; omega
          have hpk : nk ≤ 60 := by rw [← hrk.len]; exact part_le bss k hkl HTt.out
          have hlti : (k : Int) < (np : Int) := by omega
          have hnki : (nk : Int) ≤ 60 := by omega
          have hp3 : putI (nk : Int) = putN nk := by rw [putI, if_neg (by omega), Int.toNat_natCast]
          have HP3 : Hid (putI (nk : Int) = putN nk) := hp3
          have hpn3 : (putN nk).length ≤ 9 := by rw [putN, putL_len]; exact cnt_le nk (by omega)
          obtain ⟨m3, hm3⟩ : ∃ m3, m3 = (putN nk).length := ⟨_, rfl⟩
          rw [← hm3] at hpn3
          have HM3 : Hid (m3 = (putN nk).length) := hm3
          clear hp3 hm3
          go_wp2
          go_region_held_law (fun w' => w'.cell? ⟨b3, off3 + k, none⟩ = some (.slice ak nk ck)) (first | assumption | (simp [go_sem]; assumption))
            (first
              | (go_at_call 9; refine (implPutNum_any (nk : Int) _ (by omega)).mono ?_; rintro e w4 ⟨a4, c4, rfl, ho4, hb4⟩; rw [HP3.out, ← HM3.out] at ho4 ⊢; have hbr4 : Below w1.heap.size w1 w4 := hbr.drew.trans (hb4.mono hws); have hS4 : w4.cell? ⟨b3, off3 + k, none⟩ = some (.slice ak nk ck) := (hbr4.cell (p := ⟨b3, off3 + k, none⟩) hb3).trans hc3; have hor4 : Own w1.heap.size w4 ao q c (putN np ++ encParts (bss.take k)) := hor.drew.kept hb4)
              | (refine step_append_row rfl (.tmp 31) (.tmp 37) 22 rfl w1.heap.size i0 Try.underlying22 hi hz0 hz1 hz2 _ _ _ rfl hor4.row a4 m3 c4 (putN nk) rfl ho4.toRow ho4.nil (by omega) (by have := hbr4.size; omega) ?_; intro v5 w5 hv5 hg5; obtain ⟨a5, c5, rfl, ho5⟩ := own_appended (ys := putN nk) hv5 hor4.byte ho4.byte; have hbr5 : Below w1.heap.size w1 w5 := below_appended hbr4 (by have := hbr4.size; omega) hor4.row hg5; have hS5 : w5.cell? ⟨b3, off3 + k, none⟩ = some (.slice ak nk ck) := (hbr5.cell (p := ⟨b3, off3 + k, none⟩) hb3).trans hc3; have hrk5 : Row w5 ak nk (bss.getD k []) := hrk.kept hbr5)
              | (refine step_append_row rfl (.tmp 38) (.tmp 42) 22 rfl w1.heap.size i0 Try.underlying22 hi hz0 hz1 hz2 _ _ _ rfl ho5.row ak nk ck (bss.getD k []) rfl hrk5 hnk (by omega) (by have := hbr5.size; omega) ?_; intro v6 w6 hv6 hg6; have hbr6 : Below w1.heap.size w1 w6 := below_appended hbr5 (by have := hbr5.size; omega) ho5.row hg6; have hS6 : w6.cell? ⟨b3, off3 + k, none⟩ = some (.slice ak nk ck) := (hbr6.cell (p := ⟨b3, off3 + k, none⟩) hb3).trans hc3))
          obtain ⟨a6, c6, rfl, ho6⟩ := own_appended (ys := bss.getD k []) hv6 ho5.byte hrk5.byte
          have he : putN np ++ encParts (bss.take k) ++ putN nk ++ bss.getD k [] = putN np ++ encParts (bss.take (k + 1)) := by rw [encParts_next bss k hkl, hrk5.len]; simp only [List.append_assoc]
          rw [he] at ho6
          clear hv6 ho5 hrk5 hg6 hor4 ho4 hor
          go_wp2
          go_roundw
          case rel => exact ⟨k + 1, q + m3 + nk, c6, a6, by omega, by go_num, rfl, ho6, hbr6⟩
          case measure => simp [intOf]; omega
        · obtain rfl : np = k := by omega
          have he : putN np ++ encParts (bss.take np) = partsL bss := by rw [List.take_of_length_le (by have := HLn.out; omega), partsL, HLn.out]
          rw [he] at hor
          have HO : Hid (Own w1.heap.size wr ao q c (partsL bss)) := hor
          have HW : Hid (Below w1.heap.size w1 wr) := hbr
          obtain ⟨W2, rfl⟩ : ∃ W2, wr = W2 := ⟨_, rfl⟩
          clear he hor hbr
          go_wp2_with fail
          refine (implHashAll_any ap np cp bss _ (HR.out.kept HW.out) (by omega) (by have := HTt.out; omega)).mono ?_
          rintro e w3 ⟨rfl, hb3⟩
          go_wp2_with fail
          refine (implHash_any ao q c (partsL bss) _ (HO.out.toRow.kept hb3) (by omega)).mono ?_
          rintro e w4 ⟨rfl, hb4⟩
          go_wp2_with fail
          refine (implHash_any ao q c (partsL bss) _ ((HO.out.toRow.kept hb3).kept hb4) (by omega)).mono ?_
          rintro e w5 ⟨rfl, hb5⟩
          go_wp2_with fail
          refine (specHash_any ao q c (partsL bss) _ (((HO.out.toRow.kept hb3).kept hb4).kept hb5) (by omega)).mono ?_
          rintro e w6 ⟨rfl, hw6⟩
          subst hw6
          have HB5 : Below w1.heap.size w1 w6 := HW.out.trans ((hb3.mono hws).trans ((hb4.mono (Nat.le_trans hws hb3.size)).trans (hb5.mono (Nat.le_trans (Nat.le_trans hws hb3.size) hb4.size))))
          have hP6 := HP.out.kept HB5
          have hbw6 : Below w.heap.size w w6 := hb1.trans (HB5.mono s1)
          have HP6 : Hid (Parts B w1.heap.size w6 ap np cp bss) := hP6
          have HBW6 : Hid (Below w.heap.size w w6) := hbw6
          clear hP6 hbw6 HB5 hb3 hb4 hb5 HW HO HP HR hws hqb
          go_wp2
          go_loopw [8] (fun i wr => ∃ (k : Nat) (bs : List (List Int)), k ≤ np ∧ i = .int .i64 k ∧ total bs ≤ 60 ∧ Parts B w1.heap.size wr ap np cp bs ∧ Below w.heap.size w wr) (fun i _ => np - (intOf i).toNat)
          case atStart => exact ⟨0, bss, Nat.zero_le _, rfl, HTt.out, HP6.out, HBW6.out⟩
          case round =>
            obtain ⟨k, bs, hk, rfl, htot, hpr, hbr⟩ := hrel
            have hws := hbr.size
            have HPr : Hid (Parts B w1.heap.size wr ap np cp bs) := hpr
            have HTr : Hid (total bs ≤ 60) := htot
            clear htot hpr
            by_cases hlt : k < np
            · have hlen : bs.length = np := HPr.out.len
              have HLb : Hid (bs.length = np) := hlen
              obtain ⟨go, ak, nk, ck, rfl, hgo, hcell, hOk, hfar⟩ := HPr.out.at_ k hlt
              have hn60 : nk ≤ 60 := by rw [← hOk.length]; exact part_le bs k (by omega) HTr.out
              have hlti : (k : Int) < (np : Int) := by omega
              clear hlen
              by_cases hz : nk = 0
              · subst hz
                go_wp2
                go_roundw
                case rel => exact ⟨k + 1, bs, by omega, by go_num, HTr.out, HPr.out, hbr⟩
                case measure => simp [intOf]; omega
              · obtain ⟨g, rfl⟩ := hOk.shape (by omega)
                have hgg := hfar g rfl
                clear hfar
                have hnki : (0 : Int) < (nk : Int) := by omega
                go_wp2_with fail
                refine (implHashAll_any _ np cp bs _ HPr.out.rows (by omega) (by have := HTr.out; omega)).mono ?_
                rintro e w7 ⟨rfl, hb7⟩
                have hc7 : w7.cell? ⟨go, k, none⟩ = some (.slice (some ⟨g, 0, none⟩) nk ck) := (hb7.cell (p := ⟨go, k, none⟩) hgo).trans hcell
                have hOk7 := hOk.kept hb7
                have hbr7 : Below w.heap.size w w7 := hbr.trans (hb7.mono hws)
                have HPr7 : Hid (Parts B w1.heap.size w7 (some ⟨go, 0, none⟩) np cp bs) := HPr.out.kept hb7
                have hs7 := hbr7.size
                clear hcell hOk hgo
                go_wp2_with fail
                refine (byteAt_any a n ca xs 0 (nk : Int) _ (HA.out.kept hbr7) (by omega) (by omega) (by omega) (by omega)).mono ?_
                rintro e w8 ⟨v, rfl, hv0, hv1, rfl⟩
                obtain ⟨j, rfl⟩ := Int.eq_ofNat_of_zero_le hv0
                have hjn : j < nk := by omega
                obtain ⟨x, hx⟩ : ∃ x, x = (bs.getD k []).getD j 0 := ⟨_, rfl⟩
                have hxb : 0 ≤ x ∧ x ≤ 255 := by rw [hx]; exact hOk7.byte j
                have hcx : w7.cell? ⟨g, j, none⟩ = some (.int .u8 x) := by rw [hx]; exact hOk7.cellAt j (by omega)
                have hfr : w7.frozen? ⟨g, j, none⟩ = false := hOk7.row.frozenAt j
                have HX : Hid (x = (bs.getD k []).getD j 0) := hx
                obtain ⟨hx0, hx1⟩ := hxb
                clear hx
                go_wp2
                have hcs : ∀ v, (w7.setCell ⟨g, j, none⟩ v).cell? ⟨go, k, none⟩ = some (.slice (some ⟨g, 0, none⟩) nk ck) := fun v => (World.cell?_setCell_far w7 ⟨g, j, none⟩ ⟨go, k, none⟩ v hgg).trans hc7
                go_region_with (first
                    | (go_at_call 23; refine (byteAt_any a n ca xs 1 255 _ (HA.out.kept hbr7.drew) (by omega) (by omega) (by omega) (by omega)).mono ?_; rintro e w9 ⟨z, rfl, hz0, hz1, rfl⟩; have hw1 : IntKind.i64.wrap (1 + z) = 1 + z := wrapOne64 z hz0 hz1; have hw2 : IntKind.u8.wrap (1 + z) = 1 + z := wrapOne8 z hz0 hz1))
                all_goals (
                  have hy := xor8_range x (1 + z) ⟨hx0, hx1⟩ ⟨by omega, by omega⟩
                  have hyn := xor8_ne x (1 + z) ⟨hx0, hx1⟩ ⟨by omega, by omega⟩
                  have hb9 : Below w.heap.size w (w7.setCell ⟨g, j, none⟩ (.int .u8 (bits .xor .u8 x (1 + z)))).drew := (below_appended hbr7 hs7 (hOk7.mono hBw).row (hOk7.row.stored j (.int .u8 (bits .xor .u8 x (1 + z)))).2).drew
                  have hP9 := (HPr7.out.turned k hlt hc7 j _ hy).kept (Below.refl _ _).drew
                  have hne := parts_turned bs HPr7.out.bytes k j (by have := HLb.out; omega) (by rw [hOk7.length]; exact hjn) _ hy (by rw [← HX.out]; exact hyn)
                  have ht9 := total_set bs k j (bits .xor .u8 x (1 + z))
                  obtain ⟨y, hyy⟩ : ∃ y, y = bits .xor .u8 x (1 + z) := ⟨_, rfl⟩
                  rw [← hyy] at hb9 hP9 hne ht9 ⊢
                  obtain ⟨bs', hbs⟩ : ∃ bs', bs' = bs.set k ((bs.getD k []).set j y) := ⟨_, rfl⟩
                  rw [← hbs] at hP9 hne ht9
                  clear hyy hbs hw1 hw2
                  have hbe : (hashL (partsL bs') == hashL (partsL bs)) = false := beq_eq_false_iff_ne.2 hne
                  have HT9 : Hid (total bs' ≤ 60) := ht9 ▸ HTr.out
                  have HP9 : Hid (Parts B w1.heap.size (w7.setCell ⟨g, j, none⟩ (.int .u8 y)).drew (some ⟨go, 0, none⟩) np cp bs') := hP9
                  clear hP9 ht9 hne
                  go_wp2_with fail
                  refine (implHashAll_any _ np cp bs' _ HP9.out.rows (by omega) (by have := HT9.out; omega)).mono ?_
                  rintro e w10 ⟨rfl, hb10⟩
                  go_wp2
                  go_roundw
                  case rel => exact ⟨k + 1, bs', by omega, by go_num, HT9.out, HP9.out.kept hb10, hb9.trans (hb10.mono hb9.size)⟩
                  case measure => simp [intOf]; omega)
            · obtain rfl : np = k := by omega
              by_cases hn0 : n = 0
              · subst hn0
                go_wp2_with fail
                refine (lives_any _).mono ?_
                rintro e w7 ⟨rfl, hb7⟩
                go_wp2
                go_ret
                exact ⟨rfl, hbr.trans (hb7.mono hws)⟩
              · have hne0 : ((n : Int) == 0) = false := by simp; omega
                go_wp2_with fail
                refine (copied_any a n ca xs _ (HA.out.kept hbr) NA.out (by omega)).mono ?_
                rintro e w7 ⟨a7, c7, rfl, ho7, hb7⟩
                have hbr7 : Below w.heap.size w w7 := hbr.trans (hb7.mono hws)
                have hs7 := hbr7.size
                obtain ⟨g, rfl⟩ := ho7.shape (by omega)
                go_wp2_with fail
                refine (byteAt_any b m cb ys 0 (n : Int) _ (HB.out.kept hbr7) (by omega) (by omega) (by omega) (by omega)).mono ?_
                rintro e w8 ⟨v, rfl, hv0, hv1, rfl⟩
                obtain ⟨j, rfl⟩ := Int.eq_ofNat_of_zero_le hv0
                have hjn : j < n := by omega
                obtain ⟨x, hx⟩ : ∃ x, x = xs.getD j 0 := ⟨_, rfl⟩
                have hxb : 0 ≤ x ∧ x ≤ 255 := by rw [hx]; exact BX j
                have hcx : w7.cell? ⟨g, j, none⟩ = some (.int .u8 x) := by rw [hx]; exact ho7.cellAt j (by omega)
                have hfr : w7.frozen? ⟨g, j, none⟩ = false := ho7.row.frozenAt j
                have HX : Hid (x = xs.getD j 0) := hx
                obtain ⟨hx0, hx1⟩ := hxb
                clear hx
                go_wp2
                go_region_with (first
                    | (go_at_call 23; refine (byteAt_any b m cb ys 1 255 _ (HB.out.kept hbr7.drew) (by omega) (by omega) (by omega) (by omega)).mono ?_; rintro e w9 ⟨z, rfl, hz0, hz1, rfl⟩; have hw1 : IntKind.i64.wrap (1 + z) = 1 + z := wrapOne64 z hz0 hz1; have hw2 : IntKind.u8.wrap (1 + z) = 1 + z := wrapOne8 z hz0 hz1))
                all_goals (
                  have hy := xor8_range x (1 + z) ⟨hx0, hx1⟩ ⟨by omega, by omega⟩
                  have hyn := xor8_ne x (1 + z) ⟨hx0, hx1⟩ ⟨by omega, by omega⟩
                  have ho9 := (ho7.store j _ hy).drew
                  have hb9 : Below w.heap.size w (w7.setCell ⟨g, j, none⟩ (.int .u8 (bits .xor .u8 x (1 + z)))).drew := (below_appended hbr7 hs7 (ho7.mono hws).row (ho7.row.stored j (.int .u8 (bits .xor .u8 x (1 + z)))).2).drew
                  have hne := hash_set xs (allB_of BX) j (by have := LX.out; omega) _ hy (by rw [← HX.out]; exact hyn)
                  obtain ⟨y, hyy⟩ : ∃ y, y = bits .xor .u8 x (1 + z) := ⟨_, rfl⟩
                  rw [← hyy] at ho9 hb9 hne ⊢
                  have hbe : (hashL (xs.set j y) != hashL xs) = true := bne_iff_ne.2 hne
                  clear hyy hw1 hw2 hne
                  have HO9 : Hid (Own wr.heap.size (w7.setCell ⟨g, j, none⟩ (.int .u8 y)).drew (some ⟨g, 0, none⟩) n c7 (xs.set j y)) := ho9
                  have hs9 := hb9.size
                  clear ho9
                  go_wp2_with fail
                  refine (lives_any _).mono ?_
                  rintro e w10 ⟨rfl, hb10⟩
                  have hs10 := hb10.size
                  have hb10' := hb9.trans (hb10.mono hs9)
                  go_wp2_with fail
                  refine (implHash_any _ n c7 (xs.set j y) _ (HO9.out.toRow.kept hb10) (by omega)).mono ?_
                  rintro e w11 ⟨rfl, hb11⟩
                  have hb11' := hb10'.trans (hb11.mono hb10'.size)
                  go_wp2_with fail
                  refine (copied_any a n ca xs _ (HA.out.kept hb11') NA.out (by omega)).mono ?_
                  rintro e w12 ⟨a12, c12, rfl, ho12, hb12⟩
                  have hb12' := hb11'.trans (hb12.mono hb11'.size)
                  go_wp2_with fail
                  refine (implHash_any a12 n c12 xs _ ho12.toRow (by omega)).mono ?_
                  rintro e w13 ⟨rfl, hb13⟩
                  have hb13' := hb12'.trans (hb13.mono hb12'.size)
                  go_wp2
                  go_ret
                  exact ⟨rfl, hb13'⟩)

end Go.Proofs.Ytmmdklaajejeiaa
