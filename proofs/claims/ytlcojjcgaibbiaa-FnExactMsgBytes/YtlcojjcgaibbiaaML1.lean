import Derived.Test.YtlcojjcgaibbiaaMS2
import Derived.Test.YtlcojjcgaibbiaaMC7b
import Derived.Test.YtlcojjcgaibbiaaWMark
set_option linter.unusedVariables false
namespace Go.Proofs.Ytlcojjcgaibbiaa
open Go.RowKit Go.Sort

theorem opw_not {P : Program} {Q : Exit → Act → World → Prop} {o : Oper} {a : Act} {w : World} {K : Act → World → Prop} (t x : Nat) (ho : o.op = .unOp .not t (.tmp x)) (p : Bool) (hx : aT a x = .bool p) (h : K (a.put o.dst (.bool (!p))) w) : o.wp P a w K Q := by
  refine opw_value (.bool (!p)) ?_ h
  have hx' : a.eval (.tmp x) = .bool p := hx
  unfold execOp
  simp only [ho, hx']
  simp [go_sem]
structure RdM (D : Nat) (w : World) (b1 b2 : Option Addr) (nn n : Nat) (ws : List Int) (xs : List ItT) : Prop where
  row : Row w b1 nn ws
  kids : KidsT D w b2 n xs
theorem RdM.kept {D : Nat} {w w' : World} {b1 b2 : Option Addr} {nn n : Nat} {ws : List Int} {xs : List ItT} (h : RdM D w b1 b2 nn n ws xs) (hb : Below w.heap.size w w') : RdM D w' b1 b2 nn n ws xs := ⟨h.row.kept hb, h.kids.kept hb⟩
theorem mbR_any (ct : List Int) (nn : Nat) (xs : List ItT) : ∃ bo l, MbR ct nn xs bo l ∧ l.length ≤ 20000 := by
  by_cases h : msgP nn xs
  · cases he : enc 12 (msI ct nn xs) with
    | none => exact ⟨false, [], .inl ⟨h, .inr ⟨rfl, rfl, he⟩⟩, by decide⟩
    | some l => exact ⟨true, l, .inl ⟨h, .inl ⟨rfl, he⟩⟩, enc_len 12 _ l he⟩
  · exact ⟨false, [], .inr ⟨h, rfl, rfl⟩, by decide⟩
/-- What is known of a region (RJ). -/
def ml10 (D : Nat) (ws : List Int) (xs : List ItT) (am : Option Addr) (nn cm : Nat) (a : Option Addr) (n c : Nat) (p1 p2 : Option Addr) (G G2 B : Nat) : RSpec where
  m := 5
  n := 7
  slots := [41, 42, 43, 44, 45, 100005, 100006]
  kills := [[], [], [], [], [], [], []]
  pres := [[], [], [], [], [], [], []]
  fact := fun k v w => match k with
    | 0 => v = .agg #[.slice p1 nn nn, .slice p2 n n]
    | 1 => v = .agg #[.slice am nn cm, .slice a n c]
    | 2 => ∃ q1 q2, v = .agg #[.slice q1 nn nn, .slice q2 n n] ∧ RdM D w q1 q2 nn n ws xs
    | 3 => v = .bool true
    | 4 => v = .bool false
    | 5 => w.heap[G]? = some (.cells #[.slice am nn cm, .slice a n c] 25 (0, 0))
    | _ => w.heap[G2]? = some (.cells #[.slice p1 nn nn, .slice p2 n n] 31 (0, 0))
set_option linter.unusedVariables false in
theorem ml10_stb (D : Nat) (ws : List Int) (xs : List ItT) (am : Option Addr) (nn cm : Nat) (a : Option Addr) (n c : Nat) (p1 p2 : Option Addr) (G G2 B : Nat) (k : Nat) (hk : k < 7) : StB ((ml10 D ws xs am nn cm a n c p1 p2 G G2 (B)).fact k) := by
  match k, hk with
  | 0, _ => exact fun _ _ _ h _ => h
  | 1, _ => exact fun _ _ _ h _ => h
  | 2, _ => exact fun _ _ _ ⟨q1, q2, hv, q_0⟩ hb => ⟨q1, q2, hv, q_0.kept hb⟩
  | 3, _ => exact fun _ _ _ h _ => h
  | 4, _ => exact fun _ _ _ h _ => h
  | 5, _ => exact fun _ _ _ q_0 hb => below_kept q_0 hb
  | 6, _ => exact fun _ _ _ q_0 hb => below_kept q_0 hb
  | k + 7, hk => omega

set_option maxRecDepth 10000 in
set_option maxHeartbeats 8000000 in
theorem lawMsgBytes_walk (D : Nat) (ws : List Int) (xs : List ItT) (am : Option Addr) (nn cm : Nat) (a : Option Addr) (n c : Nat) (w : World) (h1 : Row w am nn ws) (hnm : nn ≤ 9223372036854775807) (h2 : KidsT D w a n xs) :
    Calls Try.prog 3 #[.agg #[.slice am nn cm, .slice a n c]] w fun e w' => e = .returned (.bool true) ∧ Below w.heap.size w w' := by
  obtain ⟨bo, l, hf, hl⟩ := mbR_any ws nn xs
  have hlm : l.length ≤ maxLen := by unfold maxLen; omega
  have HF : Hid (MbR ws nn xs bo l) := hf
  obtain ⟨w1, hw1⟩ : ∃ w1, w1 = w.alloc (.cells #[.slice am nn cm, .slice a n c] 25) := ⟨_, rfl⟩
  have hb0 : Below w.heap.size w w1 := by rw [hw1]; exact (Below.refl _ _).alloc (Nat.le_refl _) _
  have HB1 : Hid (w1.heap[w.heap.size]? = some (.cells #[.slice am nn cm, .slice a n c] 25 (0, 0))) := by show _ = _; rw [hw1]; exact heap_alloc_new w _
  have hsz1 : w.heap.size < w1.heap.size := (Array.getElem?_eq_some_iff.1 HB1.out).1
  have HR : Hid (∀ W, Below w.heap.size w W → Row W am nn ws ∧ KidsT D W a n xs) := fun W hW => ⟨h1.kept hW, h2.kept hW⟩
  have HW : Hid (_ = _) := hw1
  clear hw1 h1 h2 hf
  have x0 : w1.cell? ⟨w.heap.size, 0, none⟩ = some (.slice am nn cm) := (cell_of_row _ _ 0 _ _ (0, 0) HB1.out).trans rfl
  have x1 : w1.cell? ⟨w.heap.size, 1, none⟩ = some (.slice a n c) := (cell_of_row _ _ 1 _ _ (0, 0) HB1.out).trans rfl
  go_enter Try.func3, Try.ntmps3
  go_upto_region 2 with fail
  rw [← HW.out]
  clear HW
  go_wp2_with fail
  refine (szMsg_any D am nn cm a n c xs _ _ (by decide) (by decide) hnm (HR.out _ hb0).2).mono ?_
  rintro e w2 ⟨r, rfl, hrr, hb2⟩
  have cw2 : Below w1.heap.size w1 w2 := hb2
  have m2 : Below w.heap.size w w2 := keepT hb0 cw2
  clear x0 x1
  by_cases hneg : r < 0
  · go_wp2
    go_ret
    exact ⟨rfl, m2⟩
  obtain ⟨hr0, hr1, hnd, hwt⟩ := hrr.resolve_left hneg
  clear hrr
  have x0 : w2.cell? ⟨w.heap.size, 0, none⟩ = some (.slice am nn cm) := (cell_of_row _ _ 0 _ _ (0, 0) (below_kept HB1.out cw2)).trans rfl
  have x1 : w2.cell? ⟨w.heap.size, 1, none⟩ = some (.slice a n c) := (cell_of_row _ _ 1 _ _ (0, 0) (below_kept HB1.out cw2)).trans rfl
  go_wp2_with fail
  refine (toMsg_any D am nn cm ws a n c xs _ (HR.out _ m2).1 hnd (HR.out _ m2).2 hwt).mono ?_
  rintro e wa ⟨q1, q2, Ma, rfl, hoa, hba⟩
  clear x0 x1
  go_wp2_with fail
  refine (specMsgBytes_any D ws xs q1 nn nn q2 n n bo l _ hoa.2.2.1.own.toRow (Nat.le_refl _) hnm hoa.2.2.2.over HF.out).mono ?_
  rintro e wA ⟨aw, cw, rfl, howA, hbA⟩
  have H0A : Hid (Row wA aw l.length l) := howA.toRow
  have HI0 : Hid (In aw l.length 0 wA.heap.size) := howA.toRow.in_
  have cA : Below w1.heap.size w1 wA := keepT cw2 (keepT hba hbA)
  have mA : Below w.heap.size w wA := keepT hb0 cA
  have sA := cA.size
  clear hoa hba hbA howA
  have x0 : wA.cell? ⟨w.heap.size, 0, none⟩ = some (.slice am nn cm) := (cell_of_row _ _ 0 _ _ (0, 0) (below_kept HB1.out cA)).trans rfl
  have x1 : wA.cell? ⟨w.heap.size, 1, none⟩ = some (.slice a n c) := (cell_of_row _ _ 1 _ _ (0, 0) (below_kept HB1.out cA)).trans rfl
  go_wp2_with fail
  refine (toMsg_any D am nn cm ws a n c xs _ (HR.out _ mA).1 hnd (HR.out _ mA).2 hwt).mono ?_
  rintro e w3 ⟨p1, p2, M, rfl, ho3, hb3⟩
  clear x0 x1
  obtain ⟨w4, hw4⟩ : ∃ w4, w4 = w3.alloc (.cells #[.slice p1 nn nn, .slice p2 n n] 31) := ⟨_, rfl⟩
  have hb4 : Below w3.heap.size w3 w4 := by rw [hw4]; exact (Below.refl _ _).alloc (Nat.le_refl _) _
  have HBX4 : Hid (w4.heap[w3.heap.size]? = some (.cells #[.slice p1 nn nn, .slice p2 n n] 31 (0, 0))) := by show _ = _; rw [hw4]; exact heap_alloc_new w3 _
  have cw4 : Below w1.heap.size w1 w4 := keepT cA (keepT hb3 hb4)
  have m4 : Below w.heap.size w w4 := keepT hb0 cw4
  have HO4 : Hid (wA.heap.size ≤ M ∧ M ≤ w3.heap.size ∧ OwnBT wA.heap.size M w4 p1 nn nn ws ∧ OwnKidsT D M w3.heap.size w4 p2 n xs) := ⟨ho3.1, ho3.2.1, ho3.2.2.1.kept hb4, ho3.2.2.2.kept hb4⟩
  have H04 : Hid (Row w4 aw l.length l) := H0A.out.kept (keepT hb3 hb4)
  have zz3 := hb3.size
  have zz4 := hb4.size
  have HW : Hid (_ = _) := hw4
  clear hw4 ho3 hb3 hb4 H0A
  go_upto_region 7 with fail
  rw [← HW.out]
  clear HW
  have x0 : w4.cell? ⟨w3.heap.size, 0, none⟩ = some (.slice p1 nn nn) := (cell_of_row _ _ 0 _ _ (0, 0) HBX4.out).trans rfl
  have x1 : w4.cell? ⟨w3.heap.size, 1, none⟩ = some (.slice p2 n n) := (cell_of_row _ _ 1 _ _ (0, 0) HBX4.out).trans rfl
  go_wp2_with fail
  refine (implMsgBytes_any D ws xs p1 nn nn p2 n n bo l _ HO4.out.2.2.1.own.toRow (Nat.le_refl _) hnm HO4.out.2.2.2.over HF.out).mono ?_
  rintro e w7 ⟨ag, cg, rfl, ho7, hb7⟩
  clear x0 x1
  have HG7 : Hid (Own w4.heap.size w7 ag l.length cg l) := ho7
  have HIG : Hid (In ag l.length w4.heap.size w7.heap.size) := ho7.in_
  have H07 : Hid (Row w7 aw l.length l) := H04.out.kept hb7
  have t0 : (bo != bo) = false := by simp
  clear ho7 H04
  go_wp2_with fail
  refine (eqByteS_any ag aw l.length l.length cg cw l l _ HG7.out.toRow H07.out hlm hlm).mono ?_
  rintro e w8 ⟨rfl, hb8⟩
  rw [decide_eq_true (rfl : l = l)]
  have k48 := keepT hb7 hb8
  have c8 : Below w1.heap.size w1 w8 := keepT cw4 k48
  have m8 : Below w.heap.size w w8 := keepT hb0 c8
  have HG8 : Hid (Own w4.heap.size w8 ag l.length cg l) := HG7.out.kept hb8
  have H08 : Hid (Row w8 aw l.length l) := H07.out.kept hb8
  have HO8 : Hid (wA.heap.size ≤ M ∧ M ≤ w3.heap.size ∧ OwnBT wA.heap.size M w8 p1 nn nn ws ∧ OwnKidsT D M w3.heap.size w8 p2 n xs) := ⟨HO4.out.1, HO4.out.2.1, HO4.out.2.2.1.kept k48, HO4.out.2.2.2.kept k48⟩
  have HX8 : Hid (RdM D w8 p1 p2 nn n ws xs) := ⟨HO8.out.2.2.1.own.toRow, HO8.out.2.2.2.over⟩
  have HBX8 : Hid (w8.heap[w3.heap.size]? = some (.cells #[.slice p1 nn nn, .slice p2 n n] 31 (0, 0))) := below_kept HBX4.out k48
  have HBG8 : Hid (w8.heap[w.heap.size]? = some (.cells #[.slice am nn cm, .slice a n c] 25 (0, 0))) := below_kept HB1.out c8
  have HBB : w8.heap.size ≤ w8.heap.size := Nat.le_refl _
  have zz8 := k48.size
  clear hb7 hb8 HO4 HBX4 HG7 H07 k48
  go_upto_region 10 with fail
  refine wp_region_ri (ml10 D ws xs am nn cm a n c p1 p2 w.heap.size w3.heap.size (w8.heap.size)) [41, 42, 43, 44, 45] (w8.heap.size) (fun a0 => a0.tmps.size = 96 ∧ aT a0 1 = .pointer (some ⟨w.heap.size, 0, none⟩) ∧ aT a0 6 = .pointer (some ⟨w3.heap.size, 0, none⟩)) (by kernel_rfl) rfl (by kernel_rfl) rfl ⟨rfl, rfl, rfl⟩ (ml10_stb D ws xs am nn cm a n c p1 p2 w.heap.size w3.heap.size (w8.heap.size)) ?_ ?_ ?_
  · intro k hk hk2
    match k, hk, hk2 with
    | 5, _, _ => exact HBG8.out
    | 6, _, _ => exact HBX8.out
    | 0, hk, _ => exact absurd hk (by show ¬ (5 ≤ 0); omega)
    | 1, hk, _ => exact absurd hk (by show ¬ (5 ≤ 1); omega)
    | 2, hk, _ => exact absurd hk (by show ¬ (5 ≤ 2); omega)
    | 3, hk, _ => exact absurd hk (by show ¬ (5 ≤ 3); omega)
    | 4, hk, _ => exact absurd hk (by show ¬ (5 ≤ 4); omega)
    | k + 7, _, hk2 => exact absurd hk2 (by show ¬ (k + 7 < 7); omega)
  · rintro a0 ⟨hz, g1, g6⟩
    refine StepsRI.cons ?_ (StepsRI.cons ?_ (StepsRI.cons ?_ (StepsRI.cons ?_ (StepsRI.cons ?_ (StepsRI.nil)))))
    · intro lQ b W hI hUN hED KQ hKQ
      have hg := (hI.vot 6 (of_decide_eq_true rfl) (of_decide_eq_true rfl) rfl)
      refine wp_load_row 31 _ rfl (w3.heap.size) ((hI.fr.same 6 (by decide)).trans g6) 31 #[.slice p1 nn nn, .slice p2 n n] (0, 0) _ hg Try.underlying31 rfl (by kernel_rfl) ?_
      exact hKQ.out _ _ (hI.put 0 41 rfl rfl (by rw [hz]; decide) rfl hUN rfl HBB (ml10_stb D ws xs am nn cm a n c p1 p2 w.heap.size w3.heap.size (w8.heap.size)) (Below.refl _ _) rfl)
    · intro lQ b W hI hUN hED KQ hKQ
      have hg := (hI.vot 5 (of_decide_eq_true rfl) (of_decide_eq_true rfl) rfl)
      refine wp_load_row 25 _ rfl (w.heap.size) ((hI.fr.same 1 (by decide)).trans g1) 25 #[.slice am nn cm, .slice a n c] (0, 0) _ hg Try.underlying25 rfl (by kernel_rfl) ?_
      exact hKQ.out _ _ (hI.put 1 42 rfl rfl (by rw [hz]; decide) rfl hUN rfl HBB (ml10_stb D ws xs am nn cm a n c p1 p2 w.heap.size w3.heap.size (w8.heap.size)) (Below.refl _ _) rfl)
    · intro lQ b W hI hUN hED KQ hKQ
      have f0 := hI.got 1 (of_decide_eq_true rfl) (edge hED 1 (by kernel_rfl)) rfl
      replace f0 : aT b 42 = .agg #[.slice am nn cm, .slice a n c] := f0
      refine opw_call 6 #[.tmp 42] _ _ _ rfl Try.func6 (by kernel_rfl) rfl #[.agg #[.slice am nn cm, .slice a n c]] (by simp [ev, f0]) ?_
      refine (toMsg_any D am nn cm ws a n c xs W (HR.out _ (keepT m8 hI.bel)).1 hnd (HR.out _ (keepT m8 hI.bel)).2 hwt).mono ?_
      rintro e W2 ⟨q1, q2, M8, rfl, ho, hb⟩
      exact ⟨_, rfl, hKQ.out _ _ (hI.put 2 43 rfl rfl (by rw [hz]; decide) rfl hUN rfl HBB (ml10_stb D ws xs am nn cm a n c p1 p2 w.heap.size w3.heap.size (w8.heap.size)) hb ⟨q1, q2, rfl, ⟨ho.2.2.1.own.toRow, ho.2.2.2.over⟩⟩)⟩
    · intro lQ b W hI hUN hED KQ hKQ
      have f0 := hI.got 0 (of_decide_eq_true rfl) (edge hED 0 (by kernel_rfl)) rfl
      replace f0 : aT b 41 = .agg #[.slice p1 nn nn, .slice p2 n n] := f0
      have f1 := hI.got 2 (of_decide_eq_true rfl) (edge hED 2 (by kernel_rfl)) rfl
      obtain ⟨q1, q2, f1, o1_0⟩ := f1
      replace f1 : aT b 43 = .agg #[.slice q1 nn nn, .slice q2 n n] := f1
      refine opw_call 9 #[.tmp 41, .tmp 43] _ _ _ rfl Try.func9 (by kernel_rfl) rfl #[.agg #[.slice p1 nn nn, .slice p2 n n], .agg #[.slice q1 nn nn, .slice q2 n n]] (by simp [ev, f0, f1]) ?_
      refine (eqMsg_same D p1 nn nn p2 n n q1 nn q2 n ws xs W (HX8.out.kept hI.bel).row o1_0.row (by unfold maxLen; omega) (HX8.out.kept hI.bel).kids o1_0.kids).mono ?_
      rintro e W2 ⟨rfl, hb⟩
      exact ⟨_, rfl, hKQ.out _ _ (hI.put 3 44 rfl rfl (by rw [hz]; decide) rfl hUN rfl HBB (ml10_stb D ws xs am nn cm a n c p1 p2 w.heap.size w3.heap.size (w8.heap.size)) hb rfl)⟩
    · intro lQ b W hI hUN hED KQ hKQ
      have f : aT b 44 = .bool true := hI.got 3 (of_decide_eq_true rfl) (edge hED 3 (by kernel_rfl)) rfl
      exact opw_not _ 44 rfl true f (hKQ.out _ _ (hI.put 4 45 rfl rfl (by rw [hz]; decide) rfl hUN rfl HBB (ml10_stb D ws xs am nn cm a n c p1 p2 w.heap.size w3.heap.size (w8.heap.size)) (Below.refl _ _) rfl))
  · intro b W hf hb F
    have e45 : aT b 45 = .bool false := F 4 (of_decide_eq_true rfl) rfl
    rw [hf.eq]
    simp only [puts, Act.put, List.setIfInBounds_toArray, List.set_cons_zero, List.set_cons_succ, e45]
    clear hf F e45
    generalize aT b = AT
    clear b
    have cW : Below w1.heap.size w1 W := keepT c8 hb
    have mW : Below w.heap.size w W := keepT hb0 cW
    have HGW : Hid (Own w4.heap.size W ag l.length cg l) := HG8.out.kept hb
    have H0W : Hid (Row W aw l.length l) := H08.out.kept hb
    have HOW : Hid (wA.heap.size ≤ M ∧ M ≤ w3.heap.size ∧ OwnBT wA.heap.size M W p1 nn nn ws ∧ OwnKidsT D M w3.heap.size W p2 n xs) := ⟨HO8.out.1, HO8.out.2.1, HO8.out.2.2.1.kept hb, HO8.out.2.2.2.kept hb⟩
    have HBGW : Hid (W.heap[w.heap.size]? = some (.cells #[.slice am nn cm, .slice a n c] 25 (0, 0))) := below_kept HB1.out cW
    have zzW := hb.size
    have x0 : W.cell? ⟨w3.heap.size, 0, none⟩ = some (.slice p1 nn nn) := (cell_of_row _ _ 0 _ _ (0, 0) (below_kept HBX8.out hb)).trans rfl
    have x1 : W.cell? ⟨w3.heap.size, 1, none⟩ = some (.slice p2 n n) := (cell_of_row _ _ 1 _ _ (0, 0) (below_kept HBX8.out hb)).trans rfl
    clear HG8 H08 HX8 HBX8 HBG8 HO8 hb
    go_wp2_with fail
    refine (markMsg_any D wA.heap.size M w3.heap.size p1 nn nn ws p2 n n xs _ HOW.out.1 HOW.out.2.1 (by omega) HOW.out.2.2.1 HOW.out.2.2.2 hnd hwt).mono ?_
    rintro e w9 ⟨K, rfl, hK, T9⟩
    clear x0 x1
    have m9 : Below w.heap.size w w9 := mW.trans (T9.below (by omega) mW.size)
    have HG9 : Hid (Own w4.heap.size w9 ag l.length cg l) := HGW.out.touch5 T9 (by omega)
    have H09 : Hid (Row w9 aw l.length l) := H0W.out.touch HI0.out (.inl (Nat.le_refl _)) T9
    have HBG9 : Hid (w9.heap[w.heap.size]? = some (.cells #[.slice am nn cm, .slice a n c] 25 (0, 0))) := touch_kept T9 HBGW.out (.inl (by omega))
    have zz9 := T9.size
    have hK0 : ¬ ((K : Int) < 0) := by omega
    clear T9 HGW H0W HOW HBGW
    go_wp2_with fail
    refine (eqByteS_any ag aw l.length l.length cg cw l l _ HG9.out.toRow H09.out hlm hlm).mono ?_
    rintro e w10 ⟨rfl, hb10⟩
    rw [decide_eq_true (rfl : l = l)]
    have m10 : Below w.heap.size w w10 := keepT m9 hb10
    have HG10 : Hid (Own w4.heap.size w10 ag l.length cg l) := HG9.out.kept hb10
    have H010 : Hid (Row w10 aw l.length l) := H09.out.kept hb10
    have HBG10 : Hid (w10.heap[w.heap.size]? = some (.cells #[.slice am nn cm, .slice a n c] 25 (0, 0))) := below_kept HBG9.out hb10
    have zz10 := hb10.size
    clear HG9 H09 HBG9 hb10
    go_wp2_with fail
    refine (markByteS_t w4.heap.size ag l.length cg 1 l _ (fun _ => HG10.out) (by omega) (by decide) (by decide)).mono ?_
    rintro e w11 ⟨rfl, _, hr11, ht11⟩
    have T11 := ht11 _ _ HIG.out
    have m11 : Below w.heap.size w w11 := m10.trans (T11.below (by omega) m10.size)
    have H011 : Hid (Row w11 aw l.length l) := H010.out.touch HI0.out (.inl (by omega)) T11
    have HBG11 : Hid (w11.heap[w.heap.size]? = some (.cells #[.slice am nn cm, .slice a n c] 25 (0, 0))) := touch_kept T11 HBG10.out (.inl (by omega))
    have HR11 : Hid (Row w11 ag l.length (marks (1 : Int).toNat l.length)) := hr11
    clear hr11 ht11 T11 HG10 H010 HBG10
    go_wp2_with fail
    refine (heldByteS_int ag l.length cg 1 _ HR11.out (by omega) (by decide) (by decide)).mono ?_
    rintro e w12 ⟨rfl, hw⟩
    have hw2 := hw.symm
    subst hw2
    have z3 : ¬ ((1 : Int) + l.length < 0) := by omega
    have z4 : ((1 : Int) + l.length != 1 + l.length) = false := by simp
    have x0 : w11.cell? ⟨w.heap.size, 0, none⟩ = some (.slice am nn cm) := (cell_of_row _ _ 0 _ _ (0, 0) HBG11.out).trans rfl
    have x1 : w11.cell? ⟨w.heap.size, 1, none⟩ = some (.slice a n c) := (cell_of_row _ _ 1 _ _ (0, 0) HBG11.out).trans rfl
    go_wp2_with fail
    refine (toMsg_any D am nn cm ws a n c xs _ (HR.out _ m11).1 hnd (HR.out _ m11).2 hwt).mono ?_
    rintro e w13 ⟨q1, q2, M13, rfl, ho13, hb13⟩
    clear x0 x1
    go_wp2_with fail
    refine (implMsgBytes_any D ws xs q1 nn nn q2 n n bo l _ ho13.2.2.1.own.toRow (Nat.le_refl _) (by omega) ho13.2.2.2.over HF.out).mono ?_
    rintro e w14 ⟨a14, c14, rfl, ho14, hb14⟩
    have k14 := keepT hb13 hb14
    have m14 : Below w.heap.size w w14 := keepT m11 k14
    clear hb13 hb14 ho13
    go_wp2_with fail
    refine (eqByteS_any a14 aw l.length l.length c14 cw l l _ ho14.toRow (H011.out.kept k14) hlm hlm).mono ?_
    rintro e w15 ⟨rfl, hb15⟩
    rw [decide_eq_true (rfl : l = l)]
    have k15 := keepT k14 hb15
    have m15 : Below w.heap.size w w15 := keepT m14 hb15
    clear ho14 hb15
    go_wp2_with fail
    refine (heldByteS_int ag l.length cg 1 _ (HR11.out.kept k15) (by omega) (by decide) (by decide)).mono ?_
    rintro e w16 ⟨rfl, hw⟩
    have hw2 := hw.symm
    subst hw2
    go_wp2_with fail
    go_ret
    exact ⟨rfl, m15⟩

end Go.Proofs.Ytlcojjcgaibbiaa
