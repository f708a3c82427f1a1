import Derived.Test.YtlcojjcgaibbiaaMC2b
set_option linter.unusedVariables false
namespace Go.Proofs.Ytlcojjcgaibbiaa
open Go.RowKit Go.Sort

theorem two_below (w : World) (o0 o1 : Obj) : Below w.heap.size w ((w.alloc o0).alloc o1) := ((Below.refl _ _).alloc (Nat.le_refl _) _).alloc (by simp) _
theorem touch_kept {W W' : World} {lo hi g : Nat} {o : Obj} (ht : Touch lo hi W W') (h : W.heap[g]? = some o) (ho : g < lo ∨ hi ≤ g) : W'.heap[g]? = some o := (ht.block g (Array.getElem?_eq_some_iff.1 h).1 ho).trans h

set_option maxRecDepth 10000 in
set_option maxHeartbeats 2000000 in
theorem szMsg_any (D : Nat) (a1 : Option Addr) (n1 c1 : Nat) (a2 : Option Addr) (n2 c2 : Nat) (xs : List ItT) (lf : Int) (w : World) (hf0 : 0 ≤ lf) (hf1 : lf ≤ 1048576) (hn : n1 ≤ 9223372036854775807) (hk : KidsT D w a2 n2 xs) :
    Calls Try.prog 4 #[.agg #[.slice a1 n1 c1, .slice a2 n2 c2], .int .i64 lf] w fun e w' => ∃ r, e = .returned (.int .i64 r) ∧ (r < 0 ∨ (0 ≤ r ∧ r ≤ 1048576 ∧ n1 ≤ 1048576 ∧ wtST D xs ≤ 1048576)) ∧ Below w.heap.size w w' := by
  obtain ⟨w1, hw1⟩ : ∃ w1, w1 = w.alloc (.cells #[.slice a1 n1 c1, .slice a2 n2 c2] 25) := ⟨_, rfl⟩
  have hbb : Below w.heap.size w w1 := by rw [hw1]; exact (Below.refl _ _).alloc (Nat.le_refl _) _
  have HN : Hid (w1.heap[w.heap.size]? = some (.cells #[.slice a1 n1 c1, .slice a2 n2 c2] 25 (0, 0))) := by show _ = _; rw [hw1]; exact heap_alloc_new w _
  have HK : Hid (KidsT D w1 a2 n2 xs) := hk.kept hbb
  have HW : Hid (_ = _) := hw1
  obtain ⟨x0, x1⟩ := cells2m HN.out
  clear hw1 hk
  go_enter Try.func4, Try.ntmps4
  go_upto_region 1 with fail
  rw [← HW.out]
  clear HW
  go_wp2_with fail
  refine (szByteS_anyT a1 n1 c1 lf _ hn hf0 hf1).mono ?_
  rintro e w2 ⟨rfl, hw2⟩
  subst hw2
  by_cases h1 : (n1 : Int) ≤ lf
  case neg =>
    have e1 : szRT n1 lf = -1 := by rw [szRT, if_neg h1]
    rw [e1]
    clear e1
    go_wp2
    go_ret
    exact ⟨_, rfl, .inl (by decide), hbb⟩
  have e1 : szRT n1 lf = lf - n1 := by rw [szRT, if_pos h1]
  rw [e1]
  clear e1
  obtain ⟨l, hl⟩ : ∃ l : Int, l = lf - (n1 : Int) := ⟨_, rfl⟩
  rw [← hl]
  have hl0 : ¬ l < 0 := by omega
  have hlp : 0 ≤ l := by omega
  have hl1 : l ≤ 1048576 := by omega
  have hn1 : n1 ≤ 1048576 := by omega
  clear hl h1 hf0 hf1
  go_wp2_with fail
  refine (szS_allT D a2 n2 c2 xs l _ HK.out hlp hl1).mono ?_
  rintro e w3 ⟨rfl, hb3⟩
  have hB := keepT hbb hb3
  clear x0 x1
  obtain ⟨W, hWd⟩ : ∃ W : Nat, W = wtST D xs := ⟨_, rfl⟩
  rw [← hWd]
  have HWd : Hid (_ = _) := hWd
  clear hWd HK
  by_cases h2 : ((W : Nat) : Int) ≤ l
  case neg =>
    have e1 : szRT W l = -1 := by rw [szRT, if_neg h2]
    rw [e1]
    clear e1
    go_wp2
    go_ret
    exact ⟨_, rfl, .inl (by decide), hB⟩
  have e1 : szRT W l = l - (W : Nat) := by rw [szRT, if_pos h2]
  rw [e1]
  clear e1
  obtain ⟨r, hr⟩ : ∃ r : Int, r = l - ((W : Nat) : Int) := ⟨_, rfl⟩
  rw [← hr]
  have hr0 : ¬ r < 0 := by omega
  have HR : Hid (0 ≤ r ∧ r ≤ 1048576 ∧ n1 ≤ 1048576 ∧ W ≤ 1048576) := ⟨by omega, by omega, by omega, by omega⟩
  clear hr h2
  go_wp2
  go_ret
  exact ⟨r, rfl, .inr (by rw [← HWd.out]; exact HR.out), hB⟩

theorem results_msg {fn : Func} {t : Tmp} (h : fn.results = #[.cell t 31]) (tmps : Array Value) (g : Nat) (ht : tmps.getD t undef = .pointer (some ⟨g, 0, none⟩)) (w : World) (c1 : Array Value)
    (b1 : w.heap[g]? = some (.cells c1 31 (0, 0))) (s1 : c1.size = 2) : (results fn tmps).run Try.prog w = .ok (.agg c1) w := by
  have i1 : (Try.prog.info? 31).map (·.size) = some c1.size := by rw [s1]; kernel_rfl
  have ht' : tmps[t]?.getD undef = .pointer (some ⟨g, 0, none⟩) := by rw [← ht]; simp
  simp [results, h, ht', asAddr, run_loadVar_row w g _ _ c1 (0, 0) _ b1 Try.underlying31 rfl i1]

set_option maxRecDepth 10000 in
set_option maxHeartbeats 4000000 in
theorem toMsg_any (D : Nat) (a1 : Option Addr) (n1 c1 : Nat) (ws : List Int) (a2 : Option Addr) (n2 c2 : Nat) (xs : List ItT) (w : World) (hr : Row w a1 n1 ws) (hn : n1 ≤ 1048576) (hk : KidsT D w a2 n2 xs) (hw : wtST D xs ≤ 1048576) :
    Calls Try.prog 6 #[.agg #[.slice a1 n1 c1, .slice a2 n2 c2]] w fun e w' => ∃ b1 b2 M, e = .returned (.agg #[.slice b1 n1 n1, .slice b2 n2 n2]) ∧ (w.heap.size ≤ M ∧ M ≤ w'.heap.size ∧ OwnBT w.heap.size M w' b1 n1 n1 ws ∧ OwnKidsT D M w'.heap.size w' b2 n2 xs) ∧ Below w.heap.size w w' := by
  obtain ⟨W0, hW0⟩ : ∃ W0, W0 = ((w.alloc (.cells #[.slice a1 n1 c1, .slice a2 n2 c2] 25)).alloc (.cells #[.slice none 0 0, .slice none 0 0] 31)).alloc (.cells #[.slice none 0 0, .slice none 0 0] 31) := ⟨_, rfl⟩
  have hB0 : Below w.heap.size w W0 := by rw [hW0]; exact (((Below.refl _ _).alloc (Nat.le_refl _) _).alloc (by simp) _).alloc (by simp; omega) _
  have hS0 : W0.heap.size = w.heap.size + 3 := by rw [hW0]; simp
  obtain ⟨b0, b1, b2⟩ := three_blocksTr w (.cells #[.slice a1 n1 c1, .slice a2 n2 c2] 25) (.cells #[.slice none 0 0, .slice none 0 0] 31) (.cells #[.slice none 0 0, .slice none 0 0] 31)
  rw [← hW0] at b0 b1 b2
  have HR : Hid (Row W0 a1 n1 ws) := hr.kept hB0
  have HK : Hid (KidsT D w a2 n2 xs) := hk
  have HB : Hid (W0.heap[w.heap.size]? = some (.cells #[.slice a1 n1 c1, .slice a2 n2 c2] 25 (0, 0)) ∧ W0.heap[w.heap.size + 1]? = some (.cells #[.slice none 0 0, .slice none 0 0] 31 (0, 0)) ∧ W0.heap[w.heap.size + 2]? = some (.cells #[.slice none 0 0, .slice none 0 0] 31 (0, 0))) := ⟨b0, b1, b2⟩
  have HW : Hid (_ = _) := hW0
  obtain ⟨x0, x1⟩ := cells2m b0
  clear hW0 b0 b1 b2 hr hk
  go_enter Try.func6, Try.ntmps6
  go_upto_region 2 with fail
  rw [← HW.out]
  clear HW
  go_wp2_with fail
  refine (toByteS_any a1 n1 c1 ws _ HR.out hn).mono ?_
  rintro e w1 ⟨e1, rfl, ho1, hb1⟩
  have hs1 := hb1.size
  have HB1 : Hid (w1.heap[w.heap.size]? = some (.cells #[.slice a1 n1 c1, .slice a2 n2 c2] 25 (0, 0)) ∧ w1.heap[w.heap.size + 1]? = some (.cells #[.slice none 0 0, .slice none 0 0] 31 (0, 0)) ∧ w1.heap[w.heap.size + 1 + 1]? = some (.cells #[.slice none 0 0, .slice none 0 0] 31 (0, 0))) := ⟨below_kept HB.out.1 hb1, below_kept HB.out.2.1 hb1, below_kept HB.out.2.2 hb1⟩
  clear x0 x1
  obtain ⟨x0, x1⟩ := cells2m HB1.out.1
  obtain ⟨y0, y1⟩ := cells2m HB1.out.2.2
  have f0 := frozen_of_row w1 _ 0 _ _ HB1.out.2.2
  obtain ⟨W1, hW1⟩ : ∃ W1, W1 = w1.setCell ⟨w.heap.size + 1 + 1, 0, none⟩ (.slice e1 n1 n1) := ⟨_, rfl⟩
  have t1 : Touch (w.heap.size + 1) (w.heap.size + 3) w1 W1 := by rw [hW1]; exact touch_setT w1 _ 0 _ (by omega) (by omega)
  have hsz : W1.heap.size = w1.heap.size := by rw [hW1]; simp
  have HB2 : Hid (W1.heap[w.heap.size]? = some (.cells #[.slice a1 n1 c1, .slice a2 n2 c2] 25 (0, 0)) ∧ W1.heap[w.heap.size + 1]? = some (.cells #[.slice none 0 0, .slice none 0 0] 31 (0, 0)) ∧ W1.heap[w.heap.size + 1 + 1]? = some (.cells #[.slice e1 n1 n1, .slice none 0 0] 31 (0, 0))) := by
    refine ⟨touch_kept t1 HB1.out.1 (by omega), ?_, ?_⟩
    · rw [hW1]; exact (heap_setCell_other w1 ⟨w.heap.size + 1 + 1, 0, none⟩ (w.heap.size + 1) _ (by simp)).trans HB1.out.2.1
    · rw [hW1]; exact heap_setCell_same w1 _ 0 _ _ _ HB1.out.2.2
  have hB1 : Below w.heap.size w w1 := keepT hB0 hb1
  have hBW : Below w.heap.size w W1 := hB1.trans (t1.below (by omega) (by omega))
  have HOB1 : Hid (OwnBT W0.heap.size w1.heap.size W1 e1 n1 n1 ws) := (ho1.ownBT).touch (.inr (by omega)) t1
  have HW : Hid (_ = _) := hW1
  clear hW1 ho1
  go_upto_region 3 with fail
  rw [← HW.out]
  clear HW x0 x1 y0 y1 f0
  obtain ⟨x0, x1⟩ := cells2m HB2.out.1
  go_wp2_with fail
  refine (toS_allT D a2 n2 c2 xs _ (HK.out.kept hBW) hw).mono ?_
  rintro e w2 ⟨e2, rfl, ho2, hb2⟩
  have hs2 := hb2.size
  have HB3 : Hid (w2.heap[w.heap.size + 1]? = some (.cells #[.slice none 0 0, .slice none 0 0] 31 (0, 0)) ∧ w2.heap[w.heap.size + 1 + 1]? = some (.cells #[.slice e1 n1 n1, .slice none 0 0] 31 (0, 0))) := ⟨below_kept HB2.out.2.1 hb2, below_kept HB2.out.2.2 hb2⟩
  clear x0 x1
  obtain ⟨y0, y1⟩ := cells2m HB3.out.2
  have f1 := frozen_of_row w2 _ 1 _ _ HB3.out.2
  obtain ⟨z0, z1⟩ := cells2m HB3.out.1
  have g0 := frozen_of_row w2 _ 0 _ _ HB3.out.1
  have g1 := frozen_of_row w2 _ 1 _ _ HB3.out.1
  obtain ⟨W2, hW2⟩ : ∃ W2, W2 = ((w2.setCell ⟨w.heap.size + 1 + 1, 1, none⟩ (.slice e2 n2 n2)).setCell ⟨w.heap.size + 1, 0, none⟩ (.slice e1 n1 n1)).setCell ⟨w.heap.size + 1, 1, none⟩ (.slice e2 n2 n2) := ⟨_, rfl⟩
  have t2 : Touch (w.heap.size + 1) (w.heap.size + 3) w2 W2 := by rw [hW2]; exact ((touch_setT _ _ _ _ (by omega) (by omega)).trans (touch_setT _ _ _ _ (by omega) (by omega))).trans (touch_setT _ _ _ _ (by omega) (by omega))
  have hsz2 : W2.heap.size = w2.heap.size := by rw [hW2]; simp
  have HB4 : Hid (W2.heap[w.heap.size + 1]? = some (.cells #[.slice e1 n1 n1, .slice e2 n2 n2] 31 (0, 0))) := by
    show _ = _
    rw [hW2]
    have q0 := (heap_setCell_other w2 ⟨w.heap.size + 1 + 1, 1, none⟩ (w.heap.size + 1) (.slice e2 n2 n2) (by simp)).trans HB3.out.1
    exact heap_setCell_same _ _ 1 _ _ _ (heap_setCell_same _ _ 0 _ _ _ q0)
  have HO1 : Hid (OwnBT W0.heap.size w1.heap.size W2 e1 n1 n1 ws) := ((HOB1.out.kept hb2).touch (.inr (by omega)) t2)
  have HO2 : Hid (OwnKidsT D w1.heap.size W2.heap.size W2 e2 n2 xs) := by
    show OwnKidsT _ _ _ _ _ _ _
    rw [hsz2, ← hsz]
    exact ownKids_movesT D _ _ _ _ _ _ _ _ _ ho2 (.inr (by omega)) t2
  have hB2 : Below w.heap.size w W2 := (keepT hBW hb2).trans (t2.below (by omega) (by omega))
  have hs3 : w1.heap.size ≤ W2.heap.size := by omega
  have HW : Hid (_ = _) := hW2
  clear hW2 ho2
  go_wp2
  rw [← HW.out]
  try simp only [Exit.inBlock, Exit.then]
  exact bodyPost_ret (results_msg rfl _ (w.heap.size + 1) rfl _ _ HB4.out rfl) rfl ⟨e1, e2, w1.heap.size, rfl, ⟨by omega, hs3, HO1.out.mono (by omega) (Nat.le_refl _), HO2.out⟩, hB2⟩

set_option maxRecDepth 10000 in
set_option maxHeartbeats 2000000 in
theorem eqMsg_same (D : Nat) (a1 : Option Addr) (n1 c1 : Nat) (a2 : Option Addr) (n2 c2 : Nat) (b1 : Option Addr) (d1 : Nat) (b2 : Option Addr) (d2 : Nat) (ct : List Int) (gs : List ItT) (w : World) (h1 : Row w a1 n1 ct) (h2 : Row w b1 n1 ct) (hn : n1 ≤ maxLen) (g1 : KidsT D w a2 n2 gs) (g2 : KidsT D w b2 n2 gs) :
    Calls Try.prog 9 #[.agg #[.slice a1 n1 c1, .slice a2 n2 c2], .agg #[.slice b1 n1 d1, .slice b2 n2 d2]] w fun e w' => e = .returned (.bool true) ∧ Below w.heap.size w w' := by
  obtain ⟨w1, hw1⟩ : ∃ w1, w1 = (w.alloc (.cells #[.slice a1 n1 c1, .slice a2 n2 c2] 31)).alloc (.cells #[.slice b1 n1 d1, .slice b2 n2 d2] 31) := ⟨_, rfl⟩
  have hn2 := two_blocks w (.cells #[.slice a1 n1 c1, .slice a2 n2 c2] 31) (.cells #[.slice b1 n1 d1, .slice b2 n2 d2] 31)
  have hbb : Below w.heap.size w w1 := by rw [hw1]; exact two_below _ _ _
  rw [← hw1] at hn2
  have HA : Hid (Row w1 a1 n1 ct ∧ Row w1 b1 n1 ct) := ⟨h1.kept hbb, h2.kept hbb⟩
  have HG : Hid (KidsT D w1 a2 n2 gs ∧ KidsT D w1 b2 n2 gs) := ⟨g1.kept hbb, g2.kept hbb⟩
  have HN : Hid (w1.heap[w.heap.size]? = some (.cells #[.slice a1 n1 c1, .slice a2 n2 c2] 31 (0, 0)) ∧ w1.heap[w.heap.size + 1]? = some (.cells #[.slice b1 n1 d1, .slice b2 n2 d2] 31 (0, 0))) := hn2
  have HW : Hid (_ = _) := hw1
  obtain ⟨x0, x1⟩ := cells2m HN.out.1
  obtain ⟨y0, y1⟩ := cells2m HN.out.2
  clear hw1 hn2 h1 h2 g1 g2
  go_enter Try.func9, Try.ntmps9
  go_upto_region 1 with fail
  rw [← HW.out]
  clear HW
  go_wp2_with fail
  refine (eqByteS_any a1 b1 n1 n1 c1 d1 ct ct _ HA.out.1 HA.out.2 hn hn).mono ?_
  rintro e w2 ⟨rfl, hb2⟩
  rw [decide_eq_true (rfl : ct = ct)]
  clear x0 x1 y0 y1
  obtain ⟨x0, x1⟩ := cells2m (below_kept HN.out.1 hb2)
  obtain ⟨y0, y1⟩ := cells2m (below_kept HN.out.2 hb2)
  go_wp2_with fail
  refine (eqS_allT D a2 b2 n2 c2 d2 gs _ (HG.out.1.kept hb2) (HG.out.2.kept hb2)).mono ?_
  rintro e w3 ⟨rfl, hb3⟩
  clear x0 x1 y0 y1
  go_wp2
  go_ret
  exact ⟨rfl, keepT hbb (keepT hb2 hb3)⟩


set_option maxRecDepth 10000 in
set_option maxHeartbeats 2000000 in
theorem markMsg_any (D lo M hi : Nat) (a1 : Option Addr) (n1 c1 : Nat) (ws : List Int) (a2 : Option Addr) (n2 c2 : Nat) (xs : List ItT) (w : World) (h1 : lo ≤ M) (h2 : M ≤ hi) (hh : hi ≤ w.heap.size) (ho : OwnBT lo M w a1 n1 c1 ws) (hk : OwnKidsT D M hi w a2 n2 xs) (hn : n1 ≤ 1048576) (hw : wtST D xs ≤ 1048576) :
    Calls Try.prog 10 #[.agg #[.slice a1 n1 c1, .slice a2 n2 c2], .int .i64 1] w fun e w' => ∃ k : Nat, e = .returned (.int .i64 (k : Int)) ∧ k ≤ 5000000 ∧ Touch lo hi w w' := by
  obtain ⟨w1, hw1⟩ : ∃ w1, w1 = w.alloc (.cells #[.slice a1 n1 c1, .slice a2 n2 c2] 31) := ⟨_, rfl⟩
  have hbb : Below w.heap.size w w1 := by rw [hw1]; exact (Below.refl _ _).alloc (Nat.le_refl _) _
  have HN : Hid (w1.heap[w.heap.size]? = some (.cells #[.slice a1 n1 c1, .slice a2 n2 c2] 31 (0, 0))) := by show _ = _; rw [hw1]; exact heap_alloc_new w _
  have HO : Hid (OwnBT lo M w1 a1 n1 c1 ws) := ho.kept hbb
  have HK : Hid (OwnKidsT D M hi w1 a2 n2 xs) := hk.kept hbb
  have HW : Hid (_ = _) := hw1
  obtain ⟨x0, x1⟩ := cells2m HN.out
  clear hw1 ho hk
  go_enter Try.func10, Try.ntmps10
  go_upto_region 1 with fail
  rw [← HW.out]
  clear HW
  go_wp2_with fail
  refine (markByteS_int lo a1 n1 c1 1 ws _ HO.out.own (by omega) (by decide) (by decide)).mono ?_
  rintro e w2 ⟨rfl, _, hg2⟩
  have t2 : Touch lo M w1 w2 := HO.out.wrote hg2
  have HN2 : Hid (_) := touch_kept t2 HN.out (.inr (by omega))
  have HK2 : Hid (OwnKidsT D M hi w2 a2 n2 xs) := ownKids_movesT D _ _ _ _ _ _ _ _ _ HK.out (.inr (Nat.le_refl _)) t2
  clear x0 x1
  obtain ⟨x0, x1⟩ := cells2m HN2.out
  go_wp2_with fail
  refine (markS_allT D M hi a2 n2 c2 xs (1 + n1) ((1 : Int) + (n1 : Int)) _ (by omega) HK2.out (by omega)).mono ?_
  rintro e w3 ⟨rfl, _, t3⟩
  have hle := mkS_leT D xs (1 + n1)
  obtain ⟨K, hK⟩ : ∃ K : Nat, K = (mkST D xs (1 + n1)).2 := ⟨_, rfl⟩
  rw [← hK] at hle
  have HT : Hid (Touch lo hi w w3) := ((Touch.of_below hbb).trans (t2.mono (Nat.le_refl _) h2)).trans (t3.mono h1 (Nat.le_refl _))
  have HKB : Hid (K ≤ 5000000) := by show _ ≤ _; omega
  rw [← hK]
  clear x0 x1 hK hle t2 t3
  go_wp2
  go_ret
  exact ⟨K, rfl, HKB.out, HT.out⟩

end Go.Proofs.Ytlcojjcgaibbiaa
