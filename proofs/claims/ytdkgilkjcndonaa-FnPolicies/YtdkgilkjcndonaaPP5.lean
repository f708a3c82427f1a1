import Derived.Test.YtdkgilkjcndonaaPP5a
import Derived.Deep.DeepCutAuto
import Derived.Deep.RegionWith
namespace Go.Proofs.Ytdkgilkjcndonaa
open Go.RowKit Go.Maps

/-- What toldOf answers. -/
def ToR (w : World) (bm : Nat) (L : List Int) (e : Ending) (w' : World) : Prop := ∃ a n c, e = .returned (.slice a n c) ∧ OwnL w.heap.size w' a n c L ∧ Touch bm (bm + 1) w w'
theorem names_wf {q : List Int} {xs : List PC} (hp : pathP xs) (hk : askP q) : ∀ k, k ≤ xs.length → ∀ p ∈ namesL q xs k, 0 ≤ p ∧ p ≤ 1000
  | 0, _ => fun p h => by
    rw [names_zero] at h
    obtain ⟨j, hj, rfl⟩ := List.getElem_of_mem h
    have := hk.2 j hj
    simpa [hj] using this
  | k + 1, hk' => fun p h => by
    rw [names_next q xs k (by omega), List.mem_append] at h
    rcases h with h | h
    · exact names_wf hp hk k (by omega) p h
    · have c := hp.2 k (by omega)
      unfold nmOf at h
      rw [List.mem_append] at h
      rcases h with h | h
      · obtain ⟨j, hj, rfl⟩ := List.getElem_of_mem h
        have := c.2.2.1 j hj
        have e : (xs.getD k default).pols.getD j 0 = (xs.getD k default).pols[j] := by rw [List.getD_eq_getElem?_getD, List.getElem?_eq_getElem hj]; rfl
        rw [e] at this
        exact this
      · rw [List.mem_flatMap] at h
        obtain ⟨m, hm, hpm⟩ := h
        obtain ⟨j, hj, rfl⟩ := List.getElem_of_mem hm
        have := c.2.2.2.2 j hj
        rw [getD_pm _ j hj] at this
        have hpm' : p = ((xs.getD k default).maps[j]).1 ∨ p = ((xs.getD k default).maps[j]).2 := by simpa only [two, List.mem_cons, List.not_mem_nil, or_false] using hpm
        rcases hpm' with h | h <;> rw [h] <;> omega
theorem othF_run (N : List Int) : ∀ (f : Nat) (o : Int), o ≤ othF N f o ∧ ∀ p, o ≤ p → p < othF N f o → p ∈ N
  | 0, o => ⟨Int.le_refl _, fun p h1 h2 => by have e : othF N 0 o = o := rfl; omega⟩
  | f + 1, o => by
    unfold othF
    by_cases h : o ∈ N
    · rw [if_pos h]
      have i := othF_run N f (o + 1)
      refine ⟨by omega, fun p h1 h2 => ?_⟩
      by_cases e : p = o
      · rw [e]; exact h
      · exact i.2 p (by omega) h2
    · rw [if_neg h]
      exact ⟨Int.le_refl _, fun p h1 h2 => by omega⟩
theorem oth_bounds {N : List Int} (h : N.length ≤ 164) : 1 ≤ oth N ∧ oth N ≤ 1000 := by
  have i := othF_run N 1000 1
  have e : othF N 1000 1 = oth N := rfl
  rw [e] at i
  refine ⟨i.1, ?_⟩
  have := run_len (oth N - 1).toNat N (fun p h1 h2 => i.2 p h1 (by omega))
  omega
theorem OwnL.of_blocks {B : Nat} {w w' : World} {a : Option Addr} {n c : Nat} {zs : List Int} (h : OwnL B w a n c zs) (hb : ∀ k, B ≤ k → k < w.heap.size → w'.heap[k]? = w.heap[k]?) : OwnL B w' a n c zs := by
  refine ⟨h.row.1, ?_⟩
  rcases h.row.2 with hn | ⟨g, cap, cur, hv, hbb, hgg, rest⟩
  · exact .inl hn
  · exact .inr ⟨g, cap, cur, hv, hbb, (hb g hbb (Array.getElem?_eq_some_iff.1 hgg).1).trans hgg, rest⟩
theorem OwnL.base {B : Nat} {w : World} {a : Option Addr} {n c : Nat} {zs : List Int} (h : OwnL B w a n c zs) : ∀ k, (Value.slice a n c).ownBlock = some k → B ≤ k := by
  intro k hk
  rcases h.row.2 with ⟨hv, _⟩ | ⟨g, cap, cur, hv, hbb, hgg, rest⟩
  · rw [hv] at hk; cases hk
  · rw [hv] at hk
    simp only [Value.ownBlock, Option.some.injEq] at hk
    omega
theorem MapAt.block {w w' : World} {bm n : Nat} {f : Nat → Int → Int} (h : MapAt w bm n f) (e : w'.heap[bm]? = w.heap[bm]?) : MapAt w' bm n f := by
  obtain ⟨D, hD, hm⟩ := h.own
  exact ⟨D, ownsMap_block hD e, hm⟩
/-- All that the loop keeps. -/
structure Lp (w3 : World) (bm bt r : Nat) (f : Nat → Int → Int) (N q : List Int) (hold : Int → Bool) (D : DataW Unit) (W : World) (left : Lit → Bool) (cnt n : Nat) (a : Option Addr) (ln c : Nat) (Ls : List Int) : Prop where
  rg : W.ranges Try.prog 2 (plainElem Try.prog 2) bt r N.length D left cnt
  mp : MapAt W bm n f
  own : OwnL w3.heap.size W a ln c Ls
  kr : KR bm r w3 W
theorem Lp.touch {w3 : World} {bm bt r : Nat} {f : Nat → Int → Int} {N q : List Int} {hold : Int → Bool} {D : DataW Unit} {W W' : World} {left : Lit → Bool} {cnt n n' : Nat} {a : Option Addr} {ln c : Nat} {Ls : List Int} (h : Lp w3 bm bt r f N q hold D W left cnt n a ln c Ls) (ht : Touch bm (bm + 1) W W') (hm : MapAt W' bm n' f) (h1 : bt ≠ bm) (h2 : r ≠ bm) (h3 : bm < w3.heap.size) : Lp w3 bm bt r f N q hold D W' left cnt n' a ln c Ls :=
  ⟨h.rg.kept (row := some bm) ⟨ht.os, ht.tape, ht.output, ht.size, fun k hk hne => ht.block k hk (by have : k ≠ bm := fun e => hne (by rw [e]); omega)⟩ (fun e => h1 (by cases e; rfl)) (fun e => h2 (by cases e; rfl)), hm, h.own.of_blocks (fun k h1 h2 => ht.block k h2 (by omega)), h.kr.touch ht⟩
theorem Lp.append {w3 : World} {bm bt r : Nat} {f : Nat → Int → Int} {N q : List Int} {hold : Int → Bool} {D : DataW Unit} {W W' : World} {left : Lit → Bool} {cnt n : Nat} {a : Option Addr} {ln c : Nat} {Ls : List Int} {a' : Option Addr} {ln' c' : Nat} {Ls' : List Int} (h : Lp w3 bm bt r f N q hold D W left cnt n a ln c Ls) (o : Obj) (hg : (W.alloc o).grownBy W' (Value.slice a ln c).ownBlock) (ho : OwnL w3.heap.size W' a' ln' c' Ls') (h1 : bt < w3.heap.size) (h2 : r < w3.heap.size) (h3 : bm < w3.heap.size) : Lp w3 bm bt r f N q hold D W' left cnt n a' ln' c' Ls' := by
  have hs := h.kr.size
  have ne : ∀ k, k < w3.heap.size → some k ≠ (Value.slice a ln c).ownBlock := fun k hk e => by have := h.own.base k e.symm; omega
  refine ⟨(h.rg.alloc o).kept hg (ne bt h1) (ne r h2), ?_, ho, (h.kr.grown (World.grownBy_alloc W o none) (fun k e => by cases e)).grown hg (fun k e => .inr (h.own.base k e))⟩
  exact (h.mp.below ((Below.refl _ _).alloc (Nat.le_refl _) o)).block (hg.block bm (by simp; omega) (ne bm h3))
theorem Lp.drew {w3 : World} {bm bt r : Nat} {f : Nat → Int → Int} {N q : List Int} {hold : Int → Bool} {D : DataW Unit} {W : World} {left : Lit → Bool} {cnt n : Nat} {a : Option Addr} {ln c : Nat} {Ls : List Int} (h : Lp w3 bm bt r f N q hold D W left cnt n a ln c Ls) (m : Nat) (h1 : bt ≠ bm) (h2 : r ≠ bm) (h3 : bm < w3.heap.size) : Lp w3 bm bt r f N q hold D (W.drewN m) left cnt n a ln c Ls :=
  h.touch (Touch.of_below (below_drewNP (Below.refl _ _) m)) (h.mp.below (below_drewNP (Below.refl _ _) m)) h1 h2 h3

set_option maxRecDepth 20000 in
set_option maxHeartbeats 8000000 in
theorem toldOf_any (ap : Option Addr) (np cp : Nat) (ac : Option Addr) (cc bm : Nat) (xs : List PC) (q0 m0 a0 : Int) (aq : Option Addr) (nq cq : Nat) (q : List Int) (hold : Int → Bool) (w : World) (hW : WkAt w ap np ac xs q0 m0 a0) (hM : MapAt w bm 0 (fun i q => chn xs m0 a0 (np - i) i q)) (hq : Row64 w aq nq q) (hk : askP q) (hH : ∀ p, hold p = decide (0 < chn xs m0 a0 np 0 p)) :
    Calls Try.prog 39 #[walkV ap np cp ac (np + 1) cc bm, .slice aq nq cq] w (ToR w bm (toldL (namesL q xs np) q hold)) := by
  obtain ⟨i0, ih, hz0, hz1, hz2⟩ := info_parts Try.info2P
  obtain ⟨f, hf⟩ : ∃ f : Nat → Int → Int, f = fun i q => chn xs m0 a0 (np - i) i q := ⟨_, rfl⟩
  have HHO : Hid (∀ (p : Int) (W : World) (n : Nat), WkAt W ap np ac xs q0 m0 a0 → MapAt W bm n f → n + tn np ≤ 1000000000000 → Calls Try.prog 34 #[.agg #[.slice ap np cp, .slice ac (np + 1) cc, .map (some bm)], .int .i64 p] W fun e w' => e = .returned (.bool (decide (1 ≤ p ∧ p ≤ 1000) && hold p)) ∧ MapAt w' bm (n + tn np) f ∧ Touch bm (bm + 1) W w') := fun p W n h1 h2 h3 => by
    rw [hf] at h2 ⊢
    refine (holds_any ap np cp ac cc bm xs q0 m0 a0 p W n h1 h2 h3).mono ?_
    rintro e w' ⟨b, rfl, hb, hm, ht⟩
    refine ⟨?_, hm, ht⟩
    have e : (decide (1 ≤ p ∧ p ≤ 1000) && hold p) = b := by
      rw [hH p, ← Bool.decide_and]
      cases b with
      | true => exact decide_eq_true (hb.out.1 rfl)
      | false => exact decide_eq_false (fun h => absurd (hb.out.2 h) (by decide))
    rw [e]
  rw [← hf] at hM
  have hnp := hW.le
  have HL : Hid (xs.length = np) := hW.path.len
  have HRT : Hid (pathP xs) := hW.right
  have HK : Hid (askP q) := hk
  have hnq : nq ≤ 20 := by rw [← hq.len]; exact hk.1.2
  have htn := tn_le np hnp.2
  obtain ⟨T, hT⟩ : ∃ T, T = tn np := ⟨_, rfl⟩
  rw [← hT] at HHO htn
  unfold walkV
  obtain ⟨g0, hg0⟩ : ∃ g0, g0 = w.heap.size := ⟨_, rfl⟩
  obtain ⟨w1, hw1⟩ : ∃ w1, w1 = w.alloc (.cells #[.slice ap np cp, .slice ac (np + 1) cc, .map (some bm)] 61) := ⟨_, rfl⟩
  have HB1 : Hid (Below w.heap.size w w1) := by show Below _ _ _; rw [hw1]; exact (Below.refl _ _).alloc (Nat.le_refl _) _
  have hb1 : w1.heap[g0]? = some (.cells #[.slice ap np cp, .slice ac (np + 1) cc, .map (some bm)] 61 (0, 0)) := by rw [hw1, hg0]; exact heap_alloc_new _ _
  have HX : Hid (∀ W, KeptC w1 W → (W.cell? ⟨g0, 0, none⟩ = some (.slice ap np cp) ∧ W.cell? ⟨g0, 1, none⟩ = some (.slice ac (np + 1) cc) ∧ W.cell? ⟨g0, 2, none⟩ = some (.map (some bm))) ∧ g0 < W.heap.size) := fun W k => by
    have e0 : w1.cell? ⟨g0, 0, none⟩ = some (.slice ap np cp) := (cell_of_row _ _ 0 _ 61 (0, 0) hb1).trans rfl
    have e1 : w1.cell? ⟨g0, 1, none⟩ = some (.slice ac (np + 1) cc) := (cell_of_row _ _ 1 _ 61 (0, 0) hb1).trans rfl
    have e2 : w1.cell? ⟨g0, 2, none⟩ = some (.map (some bm)) := (cell_of_row _ _ 2 _ 61 (0, 0) hb1).trans rfl
    exact ⟨⟨k.2 _ _ _ e0, k.2 _ _ _ e1, k.2 _ _ _ e2⟩, Nat.lt_of_lt_of_le (World.block_lt_of_cell? _ _ e0) k.1⟩
  have HWK : Hid (∀ W, KeptC w1 W → WkAt W ap np ac xs q0 m0 a0 ∧ Row64 W aq nq q) := fun W k => ⟨(hW.keptC (KeptC.of_below HB1.out)).keptC k, (hq.kept HB1.out).keptC k⟩
  have HM1 : Hid (MapAt w1 bm 0 f) := hM.below HB1.out
  have hbm : bm < w.heap.size := by obtain ⟨es, cl, h⟩ := hM.map; exact (Array.getElem?_eq_some_iff.1 h).1
  obtain ⟨N, hN⟩ : ∃ N, N = namesL q xs np := ⟨_, rfl⟩
  have HN : Hid (N = namesL q xs np) := hN
  have HNL : Hid (N.length ≤ 164) := by
    show _ ≤ _
    have := names_len hW.right (show q.length ≤ 20 by rw [hq.len]; exact hnq) np (by rw [hW.path.len]; exact Nat.le_refl _)
    rw [hN]
    omega
  have HNW : Hid (∀ p ∈ N, 0 ≤ p ∧ p ≤ 1000) := by rw [hN]; exact names_wf hW.right hk np (by rw [hW.path.len]; exact Nat.le_refl _)
  have HW1 : Hid (_ = _) := hw1
  have HG0 : Hid (_ = _) := hg0
  rw [← hN]
  clear hf hT hW hM hq hk hH hN hw1 hb1 hg0
  have k11 : KeptC w1 w1 := KeptC.of_below (Below.refl _ _)
  obtain ⟨⟨x0, x1, x2⟩, lx⟩ := HX.out _ k11
  go_enter Try.func39, Try.ntmps39
  go_upto_region 1 with fail
  rw [← HW1.out, ← HG0.out]
  clear HW1
  go_wp2_with fail
  refine (namedTimes_any ap np cp xs aq nq cq q _ (HWK.out _ k11).1.path HRT.out (HWK.out _ k11).2 HK.out).mono ?_
  rintro e w2 ⟨rfl, hT2, hb2⟩
  rw [← HN.out] at hT2
  obtain ⟨bt, hbt⟩ : ∃ bt, bt = w1.heap.size := ⟨_, rfl⟩
  rw [← hbt] at hT2 ⊢
  have HT2 : Hid (TimesAt w2 bt N.length N) := hT2
  have hbtw : w.heap.size ≤ bt := by rw [hbt]; exact HB1.out.size
  have HB2 : Hid (Below w1.heap.size w1 w2) := hb2
  have HK2 : Hid (KeptC w1 w2) := KeptC.of_below hb2
  have HM2 : Hid (MapAt w2 bm 0 f) := HM1.out.below hb2
  have HBW : Hid (Below w.heap.size w w2) := HB1.out.trans (hb2.mono HB1.out.size)
  clear hT2 hbt hb2 x0 x1 x2 lx k11 HM1 HB1 HB2
  obtain ⟨⟨x0, x1, x2⟩, lx⟩ := HX.out _ HK2.out
  obtain ⟨al, hal⟩ : ∃ al, al = decide (0 ∈ q) := ⟨_, rfl⟩
  have HAL : Hid (al = decide (0 ∈ q)) := hal
  have HZA : Hid (∀ W, KeptC w1 W → Calls Try.prog 65 #[.slice aq nq cq, .int .i64 0] W fun e w' => e = .returned (.bool al) ∧ w' = W) := fun W k => by rw [hal]; exact contains_any aq nq cq q 0 W (HWK.out W k).2 (by omega)
  clear hal
  go_wp2_with fail
  refine (HZA.out _ HK2.out).mono ?_
  rintro e w3 ⟨rfl, hw3⟩; have hw4 := hw3.symm; subst hw4
  clear HZA
  obtain ⟨D, hD, hTm⟩ := HT2.out.own
  have HTM : Hid (TmOk D N) := hTm
  have HD : Hid (w2.ownsMap Try.prog 2 (plainElem Try.prog 2) bt N.length D) := hD
  have HSZ : Hid (Maps.size D ≤ 164) := Nat.le_trans (size_of_owns hD) HNL.out
  clear hD hTm
  go_wp2_with (at_range; refine wpList_range_own _ rfl _ 94 rfl 2 2 k2Law Try.underlying94 _ bt N.length D rfl HD.out ?_; intro w3 hrg0 hg0 hs0)
  obtain ⟨r, hr⟩ : ∃ r, r = w2.heap.size := ⟨_, rfl⟩
  rw [← hr] at hrg0 ⊢
  have HB3 : Hid (Below w2.heap.size w2 w3) := ⟨hg0.os, hg0.tape, hg0.output, hg0.size, fun k hk => hg0.block k hk (by simp)⟩
  have HIT : Hid (∃ a b c d, w3.heap[r]? = some (.mapIter a b c d)) := by
    obtain ⟨es, clock, since, seen, c0, _, _, _, _, h, _⟩ := hrg0
    exact ⟨_, _, _, _, h⟩
  have HM3 : Hid (MapAt w3 bm 0 f) := HM2.out.below HB3.out
  have HKK : Hid (∀ W, KR bm r w3 W → KeptC w1 W) := fun W h => (HK2.out.trans (KeptC.of_below HB3.out)).trans (h.cells HM3.out.map HIT.out)
  have hbr : bm ≠ r := by have := HBW.out.size; omega
  have hbb : bt ≠ bm := by omega
  have hr3 : r < w3.heap.size := by omega
  have hb3 : bm < w3.heap.size := by have := HBW.out.size; omega
  have hrw : w.heap.size ≤ r := by have := HBW.out.size; omega
  have hbt3 : bt < w3.heap.size := by have := hrg0.owns.lt; exact this
  have HFT : Hid (∀ W, KR bm r w3 W → Touch bm (bm + 1) w W) := fun W h => ⟨h.os.trans (HB3.out.os.trans HBW.out.os), h.tape.trans (HB3.out.tape.trans HBW.out.tape), h.output.trans (HB3.out.output.trans HBW.out.output), Nat.le_trans HBW.out.size (Nat.le_trans HB3.out.size h.size), fun k hk ho => (h.block k (by have := HBW.out.size; have := HB3.out.size; omega) (by omega) (by omega)).trans ((HB3.out.block k (by have := HBW.out.size; omega)).trans (HBW.out.block k hk))⟩
  have HLP : Hid (Lp w3 bm bt r f N q hold D w3 (Maps.has D) (Maps.size D) 0 none 0 0 []) := ⟨hrg0, HM3.out, ownL_none _ _, KR.refl _ _ _⟩
  have HLS : Hid (LsOk N q hold [] (Maps.has D)) := LsOk.start HTM.out (fun p hp => by have := HNW.out p hp; exact wf_small this.1 (by omega))
  clear hrg0 hg0 hs0 hr HB3 HIT HM3 HM2 HK2 HBW x0 x1 x2 lx HD HT2
  go_frame
  go_loopw [7, 8] (fun o _ wr => ∃ (left : Lit → Bool) (cnt n ln cap k : Nat) (ao : Option Addr) (Ls : List Int), o = .slice ao ln cap ∧ n ≤ 2015539 * k ∧ k + cnt ≤ 164 ∧ ln ≤ k ∧ Hid (Lp w3 bm bt r f N q hold D wr left cnt n ao ln cap Ls) ∧ Hid (LsOk N q hold Ls left) ∧ Hid (∀ kl, left kl = true → Maps.has D kl = true)) (fun _ _ wr => wr.rangeLeft bt r)
  case atStart => exact ⟨_, Maps.size D, 0, 0, 0, 0, none, [], rfl, Nat.le_refl _, by have := HSZ.out; omega, Nat.le_refl _, HLP, HLS, fun _ h => h⟩
  case round =>
    obtain ⟨left, cnt, n, ln, cap, k, ao, Ls, rfl, hn, hkc, hlk, HLR, HOK, HLF⟩ := hrel
    clear HLP HLS
    go_wp2_with (at_next; refine wpList_next_ranges_ii _ rfl _ rfl 2 2 .i64 .i64 k2Law Try.underlying2 Try.underlying2 bt r N.length D left cnt rfl HLR.out.rg ?_ ?_)
    · intro _ hl0
      have HL0 : Hid (∀ kl, left kl = false) := hl0
      have HOB : Hid (decide (1 ≤ oth N ∧ oth N ≤ 1000) = true) := decide_eq_true (oth_bounds HNL.out)
      obtain ⟨t3, ht3⟩ : ∃ t3, t3 = (al && hold (oth N)) := ⟨_, rfl⟩
      have HT3 : Hid (t3 = (al && hold (oth N))) := ht3
      have HLW : Hid (∀ W, Below wr.heap.size wr W → Lp w3 bm bt r f N q hold D W left cnt n ao ln cap Ls) := fun W hW => HLR.out.touch (Touch.of_below hW) (HLR.out.mp.below hW) hbb (Ne.symm hbr) hb3
      have HTA : Hid (∀ W, Below wr.heap.size wr W → TimesAt W bt N.length N) := fun W hW => ⟨D, (HLW.out W hW).rg.owns, HTM.out⟩
      have HWA : Hid (∀ W, Below wr.heap.size wr W → WkAt W ap np ac xs q0 m0 a0) := fun W hW => (HWK.out _ (HKK.out _ (HLW.out W hW).kr)).1
      have HXA : Hid (∀ W, Below wr.heap.size wr W → (W.cell? ⟨g0, 0, none⟩ = some (.slice ap np cp) ∧ W.cell? ⟨g0, 1, none⟩ = some (.slice ac (np + 1) cc) ∧ W.cell? ⟨g0, 2, none⟩ = some (.map (some bm))) ∧ g0 < W.heap.size) := fun W hW => HX.out _ (HKK.out _ (HLW.out W hW).kr)
      obtain ⟨⟨x0, x1, x2⟩, lx⟩ := HXA.out _ (Below.refl _ _)
      clear hl0 ht3
      go_upto_region 9 with fail
      go_cut [42] (fun cv wx => cv = .bool t3 ∧ ∃ n', Hid (Lp w3 bm bt r f N q hold D wx left cnt n' ao ln cap Ls))
      case first =>
        cases al with
        | false =>
          have HT0 : Hid (t3 = false) := HT3.out
          go_wp2_with fail
          go_quiet (fail)
          go_wp2
          go_meet
          exact ⟨by rw [HT0.out], n, HLW.out _ (below_drewNP (Below.refl _ _) _)⟩
        | true =>
          have HHB : Hid (∀ W, Below wr.heap.size wr W → Calls Try.prog 34 #[.agg #[.slice ap np cp, .slice ac (np + 1) cc, .map (some bm)], .int .i64 (oth N)] W fun e w' => e = .returned (.bool t3) ∧ Lp w3 bm bt r f N q hold D w' left cnt (n + T) ao ln cap Ls) := fun W hW => (HHO.out (oth N) W n (HWA.out W hW) (HLW.out W hW).mp (by omega)).mono (fun e w' h => by
            obtain ⟨rfl, hm, ht⟩ := h
            refine ⟨?_, (HLW.out W hW).touch ht hm hbb (Ne.symm hbr) hb3⟩
            rw [HOB.out, HT3.out])
          have HNB : Hid (∀ W, Below wr.heap.size wr W → Calls Try.prog 66 #[.map (some bt)] W fun e w' => e = .returned (.int .i64 (oth N)) ∧ w' = W) := fun W hW => namedNowhere_any bt N.length N W (HTA.out W hW) HNL.out
          go_wp2_with fail
          go_region_with (first
            | (go_at_call 66; refine (HNB.out _ ?_).mono ?_; (first | exact Below.refl _ _ | exact (Below.refl _ _).drew | exact (Below.refl _ _).drew.drew | exact (Below.refl _ _).drew.drew.drew | exact (Below.refl _ _).drew.drew.drew.drew | exact (Below.refl _ _).drew.drew.drew.drew.drew | exact (Below.refl _ _).drew.drew.drew.drew.drew.drew); rintro e w6 ⟨rfl, hw6⟩; have hw7 := hw6.symm; subst hw7)
            | (go_at_call 34; refine (HHB.out _ ?_).mono ?_; (first | exact Below.refl _ _ | exact (Below.refl _ _).drew | exact (Below.refl _ _).drew.drew | exact (Below.refl _ _).drew.drew.drew | exact (Below.refl _ _).drew.drew.drew.drew | exact (Below.refl _ _).drew.drew.drew.drew.drew | exact (Below.refl _ _).drew.drew.drew.drew.drew.drew); rintro e w6 ⟨rfl, hL6⟩))
          all_goals
            have HL6 : Hid (Lp w3 bm bt r f N q hold D w6 left cnt (n + T) ao ln cap Ls) := hL6
            clear hL6
            go_wp2
            go_meet
            exact ⟨rfl, n + T, HL6⟩
      case rest =>
        obtain ⟨rfl, n', HLX⟩ := hcut
        obtain ⟨wx, hwx⟩ : ∃ wx, wx = wc := ⟨_, rfl⟩
        rw [← hwx] at HLX ⊢
        clear hwx x0 x1 x2 lx HLW HTA HWA HXA
        have hsz := HLX.out.kr.size
        have hln4 : ln ≤ 164 := by omega
        go_upto_if 42 with fail
        go_cut [7] (fun s wx => ∃ (a : Option Addr) (n c : Nat) (L : List Int), s = .slice a n c ∧ n ≤ 165 ∧ Hid (OwnL w3.heap.size wx a n c L) ∧ Hid (L.mergeSort (fun x y => decide (x ≤ y)) = toldL N q hold) ∧ Hid (KR bm r w3 wx))
        case first =>
          cases t3 with
          | false =>
            have HS : Hid (Ls.mergeSort (fun x y => decide (x ≤ y)) = toldL N q hold) := HOK.out.none HL0.out (by rw [← HAL.out, ← HT3.out])
            go_wp2
            go_meet
            exact ⟨_, _, _, Ls, rfl, by omega, HLX.out.own, HS, HLX.out.kr⟩
          | true =>
            have HS : Hid ((Ls ++ [0]).mergeSort (fun x y => decide (x ≤ y)) = toldL N q hold) := HOK.out.zero HL0.out (by rw [← HAL.out, ← HT3.out])
            have HOX : Hid (OwnL w3.heap.size wx ao ln cap Ls) := HLX.out.own
            go_wp2_with (at_builtin; refine wpList_append_own _ rfl _ _ 32 rfl w3.heap.size 2 i0 (.int .i64 0) 1 8 Try.underlying32 ih hz0 hz1 hz2 rfl (by decide) _ ln _ rfl ((HOX.out.kept ((Below.refl _ _).alloc (Nat.le_refl _) _)).row) ⟨wx.heap.size, 0, none⟩ 1 1 ([(0 : Int)].map (Value.int .i64)) rfl rfl (cell_one64P _ _) (ints_oneCell .i64 [0]) (by unfold maxLen; omega) (by omega) (by simp; omega) ?_; intro v' w7 hown' hgrow' _; rw [← List.map_append] at hown'; obtain ⟨a7, c7, rfl, ho7⟩ := ownL_appended hown'; have hL7 := HLX.out.append _ hgrow' ho7 hbt3 hr3 hb3)
            have HL7 : Hid (Lp w3 bm bt r f N q hold D w7 left cnt n' a7 (ln + 1) c7 (Ls ++ [0])) := hL7
            clear hown' hgrow' ho7 hL7
            go_wp2
            go_meet
            exact ⟨a7, ln + 1, c7, Ls ++ [0], rfl, by omega, HL7.out.own, HS, HL7.out.kr⟩
        case rest =>
          obtain ⟨a8, n8, c8, L8, rfl, hn8, HO8, HS8, HK8⟩ := hcut
          obtain ⟨wy, hwy⟩ : ∃ wy, wy = wc := ⟨_, rfl⟩
          rw [← hwy] at HO8 HK8 ⊢
          clear hwy HLX HT3
          go_wp2_with fail
          refine (sort_any w3.heap.size a8 n8 c8 L8 _ HO8.out (by omega)).mono ?_
          rintro e w9 ⟨rfl, ho9, hg9⟩
          rw [HS8.out] at ho9
          have HF : Hid (OwnL w.heap.size w9 a8 n8 c8 (toldL N q hold)) := ownL_mono ho9 (by omega)
          have HT9 : Hid (Touch bm (bm + 1) w w9) := HFT.out _ (HK8.out.grown hg9 (fun k e => .inr (HO8.out.base k e)))
          clear ho9 hg9
          go_wp2
          go_ret
          exact ⟨_, _, _, rfl, HF.out, HT9.out⟩
    · intro x c w5 cnt1 hwx hwc hlx hat hrg1 hlt hg1 hs1 hen
      have hsr := HLR.out.kr.size
      obtain ⟨left1, hl1⟩ : ∃ left1 : Lit → Bool, left1 = fun z => left z && !z.sameKey (.int .i64 x) := ⟨_, rfl⟩
      rw [← hl1] at hrg1
      have HLR5 : Hid (Lp w3 bm bt r f N q hold D w5 left1 cnt1 n ao ln cap Ls) := ⟨hrg1, HLR.out.mp.block (hg1.block bm (by omega) (fun e => hbr (by cases e; rfl))), HLR.out.own.of_blocks (fun k h1 h2 => hg1.block k h2 (fun e => by cases e; omega)), HLR.out.kr.grown hg1 (fun k e => .inl (by cases e; rfl))⟩
      have HXN : Hid (x ∈ N) := (HTM.out x hwx).2.1 (HLF.out _ hlx)
      have HCW : Hid (wr.rangeLeft bt r = cnt) := HLR.out.rg.left_eq
      have HLF1 : Hid (∀ kl, left1 kl = true → Maps.has D kl = true) := fun kl h => by
        rw [hl1] at h
        exact HLF.out kl (by simp at h; exact h.1)
      obtain ⟨t2, ht2⟩ : ∃ t2, t2 = ((al || decide (x ∈ q)) && (decide (1 ≤ x ∧ x ≤ 1000) && hold x)) := ⟨_, rfl⟩
      have HTT : Hid (t2 = ((al || decide (x ∈ q)) && (decide (1 ≤ x ∧ x ≤ 1000) && hold x))) := ht2
      have HTE : Hid (t2 = true ↔ tells q hold x) := by
        show _ ↔ _
        rw [ht2, HAL.out]
        unfold tells
        simp
      have HOKT : Hid (t2 = true → LsOk N q hold (Ls ++ [x]) left1) := fun e => by rw [hl1]; exact HOK.out.take x HXN.out hlx (HTE.out.1 e)
      have HOKF : Hid (t2 = false → LsOk N q hold Ls left1) := fun e => by rw [hl1]; exact HOK.out.skip x (fun h => by rw [HTE.out.2 h] at e; cases e)
      have HXQ : Hid (∀ W, KR bm r w3 W → Calls Try.prog 65 #[.slice aq nq cq, .int .i64 x] W fun e w' => e = .returned (.bool (decide (x ∈ q))) ∧ w' = W) := fun W k => contains_any aq nq cq q x W (HWK.out W (HKK.out _ k)).2 (by omega)
      obtain ⟨⟨x0, x1, x2⟩, lx⟩ := HX.out _ (HKK.out _ HLR5.out.kr)
      clear hat hrg1 hg1 hs1 hwc hl1 ht2 HLR HOK HLF HTE hlx hwx
      go_upto_region 7 with fail
      clear hen
      go_cut [31] (fun cv wx => cv = .bool t2 ∧ ∃ n', n' ≤ 2015539 * (k + 1) ∧ Hid (Lp w3 bm bt r f N q hold D wx left1 cnt1 n' ao ln cap Ls))
      case first =>
        cases al with
        | true =>
          have HT0 : Hid (t2 = (decide (1 ≤ x ∧ x ≤ 1000) && hold x)) := HTT.out
          go_wp2_with fail
          refine (HHO.out x _ n (HWK.out _ (HKK.out _ HLR5.out.kr)).1 HLR5.out.mp (by omega)).mono ?_
          rintro e w6 ⟨rfl, hm6, ht6⟩
          have HL6 : Hid (Lp w3 bm bt r f N q hold D w6 left1 cnt1 (n + T) ao ln cap Ls) := HLR5.out.touch ht6 hm6 hbb (Ne.symm hbr) hb3
          rw [← HT0.out]
          clear hm6 ht6 HT0 x0 x1 x2 lx
          go_wp2
          go_meet
          exact ⟨rfl, n + T, by omega, HL6⟩
        | false =>
          go_wp2_with fail
          refine (HXQ.out _ HLR5.out.kr).mono ?_
          rintro e w6 ⟨rfl, hw6⟩; have hw7 := hw6.symm; subst hw7
          by_cases hxq : x ∈ q
          · rw [decide_eq_true hxq]
            have HT0 : Hid (t2 = (decide (1 ≤ x ∧ x ≤ 1000) && hold x)) := by show _ = _; rw [HTT.out, decide_eq_true hxq]; rfl
            clear hxq
            go_wp2_with fail
            refine (HHO.out x _ n (HWK.out _ (HKK.out _ HLR5.out.kr)).1 HLR5.out.mp (by omega)).mono ?_
            rintro e w6 ⟨rfl, hm6, ht6⟩
            have HL6 : Hid (Lp w3 bm bt r f N q hold D w6 left1 cnt1 (n + T) ao ln cap Ls) := HLR5.out.touch ht6 hm6 hbb (Ne.symm hbr) hb3
            rw [← HT0.out]
            clear hm6 ht6 HT0 x0 x1 x2 lx
            go_wp2
            go_meet
            exact ⟨rfl, n + T, by omega, HL6⟩
          · rw [decide_eq_false hxq]
            have HT0 : Hid (t2 = false) := by show _ = _; rw [HTT.out, decide_eq_false hxq]; rfl
            clear hxq
            go_wp2
            go_meet
            exact ⟨by rw [HT0.out], n, by omega, HLR5⟩
      case rest =>
        obtain ⟨rfl, n', hn', HL6⟩ := hcut
        obtain ⟨wx, hwx⟩ : ∃ wx, wx = wc := ⟨_, rfl⟩
        rw [← hwx] at HL6 ⊢
        clear hwx x0 x1 x2 lx HLR5 HTT HXQ
        have hsz := HL6.out.kr.size
        cases t2 with
        | false =>
          have HOKN : Hid (LsOk N q hold Ls left1) := HOKF.out rfl
          have HCN : Hid (wx.rangeLeft bt r = cnt1) := HL6.out.rg.left_eq
          clear HOKF HOKT
          go_wp2
          go_roundw
          case rel => exact ⟨left1, cnt1, n', ln, cap, k + 1, ao, Ls, rfl, hn', by omega, by omega, HL6, HOKN, HLF1⟩
          case measure => rw [HCW.out, HCN.out]; exact hlt
        | true =>
          have HOKN : Hid (LsOk N q hold (Ls ++ [x]) left1) := HOKT.out rfl
          have HOX : Hid (OwnL w3.heap.size wx ao ln cap Ls) := HL6.out.own
          clear HOKF HOKT
          go_wp2_with (at_builtin; refine wpList_append_own _ rfl _ _ 32 rfl w3.heap.size 2 i0 (.int .i64 0) 1 8 Try.underlying32 ih hz0 hz1 hz2 rfl (by decide) _ ln _ rfl ((HOX.out.kept ((Below.refl _ _).alloc (Nat.le_refl _) _)).row) ⟨wx.heap.size, 0, none⟩ 1 1 ([x].map (Value.int .i64)) rfl rfl (cell_one64P _ _) (ints_oneCell .i64 [x]) (by unfold maxLen; omega) (by omega) (by simp; omega) ?_; intro v' w7 hown' hgrow' _; rw [← List.map_append] at hown'; obtain ⟨a7, c7, rfl, ho7⟩ := ownL_appended hown'; have hL7 := HL6.out.append _ hgrow' ho7 hbt3 hr3 hb3)
          have HL7 : Hid (Lp w3 bm bt r f N q hold D w7 left1 cnt1 n' a7 (ln + 1) c7 (Ls ++ [x])) := hL7
          have HCN : Hid (w7.rangeLeft bt r = cnt1) := HL7.out.rg.left_eq
          clear hown' hgrow' ho7 hL7
          go_wp2
          go_roundw
          case rel => exact ⟨left1, cnt1, n', ln + 1, c7, k + 1, a7, Ls ++ [x], rfl, hn', by omega, by omega, HL7, HOKN, HLF1⟩
          case measure => rw [HCW.out, HCN.out]; exact hlt

end Go.Proofs.Ytdkgilkjcndonaa
