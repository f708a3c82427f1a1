import Derived.Test.YtlcojjcgaibbiaaMI2
set_option linter.unusedVariables false
namespace Go.Proofs.Ytlcojjcgaibbiaa
open Go.RowKit Go.Sort

def msI (ct : List Int) (nn : Nat) (xs : List ItT) : It := boxI 10 [lstI ((List.range (pcN nn)).map (pcI ct nn)), lstI (xs.map sgI1)]
def EnA (o : Option (List Int)) (bo : Bool) (l : List Int) : Prop := (bo = true ∧ o = some l) ∨ (bo = false ∧ l = [] ∧ o = none)
/-- What MsgBytes answers. -/
def MbR (ct : List Int) (nn : Nat) (xs : List ItT) (bo : Bool) (l : List Int) : Prop := (msgP nn xs ∧ EnA (enc 12 (msI ct nn xs)) bo l) ∨ (¬ msgP nn xs ∧ bo = false ∧ l = [])
theorem own_nilM (B : Nat) (w : World) : Own B w none 0 0 [] := ⟨World.ownsRow_nil w B 5 1, by simp⟩
theorem itemBytes_un (d : Nat) (tag : Int) (a : Option Addr) (n c : Nat) (ks : List It) (bo : Bool) (l : List Int) (w : World) (hk : Kids d w a n ks) (hl : EnA (enc 12 (boxI tag ks)) bo l) :
    Calls Try.prog 23 #[.agg #[.int .i64 1, .int .i64 tag, .bool true, .slice none 0 0, .slice a n c]] w fun e w' => ∃ a' c', e = .returned (.tuple #[.slice a' l.length c', .bool bo]) ∧ Own w.heap.size w' a' l.length c' l ∧ Below w.heap.size w w' := by
  refine Calls.mono (implItemBytes_any d (boxI tag ks) none 0 0 a n c w ⟨rfl, fun k hk => absurd hk (Nat.not_lt_zero _), by simp [boxI, It.body]⟩ (fun _ => rfl) (by decide) hk) ?_
  rintro e w1 ⟨hans, hb1⟩
  rcases hans with ⟨a1, n1, c1, bs, rfl, h1, ho⟩ | ⟨rfl, h1⟩
  · rcases hl with ⟨rfl, e0⟩ | ⟨_, _, e0⟩
    · have e1 : bs = l := by have := h1.out; rw [e0] at this; injection this with this; exact this.symm
      subst e1
      have e2 : bs.length = n1 := ho.toRow.len
      subst e2
      exact ⟨a1, c1, rfl, ho, hb1⟩
    · have := h1.out
      rw [e0] at this
      cases this
  · rcases hl with ⟨_, e0⟩ | ⟨rfl, rfl, _⟩
    · have := h1.out
      rw [e0] at this
      cases this
    · exact ⟨none, 0, rfl, own_nilM _ _, hb1⟩

/-- What is known of a region (RJ). -/
def mi4 (ct : List Int) (xs : List ItT) (am : Option Addr) (nn cm : Nat) (a : Option Addr) (n c : Nat) (av : Option Addr) (cv : Nat) (bo : Bool) (l : List Int) (L G B : Nat) : RSpec where
  m := 12
  n := 13
  slots := [12, 13, 14, 15, 16, 17, 18, 19, 20, 21, 2, 3, 100012]
  kills := [[], [], [], [], [], [], [], [], [], [], [], [], []]
  pres := [[], [], [], [], [], [], [], [], [], [], [], [], []]
  fact := fun k v w => match k with
    | 0 => v = .slice av (pcN nn) cv
    | 1 => ∃ ao co, v = .agg #[.int .i64 0, .int .i64 17, .bool true, .slice none 0 0, .slice ao (pcN nn) co] ∧ ListZ L B 2 w ao (pcN nn) ((List.range (pcN nn)).map (pcI ct nn))
    | 2 => v = .pointer (some ⟨G, 1, none⟩)
    | 3 => v = .slice a n c
    | 4 => ∃ ap cp, v = .agg #[.int .i64 0, .int .i64 17, .bool true, .slice none 0 0, .slice ap n cp] ∧ ListZ L B 5 w ap n (xs.map sgI1)
    | 5 => ∃ gr, v = .slice (some ⟨gr, 0, none⟩) 2 2 ∧ KidZ L B w gr 6 [lstI ((List.range (pcN nn)).map (pcI ct nn)), lstI (xs.map sgI1)]
    | 6 => ∃ gr, v = .agg #[.int .i64 1, .int .i64 10, .bool true, .slice none 0 0, .slice (some ⟨gr, 0, none⟩) 2 2] ∧ KidZ L B w gr 6 [lstI ((List.range (pcN nn)).map (pcI ct nn)), lstI (xs.map sgI1)]
    | 7 => ∃ a4 c4, v = .tuple #[.slice a4 l.length c4, .bool bo] ∧ Own B w a4 l.length c4 l
    | 8 => ∃ a4 c4, v = .slice a4 l.length c4 ∧ Own B w a4 l.length c4 l
    | 9 => v = .bool bo
    | 10 => ∃ a4 c4, v = .slice a4 l.length c4 ∧ Own B w a4 l.length c4 l
    | 11 => v = .bool bo
    | _ => w.heap[G]? = some (.cells #[.slice am nn cm, .slice a n c] 31 (0, 0))
set_option linter.unusedVariables false in
theorem mi4_stb (ct : List Int) (xs : List ItT) (am : Option Addr) (nn cm : Nat) (a : Option Addr) (n c : Nat) (av : Option Addr) (cv : Nat) (bo : Bool) (l : List Int) (L G B : Nat) (k : Nat) (hk : k < 13) : StB ((mi4 ct xs am nn cm a n c av cv bo l L G (B)).fact k) := by
  match k, hk with
  | 0, _ => exact fun _ _ _ h _ => h
  | 1, _ => exact fun _ _ _ ⟨ao, co, hv, q_0⟩ hb => ⟨ao, co, hv, q_0.kept hb⟩
  | 2, _ => exact fun _ _ _ h _ => h
  | 3, _ => exact fun _ _ _ h _ => h
  | 4, _ => exact fun _ _ _ ⟨ap, cp, hv, q_0⟩ hb => ⟨ap, cp, hv, q_0.kept hb⟩
  | 5, _ => exact fun _ _ _ ⟨gr, hv, q_0⟩ hb => ⟨gr, hv, q_0.kept hb⟩
  | 6, _ => exact fun _ _ _ ⟨gr, hv, q_0⟩ hb => ⟨gr, hv, q_0.kept hb⟩
  | 7, _ => exact fun _ _ _ ⟨a4, c4, hv, q_0⟩ hb => ⟨a4, c4, hv, q_0.kept hb⟩
  | 8, _ => exact fun _ _ _ ⟨a4, c4, hv, q_0⟩ hb => ⟨a4, c4, hv, q_0.kept hb⟩
  | 9, _ => exact fun _ _ _ h _ => h
  | 10, _ => exact fun _ _ _ ⟨a4, c4, hv, q_0⟩ hb => ⟨a4, c4, hv, q_0.kept hb⟩
  | 11, _ => exact fun _ _ _ h _ => h
  | 12, _ => exact fun _ _ _ q_0 hb => below_kept q_0 hb
  | k + 13, hk => omega

set_option maxRecDepth 10000 in
set_option maxHeartbeats 4000000 in
theorem implMsgBytes_any (D : Nat) (ct : List Int) (xs : List ItT) (am : Option Addr) (nn cm : Nat) (a : Option Addr) (n c : Nat) (bo : Bool) (l : List Int) (w : World) (hr : Row w am nn ct) (hcm : nn ≤ cm) (hnn : nn ≤ 9223372036854775807) (hk : KidsT D w a n xs) (hf : MbR ct nn xs bo l) :
    Calls Try.prog 7 #[.agg #[.slice am nn cm, .slice a n c]] w fun r w' => ∃ a' c', r = .returned (.tuple #[.slice a' l.length c', .bool bo]) ∧ Own w.heap.size w' a' l.length c' l ∧ Below w.heap.size w w' := by
  obtain ⟨w1, hw1⟩ : ∃ w1, w1 = w.alloc (.cells #[.slice am nn cm, .slice a n c] 31) := ⟨_, rfl⟩
  have hbb : Below w.heap.size w w1 := by rw [hw1]; exact (Below.refl _ _).alloc (Nat.le_refl _) _
  have HB1 : Hid (w1.heap[w.heap.size]? = some (.cells #[.slice am nn cm, .slice a n c] 31 (0, 0))) := by show _ = _; rw [hw1]; exact heap_alloc_new w _
  have HR : Hid (Row w am nn ct) := hr
  have HK : Hid (KidsT D w a n xs) := hk
  have HW : Hid (_ = _) := hw1
  clear hw1 hr hk
  obtain ⟨x0, x1⟩ := cells2m HB1.out
  go_enter Try.func7, Try.ntmps7
  go_upto_region 1 with fail
  rw [← HW.out]
  clear HW
  go_wp2_with fail
  refine (isRight_any D am nn cm a n c xs _ hnn (HK.out.kept hbb)).mono ?_
  rintro r w2 ⟨b2, rfl, hb2, hbel⟩
  have B2 : Below w.heap.size w w2 := keepT hbb hbel
  have HB2 : Hid (w2.heap[w.heap.size]? = some (.cells #[.slice am nn cm, .slice a n c] 31 (0, 0))) := below_kept HB1.out hbel
  clear hbel x0 x1
  rcases hf with ⟨hP, hE⟩ | ⟨hP, rfl, rfl⟩
  · obtain rfl : b2 = true := hb2.out.2 hP
    have HE : Hid (EnA (enc 12 (msI ct nn xs)) bo l) := hE
    have HP : Hid (msgP nn xs) := hP
    have hn4 : nn ≤ 4000 := hP.1
    clear hb2 hP hE
    obtain ⟨b, off, ha⟩ : ∃ b off, am = some ⟨b, off, none⟩ ∨ nn = 0 := by
      by_cases hz : nn = 0
      · exact ⟨0, 0, .inr hz⟩
      · obtain ⟨b, off, ha, _⟩ := HR.out.get 0 (by omega)
        exact ⟨b, off, .inl ha⟩
    have HCT : Hid (0 < nn → Row w (some ⟨b, off, none⟩) nn ct) := fun h0 => by have := HR.out; rw [ha.resolve_right (by omega)] at this; exact this
    have HA : Hid (am = some ⟨b, off, none⟩ ∨ nn = 0) := ha
    clear ha
    obtain ⟨x0, x1⟩ := cells2m HB2.out
    go_wp2_with fail
    refine (chunk_any am nn cm _).mono ?_
    rintro r wc ⟨rfl, hwc⟩
    have hbc : Below w2.heap.size w2 wc := by rw [hwc]; exact ((Below.refl _ _).alloc (Nat.le_refl _) _).alloc (by simp) _
    have hsc : wc.heap.size = w2.heap.size + 2 := by rw [hwc]; simp
    have HCC : Hid (wc.cell? ⟨w2.heap.size, 0, none⟩ = some (.slice am nn cm) ∧ wc.cell? ⟨w2.heap.size + 1, 0, none⟩ = some (.int .i64 64)) := by
      have := two_blocks w2 (.cells #[.slice am nn cm] 22) (.cells #[.int .i64 64] 3)
      rw [← hwc] at this
      exact ⟨(cell_of_row _ _ 0 _ _ (0, 0) this.1).trans rfl, (cell_of_row _ _ 0 _ _ (0, 0) this.2).trans rfl⟩
    clear hwc x0 x1
    go_wp2_with fail
    refine (collect_any w2.heap.size (w2.heap.size + 1) b off nn cm am HA.out hn4 hcm wc (by omega) (by omega) HCC.out.1 HCC.out.2).mono ?_
    rintro r w3 ⟨v, rfl, hv, hb3⟩
    obtain ⟨av, cv, rfl, hpc⟩ := rowPc_of hv
    have k3 : Below w2.heap.size w2 w3 := keepT hbc hb3
    have B3 : Below w.heap.size w w3 := keepT B2 k3
    have HB3 : Hid (w3.heap[w.heap.size]? = some (.cells #[.slice am nn cm, .slice a n c] 31 (0, 0))) := below_kept HB2.out k3
    have HL1 : Hid (∀ W, Below w3.heap.size w3 W → Calls Try.prog 25 #[.slice av (pcN nn) cv, .func (Fn.func 26) #[] #[]] W fun e w' => ∃ ao co, e = .returned (.agg #[.int .i64 0, .int .i64 17, .bool true, .slice none 0 0, .slice ao (pcN nn) co]) ∧ ListZ w.heap.size W.heap.size 2 w' ao (pcN nn) ((List.range (pcN nn)).map (pcI ct nn)) ∧ Below W.heap.size W w') := fun W hW => listItemPc_any w b off nn ct HCT.out hn4 av cv W (keepT B3 hW) (hpc.kept hW)
    have HL2 : Hid (∀ W, Below w3.heap.size w3 W → Calls Try.prog 27 #[.slice a n c, .func (Fn.func 28) #[] #[]] W fun e w' => ∃ ao co, e = .returned (.agg #[.int .i64 0, .int .i64 17, .bool true, .slice none 0 0, .slice ao n co]) ∧ ListZ w.heap.size W.heap.size 5 w' ao n (xs.map sgI1) ∧ Below W.heap.size W w') := fun W hW => listItemSg_any D w a n c xs HK.out HP.out.2 W (keepT B3 hW)
    have HIB : Hid (∀ (gr : Nat) (W : World), KidZ w.heap.size w3.heap.size W gr 6 [lstI ((List.range (pcN nn)).map (pcI ct nn)), lstI (xs.map sgI1)] → Calls Try.prog 23 #[.agg #[.int .i64 1, .int .i64 10, .bool true, .slice none 0 0, .slice (some ⟨gr, 0, none⟩) 2 2]] W fun e w' => ∃ a' c', e = .returned (.tuple #[.slice a' l.length c', .bool bo]) ∧ Own W.heap.size w' a' l.length c' l ∧ Below W.heap.size W w') := fun gr W h => itemBytes_un 6 10 (some ⟨gr, 0, none⟩) 2 2 [lstI ((List.range (pcN nn)).map (pcI ct nn)), lstI (xs.map sgI1)] bo l W h.kidsZ HE.out
    have HBB : w3.heap.size ≤ w3.heap.size := Nat.le_refl _
    clear hv hpc hb3 hbc HCC HCT HA HR HP HE
    go_upto_region 4 with fail
    refine wp_region_ri (mi4 ct xs am nn cm a n c av cv bo l w.heap.size w.heap.size (w3.heap.size)) [2, 3, 12, 13, 14, 15, 16, 17, 18, 19, 20, 21] (w3.heap.size) (fun a0 => a0.tmps.size = 22 ∧ aT a0 1 = .pointer (some ⟨w.heap.size, 0, none⟩) ∧ aT a0 4 = .slice av (pcN nn) cv) (by kernel_rfl) rfl (by kernel_rfl) rfl ⟨rfl, rfl, rfl⟩ (mi4_stb ct xs am nn cm a n c av cv bo l w.heap.size w.heap.size (w3.heap.size)) ?_ ?_ ?_
    · intro k hk hk2
      match k, hk, hk2 with
      | 12, _, _ => exact HB3.out
      | 0, hk, _ => exact absurd hk (by show ¬ (12 ≤ 0); omega)
      | 1, hk, _ => exact absurd hk (by show ¬ (12 ≤ 1); omega)
      | 2, hk, _ => exact absurd hk (by show ¬ (12 ≤ 2); omega)
      | 3, hk, _ => exact absurd hk (by show ¬ (12 ≤ 3); omega)
      | 4, hk, _ => exact absurd hk (by show ¬ (12 ≤ 4); omega)
      | 5, hk, _ => exact absurd hk (by show ¬ (12 ≤ 5); omega)
      | 6, hk, _ => exact absurd hk (by show ¬ (12 ≤ 6); omega)
      | 7, hk, _ => exact absurd hk (by show ¬ (12 ≤ 7); omega)
      | 8, hk, _ => exact absurd hk (by show ¬ (12 ≤ 8); omega)
      | 9, hk, _ => exact absurd hk (by show ¬ (12 ≤ 9); omega)
      | 10, hk, _ => exact absurd hk (by show ¬ (12 ≤ 10); omega)
      | 11, hk, _ => exact absurd hk (by show ¬ (12 ≤ 11); omega)
      | k + 13, _, hk2 => exact absurd hk2 (by show ¬ (k + 13 < 13); omega)
    · rintro a0 ⟨hz, g1, g4⟩
      refine StepsRI.cons ?_ (StepsRI.cons ?_ (StepsRI.cons ?_ (StepsRI.cons ?_ (StepsRI.cons ?_ (StepsRI.cons ?_ (StepsRI.cons ?_ (StepsRI.cons ?_ (StepsRI.cons ?_ (StepsRI.cons ?_ (StepsRI.cons ?_ (StepsRI.cons ?_ (StepsRI.nil))))))))))))
      · intro lQ b W hI hUN hED KQ hKQ
        exact opw_move 4 rfl (hKQ.out _ _ (hI.put 0 12 rfl rfl (by rw [hz]; decide) rfl hUN rfl HBB (mi4_stb ct xs am nn cm a n c av cv bo l w.heap.size w.heap.size (w3.heap.size)) (Below.refl _ _) ((hI.fr.same 4 (by decide)).trans g4)))
      · intro lQ b W hI hUN hED KQ hKQ
        have f0 : aT b 12 = .slice av (pcN nn) cv := hI.got 0 (of_decide_eq_true rfl) (edge hED 0 (by kernel_rfl)) rfl
        refine opw_call 25 #[.tmp 12, .func 26] _ _ _ rfl Try.func25 (by kernel_rfl) rfl #[.slice av (pcN nn) cv, .func (Fn.func 26) #[] #[]] (by simp [ev, f0]; rfl) ?_
        refine (HL1.out W hI.bel).mono ?_
        rintro r W2 ⟨ao, co, rfl, hk, hb⟩
        exact ⟨_, rfl, hKQ.out _ _ (hI.put 1 13 rfl rfl (by rw [hz]; decide) rfl hUN rfl HBB (mi4_stb ct xs am nn cm a n c av cv bo l w.heap.size w.heap.size (w3.heap.size)) hb ⟨ao, co, rfl, hk.mono hI.bel.size⟩)⟩
      · intro lQ b W hI hUN hED KQ hKQ
        exact opw_field 31 1 1 rfl _ ((hI.fr.same 1 (by decide)).trans g1) _ (by kernel_rfl) (hKQ.out _ _ (hI.put 2 14 rfl rfl (by rw [hz]; decide) rfl hUN rfl HBB (mi4_stb ct xs am nn cm a n c av cv bo l w.heap.size w.heap.size (w3.heap.size)) (Below.refl _ _) rfl))
      · intro lQ b W hI hUN hED KQ hKQ
        have f := hI.got 2 (of_decide_eq_true rfl) (edge hED 2 (by kernel_rfl)) rfl
        have hg := (hI.vot 12 (of_decide_eq_true rfl) (of_decide_eq_true rfl) rfl)
        have hc : W.cell? ⟨w.heap.size, 1, none⟩ = some (.slice a n c) := (cell_of_row _ _ 1 _ _ (0, 0) hg).trans rfl
        exact opw_load1 29 14 rfl _ f _ (by simp [Instr.loadAt, go_sem, hc]) (hKQ.out _ _ (hI.put 3 15 rfl rfl (by rw [hz]; decide) rfl hUN rfl HBB (mi4_stb ct xs am nn cm a n c av cv bo l w.heap.size w.heap.size (w3.heap.size)) (Below.refl _ _) rfl))
      · intro lQ b W hI hUN hED KQ hKQ
        have f0 : aT b 15 = .slice a n c := hI.got 3 (of_decide_eq_true rfl) (edge hED 3 (by kernel_rfl)) rfl
        refine opw_call 27 #[.tmp 15, .func 28] _ _ _ rfl Try.func27 (by kernel_rfl) rfl #[.slice a n c, .func (Fn.func 28) #[] #[]] (by simp [ev, f0]; rfl) ?_
        refine (HL2.out W hI.bel).mono ?_
        rintro r W2 ⟨ap, cp, rfl, hk, hb⟩
        exact ⟨_, rfl, hKQ.out _ _ (hI.put 4 16 rfl rfl (by rw [hz]; decide) rfl hUN rfl HBB (mi4_stb ct xs am nn cm a n c av cv bo l w.heap.size w.heap.size (w3.heap.size)) hb ⟨ap, cp, rfl, hk.mono hI.bel.size⟩)⟩
      · intro lQ b W hI hUN hED KQ hKQ
        obtain ⟨ao, co, f0, o0⟩ := hI.got 1 (of_decide_eq_true rfl) (edge hED 1 (by kernel_rfl)) rfl
        obtain ⟨ap, cp, f1, o1⟩ := hI.got 4 (of_decide_eq_true rfl) (edge hED 4 (by kernel_rfl)) rfl
        replace f0 : aT b 13 = .agg #[.int .i64 0, .int .i64 17, .bool true, .slice none 0 0, .slice ao (pcN nn) co] := f0
        replace f1 : aT b 16 = .agg #[.int .i64 0, .int .i64 17, .bool true, .slice none 0 0, .slice ap n cp] := f1
        refine opw_buildSliceT _ 2 _ rfl #[(0, .agg #[.int .i64 0, .int .i64 17, .bool true, .slice none 0 0, .slice ao (pcN nn) co]), (1, .agg #[.int .i64 0, .int .i64 17, .bool true, .slice none 0 0, .slice ap n cp])] (by simp [ev, f0, f1]) (.slice (some ⟨W.heap.size, 0, none⟩) 2 2) (W.alloc (.cells #[.int .i64 0, .int .i64 17, .bool true, .slice none 0 0, .slice ao (pcN nn) co, .int .i64 0, .int .i64 17, .bool true, .slice none 0 0, .slice ap n cp] 43)) (by kernel_rfl) ?_
        exact hKQ.out _ _ (hI.put 5 17 rfl rfl (by rw [hz]; decide) rfl hUN rfl HBB (mi4_stb ct xs am nn cm a n c av cv bo l w.heap.size w.heap.size (w3.heap.size)) ((Below.refl _ _).alloc (Nat.le_refl _) _) ⟨W.heap.size, rfl, kidZ_n2 hI.bel.size o0.itz.more.more.more o1.itz⟩)
      · intro lQ b W hI hUN hED KQ hKQ
        have f1 := hI.got 5 (of_decide_eq_true rfl) (edge hED 5 (by kernel_rfl)) rfl
        obtain ⟨gr, f1, o1_0⟩ := f1
        replace f1 : aT b 17 = .slice (some ⟨gr, 0, none⟩) 2 2 := f1
        refine opw_call 24 #[.const (.int .i64 10), .tmp 17] _ _ _ rfl Try.func24 (by kernel_rfl) rfl #[.int .i64 10, .slice (some ⟨gr, 0, none⟩) 2 2] (by simp [ev, evc, f1]) ?_
        refine (ownItem_agg 10 (some ⟨gr, 0, none⟩) 2 2 W).mono ?_
        rintro e W2 ⟨rfl, hb⟩
        exact ⟨_, rfl, hKQ.out _ _ (hI.put 6 18 rfl rfl (by rw [hz]; decide) rfl hUN rfl HBB (mi4_stb ct xs am nn cm a n c av cv bo l w.heap.size w.heap.size (w3.heap.size)) hb ⟨gr, rfl, o1_0.kept hb⟩)⟩
      · intro lQ b W hI hUN hED KQ hKQ
        obtain ⟨gr, f0, o0⟩ := hI.got 6 (of_decide_eq_true rfl) (edge hED 6 (by kernel_rfl)) rfl
        replace f0 : aT b 18 = .agg #[.int .i64 1, .int .i64 10, .bool true, .slice none 0 0, .slice (some ⟨gr, 0, none⟩) 2 2] := f0
        refine opw_call 23 #[.tmp 18] _ _ _ rfl Try.func23 (by kernel_rfl) rfl #[.agg #[.int .i64 1, .int .i64 10, .bool true, .slice none 0 0, .slice (some ⟨gr, 0, none⟩) 2 2]] (by simp [ev, f0]) ?_
        refine (HIB.out gr W o0).mono ?_
        rintro r W2 ⟨a4, c4, rfl, ho, hb⟩
        exact ⟨_, rfl, hKQ.out _ _ (hI.put 7 19 rfl rfl (by rw [hz]; decide) rfl hUN rfl HBB (mi4_stb ct xs am nn cm a n c av cv bo l w.heap.size w.heap.size (w3.heap.size)) hb ⟨a4, c4, rfl, ho.mono hI.bel.size⟩)⟩
      · intro lQ b W hI hUN hED KQ hKQ
        have f := hI.got 7 (of_decide_eq_true rfl) (edge hED 7 (by kernel_rfl)) rfl
        obtain ⟨a4, c4, f, o_0⟩ := f
        exact opw_extract 19 0 rfl _ _ f rfl (hKQ.out _ _ (hI.put 8 20 rfl rfl (by rw [hz]; decide) rfl hUN rfl HBB (mi4_stb ct xs am nn cm a n c av cv bo l w.heap.size w.heap.size (w3.heap.size)) (Below.refl _ _) ⟨a4, c4, rfl, o_0⟩))
      · intro lQ b W hI hUN hED KQ hKQ
        have f := hI.got 7 (of_decide_eq_true rfl) (edge hED 7 (by kernel_rfl)) rfl
        obtain ⟨a4, c4, f, o_0⟩ := f
        exact opw_extract 19 1 rfl _ _ f rfl (hKQ.out _ _ (hI.put 9 21 rfl rfl (by rw [hz]; decide) rfl hUN rfl HBB (mi4_stb ct xs am nn cm a n c av cv bo l w.heap.size w.heap.size (w3.heap.size)) (Below.refl _ _) rfl))
      · intro lQ b W hI hUN hED KQ hKQ
        have f := hI.got 8 (of_decide_eq_true rfl) (edge hED 8 (by kernel_rfl)) rfl
        exact opw_assign 20 rfl (hKQ.out _ _ (hI.put 10 2 rfl rfl (by rw [hz]; decide) rfl hUN rfl HBB (mi4_stb ct xs am nn cm a n c av cv bo l w.heap.size w.heap.size (w3.heap.size)) (Below.refl _ _) f))
      · intro lQ b W hI hUN hED KQ hKQ
        have f := hI.got 9 (of_decide_eq_true rfl) (edge hED 9 (by kernel_rfl)) rfl
        exact opw_assign 21 rfl (hKQ.out _ _ (hI.put 11 3 rfl rfl (by rw [hz]; decide) rfl hUN rfl HBB (mi4_stb ct xs am nn cm a n c av cv bo l w.heap.size w.heap.size (w3.heap.size)) (Below.refl _ _) f))
    · intro b W hf hb F
      obtain ⟨a4, c4, e2, ho⟩ := F 10 (of_decide_eq_true rfl) rfl
      have e3 := F 11 (of_decide_eq_true rfl) rfl
      try obtain ⟨_, _, e3, _⟩ := e3
      replace e2 : aT b 2 = _ := e2
      replace e3 : aT b 3 = _ := e3
      rw [hf.eq]
      simp only [puts, Act.put, List.setIfInBounds_toArray, List.set_cons_zero, List.set_cons_succ, e2, e3]
      clear hf F e2 e3
      generalize aT b = AT
      clear b
      have HO : Hid (Own w.heap.size W a4 l.length c4 l) := ho.mono B3.size
      have hbW : Below w.heap.size w W := keepT B3 hb
      clear ho
      go_wp2
      go_ret2
      exact ⟨a4, c4, rfl, HO.out, hbW⟩
  · obtain rfl : b2 = false := by
      cases b2 with
      | false => rfl
      | true => exact absurd (hb2.out.1 rfl) hP
    clear hb2 hP
    go_wp2
    go_ret2
    exact ⟨none, 0, rfl, own_nilM _ _, B2⟩

end Go.Proofs.Ytlcojjcgaibbiaa
