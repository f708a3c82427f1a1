import Derived.Test.YtlcojjcgaibbiaaMS1
import Derived.Test.YtlcojjcgaibbiaaMI3
import Derived.Test.YtlcojjcgaibbiaaIT5
set_option linter.unusedVariables false
namespace Go.Proofs.Ytlcojjcgaibbiaa
open Go.RowKit Go.Sort

theorem two_belowN (w : World) (o0 o1 : Obj) : Below w.heap.size w ((w.alloc o0).alloc o1) := ((Below.refl _ _).alloc (Nat.le_refl _) _).alloc (by simp) _
/-- What is known of a region (RJ). -/
def ms6 (ct : List Int) (xs : List ItT) (am : Option Addr) (nn cm : Nat) (a : Option Addr) (n c : Nat) (ao : Option Addr) (cc : Nat) (R G B : Nat) : RSpec where
  m := 8
  n := 11
  slots := [31, 32, 33, 34, 35, 36, 37, 100007, 100008, 100009, 100010]
  kills := [[], [], [], [], [], [], [], [], [], [7], []]
  pres := [[], [], [], [], [], [], [], [], [], [], []]
  fact := fun k v w => match k with
    | 0 => v = .slice ao (pcN nn) cc
    | 1 => v = .agg #[.int .i64 0, .int .i64 17, .bool true, .slice none 0 0, .slice ao (pcN nn) cc]
    | 2 => v = .pointer (some ⟨G, 1, none⟩)
    | 3 => v = .slice a n c
    | 4 => ∃ ap cp, v = .agg #[.int .i64 0, .int .i64 17, .bool true, .slice none 0 0, .slice ap n cp] ∧ ListH R 7 w ap n (xs.map sgI1) ∧ G + 1 < R
    | 5 => ∃ gr, v = .slice (some ⟨gr, 0, none⟩) 2 2 ∧ KidG R w gr 8 [lstI ((List.range (pcN nn)).map (pcI ct nn)), lstI (xs.map sgI1)] ∧ G + 1 < R
    | 6 => ∃ gr, v = .agg #[.int .i64 1, .int .i64 10, .bool true, .slice none 0 0, .slice (some ⟨gr, 0, none⟩) 2 2] ∧ KidG R w gr 8 [lstI ((List.range (pcN nn)).map (pcI ct nn)), lstI (xs.map sgI1)] ∧ G + 1 < R
    | 7 => ∃ gr, w.heap[(G + 1)]? = some (.cells #[.int .i64 1, .int .i64 10, .bool true, .slice none 0 0, .slice (some ⟨gr, 0, none⟩) 2 2] 43 (0, 0)) ∧ KidG R w gr 8 [lstI ((List.range (pcN nn)).map (pcI ct nn)), lstI (xs.map sgI1)] ∧ G + 1 < R
    | 8 => w.heap[G]? = some (.cells #[.slice am nn cm, .slice a n c] 31 (0, 0))
    | 9 => w.heap[(G + 1)]? = some (.cells #[.int .i64 0, .int .i64 0, .bool false, .slice none 0 0, .slice none 0 0] 43 (0, 0))
    | _ => ListH R 2 w ao (pcN nn) ((List.range (pcN nn)).map (pcI ct nn)) ∧ G + 1 < R
set_option linter.unusedVariables false in
theorem ms6_stb (ct : List Int) (xs : List ItT) (am : Option Addr) (nn cm : Nat) (a : Option Addr) (n c : Nat) (ao : Option Addr) (cc : Nat) (R G B : Nat) (k : Nat) (hk : k < 11) : StB ((ms6 ct xs am nn cm a n c ao cc R G (B)).fact k) := by
  match k, hk with
  | 0, _ => exact fun _ _ _ h _ => h
  | 1, _ => exact fun _ _ _ h _ => h
  | 2, _ => exact fun _ _ _ h _ => h
  | 3, _ => exact fun _ _ _ h _ => h
  | 4, _ => exact fun _ _ _ ⟨ap, cp, hv, q_0, q_1⟩ hb => ⟨ap, cp, hv, q_0.kept hb, q_1⟩
  | 5, _ => exact fun _ _ _ ⟨gr, hv, q_0, q_1⟩ hb => ⟨gr, hv, q_0.kept hb, q_1⟩
  | 6, _ => exact fun _ _ _ ⟨gr, hv, q_0, q_1⟩ hb => ⟨gr, hv, q_0.kept hb, q_1⟩
  | 7, _ => exact fun _ _ _ ⟨gr, q_0, q_1, q_2⟩ hb => ⟨gr, below_kept q_0 hb, q_1.kept hb, q_2⟩
  | 8, _ => exact fun _ _ _ q_0 hb => below_kept q_0 hb
  | 9, _ => exact fun _ _ _ q_0 hb => below_kept q_0 hb
  | 10, _ => exact fun _ _ _ ⟨q_0, q_1⟩ hb => ⟨q_0.kept hb, q_1⟩
  | k + 11, hk => omega
set_option linter.unusedVariables false in
theorem ms6_st7 (ct : List Int) (xs : List ItT) (am : Option Addr) (nn cm : Nat) (a : Option Addr) (n c : Nat) (ao : Option Addr) (cc : Nat) (R G B : Nat) {W W2 : World} {cs : Array Value} {fr : Nat × Nat} (hg : W.heap[(G + 1)]? = some (.cells cs 43 fr)) (ht : Touch ((G + 1)) ((G + 1) + 1) W W2) (k : Nat) (hk : k < 11) (hne : k ≠ 7) (hkill : 7 ∉ (ms6 ct xs am nn cm a n c ao cc R G (B)).kill k) (v : Value) (hfact : (ms6 ct xs am nn cm a n c ao cc R G (B)).fact k v W) : (ms6 ct xs am nn cm a n c ao cc R G (B)).fact k v W2 := by
  match k, hk, hne, hkill, hfact with
  | 0, _, _, _, hq => exact hq
  | 1, _, _, _, hq => exact hq
  | 2, _, _, _, hq => exact hq
  | 3, _, _, _, hq => exact hq
  | 4, _, _, _, ⟨ap, cp, hv, q_0, q_1⟩ => exact ⟨ap, cp, hv, q_0.touched ht (by omega), q_1⟩
  | 5, _, _, _, ⟨gr, hv, q_0, q_1⟩ => exact ⟨gr, hv, q_0.touched ht (by omega), q_1⟩
  | 6, _, _, _, ⟨gr, hv, q_0, q_1⟩ => exact ⟨gr, hv, q_0.touched ht (by omega), q_1⟩
  | 7, _, hne, _, _ => exact absurd rfl hne
  | 8, _, _, _, q_0 => exact box_box q_0 hg (by decide) ht
  | 9, _, _, hkill, _ => exact absurd (List.Mem.head _) hkill
  | 10, _, _, _, ⟨q_0, q_1⟩ => exact ⟨q_0.touched ht (by omega), q_1⟩
  | k + 11, hk, _, _, _ => omega

set_option maxRecDepth 10000 in
set_option maxHeartbeats 4000000 in
theorem l17Item_any (D : Nat) (ct : List Int) (xs : List ItT) (am : Option Addr) (nn cm : Nat) (a : Option Addr) (n c : Nat) (w : World) (hr : Row w am nn ct) (hcm : nn ≤ cm) (hn4 : nn ≤ 4000) (hk : KidsT D w a n xs) (hok : okS 2 xs) :
    Calls Try.prog 17 #[.agg #[.slice am nn cm, .slice a n c], .int .i64 64] w fun e w' => ∃ gr, e = .returned (.agg #[.int .i64 1, .int .i64 10, .bool true, .slice none 0 0, .slice (some ⟨gr, 0, none⟩) 2 2]) ∧ KidG w.heap.size w' gr 8 [lstI ((List.range (pcN nn)).map (pcI ct nn)), lstI (xs.map sgI1)] ∧ Below w.heap.size w w' := by
  obtain ⟨i0, hi, hz0, hz1, hz2⟩ := info_parts Try.infoIt
  obtain ⟨w1, hw1⟩ : ∃ w1, w1 = (w.alloc (.cells #[.slice am nn cm, .slice a n c] 31)).alloc (.cells #[.int .i64 0, .int .i64 0, .bool false, .slice none 0 0, .slice none 0 0] 43) := ⟨_, rfl⟩
  have hbb : Below w.heap.size w w1 := by rw [hw1]; exact two_belowN w _ _
  have HB1 : Hid (_ ∧ _) := two_blocks w (.cells #[.slice am nn cm, .slice a n c] 31) (.cells #[.int .i64 0, .int .i64 0, .bool false, .slice none 0 0, .slice none 0 0] 43)
  rw [← hw1] at HB1
  have HGB : w.heap.size + 1 < w1.heap.size := by rw [hw1]; simp
  have HR : Hid (Row w am nn ct) := hr
  have HK : Hid (KidsT D w a n xs) := hk
  have HOK : Hid (okS 2 xs) := hok
  have HW : Hid (_ = _) := hw1
  clear hw1 hr hk hok
  have x0 : w1.cell? ⟨w.heap.size, 0, none⟩ = some (.slice am nn cm) := (cell_of_row _ _ 0 _ _ (0, 0) HB1.out.1).trans rfl
  have hbE : Below w1.heap.size w1 (w1.alloc (.cells #[] 43)) := (Below.refl _ _).alloc (Nat.le_refl _) _
  have HO0 : Hid (OwnItR 1 w1.heap.size (w1.alloc (.cells #[] 43)) (some ⟨w1.heap.size, 0, none⟩) 0 0 ((List.range 0).map (pcI ct nn))) := ownItR_empty 1 w1
  go_enter Try.func17, Try.ntmps17
  go_upto_region 1 with fail
  rw [← HW.out]
  clear HW
  go_wp2
  clear x0
  go_loopw [5, 6] (fun o i wr => ∃ (k : Nat) (ao : Option Addr) (cc : Nat), k ≤ pcN nn ∧ i = .int .i64 (64 * k : Nat) ∧ o = .slice ao k cc ∧ Hid (OwnItR 1 w1.heap.size wr ao k cc ((List.range k).map (pcI ct nn))) ∧ Below w1.heap.size w1 wr) (fun _ i _ => nn + 64 - (intOf i).toNat)
  case atStart => exact ⟨0, _, 0, Nat.zero_le _, rfl, rfl, HO0, hbE⟩
  case round =>
    obtain ⟨k, ao, cc, hk, rfl, rfl, HO, hbr⟩ := hrel
    have hws := hbr.size
    have HBR : Hid (wr.heap[w.heap.size]? = some (.cells #[.slice am nn cm, .slice a n c] 31 (0, 0)) ∧ wr.heap[w.heap.size + 1]? = some (.cells #[.int .i64 0, .int .i64 0, .bool false, .slice none 0 0, .slice none 0 0] 43 (0, 0))) := ⟨below_kept HB1.out.1 hbr, below_kept HB1.out.2 hbr⟩
    have x0 : wr.cell? ⟨w.heap.size, 0, none⟩ = some (.slice am nn cm) := (cell_of_row _ _ 0 _ _ (0, 0) HBR.out.1).trans rfl
    have hwr : Below w.heap.size w wr := keepT hbb hbr
    have hk63 : k ≤ 63 := Nat.le_trans hk (pcN_le hn4)
    by_cases hlt : 64 * k < nn
    · have hkp : k < pcN nn := by unfold pcN; omega
      obtain ⟨b, off, ha, hlb, _⟩ := HR.out.get 0 (by omega)
      subst ha
      have hpl := pcL_le hkp
      obtain ⟨p, hp⟩ : ∃ p, p = pcL nn k := ⟨_, rfl⟩
      rw [← hp] at hpl
      have hmin : (if (nn : Int) < 64 * (k : Int) + 64 then (nn : Int) else 64 * (k : Int) + 64) = 64 * (k : Int) + (p : Int) := by
        rw [hp]; unfold pcL
        by_cases h : 64 ≤ nn - 64 * k
        · rw [if_neg (by omega), if_pos h]; rfl
        · rw [if_pos (by omega), if_neg h]; omega
      have hsub : 64 * k + p - 64 * k = p := by omega
      have HRP : Hid (∀ W, Below w.heap.size w W → Row W (some ⟨b, off + 64 * k, none⟩) p (pcB ct nn k)) := fun W hW => by
        have := (HR.out.kept hW).sub (64 * k) p hpl.1
        unfold pcB
        rw [← hp]
        exact this
      have hlti : (64 : Int) * (k : Int) < (nn : Int) := by omega
      have hq1 : 64 * (k : Int) + (p : Int) ≤ (nn : Int) := by omega
      clear hp
      go_wp2_with fail
      try rw [hsub]
      refine (l9Bytes_agg (some ⟨b, off + 64 * k, none⟩) p (cm - 64 * k) (pcB ct nn k) _ (HRP.out _ hwr) (fun e => by cases e) (by omega)).mono ?_
      rintro e w2 ⟨q1, d1, rfl, ho, hb2r⟩
      have B2 : Below w1.heap.size w1 w2 := keepT hbr hb2r
      have hal : Below w2.heap.size w2 (w2.alloc (.cells #[.int .i64 0, .int .i64 4, .bool false, .slice q1 p d1, .slice none 0 0] 43)) := (Below.refl _ _).alloc (Nat.le_refl _) _
      have B6 : Below w1.heap.size w1 (w2.alloc (.cells #[.int .i64 0, .int .i64 4, .bool false, .slice q1 p d1, .slice none 0 0] 43)) := B2.trans (hal.mono B2.size)
      have hs6 : (w2.alloc (.cells #[.int .i64 0, .int .i64 4, .bool false, .slice q1 p d1, .slice none 0 0] 43)).heap.size = w2.heap.size + 1 := by simp
      have hs2 := hb2r.size
      have HQ3 : Hid (OwnItR 1 w1.heap.size (w2.alloc (.cells #[.int .i64 0, .int .i64 4, .bool false, .slice q1 p d1, .slice none 0 0] 43)) ao k cc ((List.range k).map (pcI ct nn))) := (HO.out.kept hb2r).kept hal
      obtain ⟨vs, hrow⟩ := HQ3.out.row
      have HROW : Hid (_) := hrow
      have hown : ∀ b, (Value.slice ao k cc).ownBlock = some b → b < wr.heap.size := fun b hb => by obtain ⟨vs0, hv0⟩ := HO.out.row; exact (hv0.lt b hb).2
      have HAPP : Hid (∀ g7 c7 w7, w7.ownsRow 0 43 5 (.slice (some ⟨g7, 0, none⟩) (k + 1) c7) (k + 1) (vs ++ itc (pcI ct nn k) q1 p d1 none 0 0) → (w2.alloc (.cells #[.int .i64 0, .int .i64 4, .bool false, .slice q1 p d1, .slice none 0 0] 43)).grownBy w7 (Value.slice ao k cc).ownBlock → ((Value.slice ao k cc).ownBlock = some g7 ∨ g7 = w2.heap.size + 1) → OwnItR 1 w1.heap.size w7 (some ⟨g7, 0, none⟩) (k + 1) c7 ((List.range (k + 1)).map (pcI ct nn)) ∧ Below w1.heap.size w1 w7) := by
        intro g7 c7 w7 hv7 hg7 hl7
        rw [pc_next]
        refine ⟨HQ3.out.appended (ab := q1) (nb := p) (cb := d1) (ak := none) (nk := 0) (ck := 0) ((ho.kept hal).itv1 4 (by omega)) (fun q hq => ⟨by have := hq.1; omega, hq.2, fun e => by have := hown q e; have := hq.1; omega⟩) (by omega) HROW.out hv7 hg7 (by rw [hs6]; exact hl7) B6.size, B6.grown hg7 (by have := B6.size; omega) (fun kx hx => HQ3.out.2 kx hx)⟩
      clear x0 hrow HO hb2r B2 hal ho hmin hsub hq1
      go_wp2_with (at_builtin; refine wpList_append_lies _ rfl (.tmp 16) (.tmp 29) 41 rfl 0 43 i0 _ 5 72 Try.underlying41 hi hz0 hz1 hz2 rfl (by decide) _ k vs rfl HROW.out ⟨w2.heap.size, 0, none⟩ 1 1 [.int .i64 0, .int .i64 4, .bool false, .slice q1 p d1, .slice none 0 0] rfl rfl (World.news_of_block (heap_alloc_new w2 (.cells #[.int .i64 0, .int .i64 4, .bool false, .slice q1 p d1, .slice none 0 0] 43))) (by intro u hu; simp only [List.mem_cons, List.not_mem_nil, or_false] at hu; rcases hu with rfl | rfl | rfl | rfl | rfl <;> rfl) (by decide) (by unfold maxLen; omega) (by omega) (Nat.zero_le _) (w2.heap.size + 1) (by simp) ?_; intro g7 c7 w7 hv7 hg7 hl7 hlt7; have HN7 := HAPP.out g7 c7 w7 hv7 hg7 hl7; have HO7 : Hid (_) := HN7.1; have B7 := HN7.2; clear hv7 hg7 hl7 hlt7 HN7 HAPP HQ3 HROW)
      go_roundw
      case rel => exact ⟨k + 1, _, c7, by omega, by go_num, rfl, HO7, B7⟩
      case measure => simp [intOf]; omega
    · obtain rfl : k = pcN nn := by unfold pcN at hk ⊢; omega
      have hge : ¬ ((64 : Int) * ((pcN nn : Nat) : Int) < (nn : Int)) := by omega
      have HLG : Hid (ListH w1.heap.size 2 wr ao (pcN nn) ((List.range (pcN nn)).map (pcI ct nn))) := ⟨HO.out.kids⟩
      have HRW : Hid (w1.heap.size ≤ wr.heap.size) := hws
      have HOV : Hid (∀ W, Below w.heap.size wr W → Calls Try.prog 38 #[.slice a n c] W fun e w' => ∃ ao co, e = .returned (.agg #[.int .i64 0, .int .i64 17, .bool true, .slice none 0 0, .slice ao n co]) ∧ ListH W.heap.size 7 w' ao n (xs.map sgI1) ∧ Below W.heap.size W w') := fun W hW => l17SI_any D a n c xs W (HK.out.kept (hwr.trans hW)) HOK.out
      have HBX : Hid (Below w.heap.size w wr) := hwr
      have HBB : w.heap.size ≤ wr.heap.size := hwr.size
      clear HO HK HOK HR
      go_upto_region 6 with fail
      clear x0
      refine wp_region_ri (ms6 ct xs am nn cm a n c ao cc w1.heap.size w.heap.size (w.heap.size)) [31, 32, 33, 34, 35, 36, 37] (w.heap.size) (fun a0 => a0.tmps.size = 38 ∧ aT a0 2 = .pointer (some ⟨w.heap.size, 0, none⟩) ∧ aT a0 4 = .pointer (some ⟨(w.heap.size + 1), 0, none⟩) ∧ aT a0 5 = .slice ao (pcN nn) cc) (by kernel_rfl) rfl (by kernel_rfl) rfl ⟨rfl, rfl, rfl, rfl⟩ (ms6_stb ct xs am nn cm a n c ao cc w1.heap.size w.heap.size (w.heap.size)) ?_ ?_ ?_
      · intro k hk hk2
        match k, hk, hk2 with
        | 8, _, _ => exact HBR.out.1
        | 9, _, _ => exact HBR.out.2
        | 10, _, _ => exact ⟨HLG.out, HGB⟩
        | 0, hk, _ => exact absurd hk (by show ¬ (8 ≤ 0); omega)
        | 1, hk, _ => exact absurd hk (by show ¬ (8 ≤ 1); omega)
        | 2, hk, _ => exact absurd hk (by show ¬ (8 ≤ 2); omega)
        | 3, hk, _ => exact absurd hk (by show ¬ (8 ≤ 3); omega)
        | 4, hk, _ => exact absurd hk (by show ¬ (8 ≤ 4); omega)
        | 5, hk, _ => exact absurd hk (by show ¬ (8 ≤ 5); omega)
        | 6, hk, _ => exact absurd hk (by show ¬ (8 ≤ 6); omega)
        | 7, hk, _ => exact absurd hk (by show ¬ (8 ≤ 7); omega)
        | k + 11, _, hk2 => exact absurd hk2 (by show ¬ (k + 11 < 11); omega)
      · rintro a0 ⟨hz, g2, g4, g5⟩
        refine StepsRI.cons ?_ (StepsRI.cons ?_ (StepsRI.cons ?_ (StepsRI.cons ?_ (StepsRI.cons ?_ (StepsRI.cons ?_ (StepsRI.cons ?_ (StepsRI.cons ?_ (StepsRI.nil))))))))
        · intro lQ b W hI hUN hED KQ hKQ
          exact opw_move 5 rfl (hKQ.out _ _ (hI.put 0 31 rfl rfl (by rw [hz]; decide) rfl hUN rfl HBB (ms6_stb ct xs am nn cm a n c ao cc w1.heap.size w.heap.size (w.heap.size)) (Below.refl _ _) ((hI.fr.same 5 (by decide)).trans g5)))
        · intro lQ b W hI hUN hED KQ hKQ
          have f0 := hI.got 0 (of_decide_eq_true rfl) (edge hED 0 (by kernel_rfl)) rfl
          replace f0 : aT b 31 = .slice ao (pcN nn) cc := f0
          refine opw_call 37 #[.tmp 31] _ _ _ rfl Try.func37 (by kernel_rfl) rfl #[.slice ao (pcN nn) cc] (by simp [ev, f0]) ?_
          refine (l9List_agg ao (pcN nn) cc W).mono ?_
          rintro e W2 ⟨rfl, hb⟩
          exact ⟨_, rfl, hKQ.out _ _ (hI.put 1 32 rfl rfl (by rw [hz]; decide) rfl hUN rfl HBB (ms6_stb ct xs am nn cm a n c ao cc w1.heap.size w.heap.size (w.heap.size)) hb rfl)⟩
        · intro lQ b W hI hUN hED KQ hKQ
          exact opw_field 31 2 1 rfl _ ((hI.fr.same 2 (by decide)).trans g2) _ (by kernel_rfl) (hKQ.out _ _ (hI.put 2 33 rfl rfl (by rw [hz]; decide) rfl hUN rfl HBB (ms6_stb ct xs am nn cm a n c ao cc w1.heap.size w.heap.size (w.heap.size)) (Below.refl _ _) rfl))
        · intro lQ b W hI hUN hED KQ hKQ
          have f := hI.got 2 (of_decide_eq_true rfl) (edge hED 2 (by kernel_rfl)) rfl
          have hg := (hI.vot 8 (of_decide_eq_true rfl) (of_decide_eq_true rfl) rfl)
          have hc : W.cell? ⟨w.heap.size, 1, none⟩ = some (.slice a n c) := (cell_of_row _ _ 1 _ _ (0, 0) hg).trans rfl
          exact opw_load1 29 33 rfl _ f _ (by simp [Instr.loadAt, go_sem, hc]) (hKQ.out _ _ (hI.put 3 34 rfl rfl (by rw [hz]; decide) rfl hUN rfl HBB (ms6_stb ct xs am nn cm a n c ao cc w1.heap.size w.heap.size (w.heap.size)) (Below.refl _ _) rfl))
        · intro lQ b W hI hUN hED KQ hKQ
          have f0 : aT b 34 = .slice a n c := hI.got 3 (of_decide_eq_true rfl) (edge hED 3 (by kernel_rfl)) rfl
          refine opw_call 38 #[.tmp 34] _ _ _ rfl Try.func38 (by kernel_rfl) rfl #[.slice a n c] (by simp [ev, f0]) ?_
          refine (HOV.out W hI.bel).mono ?_
          rintro r W2 ⟨ap, cp, rfl, hk, hb⟩
          exact ⟨_, rfl, hKQ.out _ _ (hI.put 4 35 rfl rfl (by rw [hz]; decide) rfl hUN rfl HBB (ms6_stb ct xs am nn cm a n c ao cc w1.heap.size w.heap.size (w.heap.size)) hb ⟨ap, cp, rfl, hk.mono (Nat.le_trans HRW.out hI.bel.size), HGB⟩)⟩
        · intro lQ b W hI hUN hED KQ hKQ
          have f0 : aT b 32 = .agg #[.int .i64 0, .int .i64 17, .bool true, .slice none 0 0, .slice ao (pcN nn) cc] := hI.got 1 (of_decide_eq_true rfl) (edge hED 1 (by kernel_rfl)) rfl
          obtain ⟨ap, cp, f1, o1, _⟩ := hI.got 4 (of_decide_eq_true rfl) (edge hED 4 (by kernel_rfl)) rfl
          replace f1 : aT b 35 = .agg #[.int .i64 0, .int .i64 17, .bool true, .slice none 0 0, .slice ap n cp] := f1
          obtain ⟨o0, _⟩ : ListH w1.heap.size 2 W ao (pcN nn) ((List.range (pcN nn)).map (pcI ct nn)) ∧ _ := hI.vot 10 (of_decide_eq_true rfl) (of_decide_eq_true rfl) rfl
          refine opw_buildSliceT _ 2 _ rfl #[(0, .agg #[.int .i64 0, .int .i64 17, .bool true, .slice none 0 0, .slice ao (pcN nn) cc]), (1, .agg #[.int .i64 0, .int .i64 17, .bool true, .slice none 0 0, .slice ap n cp])] (by simp [ev, f0, f1]) (.slice (some ⟨W.heap.size, 0, none⟩) 2 2) (W.alloc (.cells #[.int .i64 0, .int .i64 17, .bool true, .slice none 0 0, .slice ao (pcN nn) cc, .int .i64 0, .int .i64 17, .bool true, .slice none 0 0, .slice ap n cp] 43)) (by kernel_rfl) ?_
          exact hKQ.out _ _ (hI.put 5 36 rfl rfl (by rw [hz]; decide) rfl hUN rfl HBB (ms6_stb ct xs am nn cm a n c ao cc w1.heap.size w.heap.size (w.heap.size)) ((Below.refl _ _).alloc (Nat.le_refl _) _) ⟨W.heap.size, rfl, kidG_n2 (Nat.le_trans HRW.out hI.bel.size) o0.itg.more.more.more.more.more o1.itg, HGB⟩)
        · intro lQ b W hI hUN hED KQ hKQ
          have f2 := hI.got 5 (of_decide_eq_true rfl) (edge hED 5 (by kernel_rfl)) rfl
          obtain ⟨gr, f2, o2_0, o2_1⟩ := f2
          replace f2 : aT b 36 = .slice (some ⟨gr, 0, none⟩) 2 2 := f2
          refine opw_call 36 #[.const (.int .i64 1), .const (.int .i64 10), .tmp 36] _ _ _ rfl Try.func36 (by kernel_rfl) rfl #[.int .i64 1, .int .i64 10, .slice (some ⟨gr, 0, none⟩) 2 2] (by simp [ev, evc, f2]) ?_
          refine (l2BoxC_agg 1 10 (some ⟨gr, 0, none⟩) 2 2 W).mono ?_
          rintro e W2 ⟨rfl, hb⟩
          exact ⟨_, rfl, hKQ.out _ _ (hI.put 6 37 rfl rfl (by rw [hz]; decide) rfl hUN rfl HBB (ms6_stb ct xs am nn cm a n c ao cc w1.heap.size w.heap.size (w.heap.size)) hb ⟨gr, rfl, o2_0.kept hb, HGB⟩)⟩
        · intro lQ b W hI hUN hED KQ hKQ
          have hgb := (hI.vot1 9 7 (of_decide_eq_true rfl) (of_decide_eq_true rfl) hUN rfl)
          have fb := ((hI.fr.same 4 (by decide)).trans g4)
          have f := hI.got 6 (of_decide_eq_true rfl) (edge hED 6 (by kernel_rfl)) rfl
          obtain ⟨gr, f, o_0, o_1⟩ := f
          refine wp_store_row 43 _ _ rfl ((w.heap.size + 1)) #[.int .i64 1, .int .i64 10, .bool true, .slice none 0 0, .slice (some ⟨gr, 0, none⟩) 2 2] fb f 43 _ hgb (by kernel_rfl) rfl (by simp [Value.oneCell']) ?_
          have ht := setRow_touch W ((w.heap.size + 1)) #[.int .i64 1, .int .i64 10, .bool true, .slice none 0 0, .slice (some ⟨gr, 0, none⟩) 2 2]
          exact hKQ.out _ _ (hI.store 7 (fun j hj => by cases hj) (hI.bel.trans (ht.below (by first | exact HGE4 | omega) (Nat.le_trans HBB hI.bel.size))) (ms6_st7 ct xs am nn cm a n c ao cc w1.heap.size w.heap.size (w.heap.size) hgb ht) ⟨gr, (setRow_heap W ((w.heap.size + 1)) _ _ _ _ hgb), o_0.touched ht (by omega), o_1⟩)
      · intro b W hf hb F
        obtain ⟨gr, hbx, hk, _⟩ := F 7 (of_decide_eq_true rfl) rfl
        rw [hf.eq]
        simp only [puts, Act.put, List.setIfInBounds_toArray, List.set_cons_zero, List.set_cons_succ]
        clear hf F
        generalize aT b = AT
        clear b
        go_wp2
        try simp only [Exit.inBlock, Exit.then]
        exact bodyPost_ret (results_it rfl _ (w.heap.size + 1) rfl _ _ _ _ _ _ hbx) rfl ⟨gr, rfl, hk.mono hbb.size, HBX.out.trans hb⟩

theorem sum_le {α : Type} (g : α → Nat) (M : Nat) : ∀ (xs : List α), (∀ x ∈ xs, g x ≤ M) → (xs.map g).sum ≤ xs.length * M
  | [], _ => by simp
  | x :: xs, h => by
    have h1 := h x (List.mem_cons_self ..)
    have h2 := sum_le g M xs (fun y hy => h y (List.mem_cons_of_mem _ hy))
    rw [List.map_cons, List.sum_cons, List.length_cons, Nat.succ_mul]
    omega
theorem wtS_nil (d : Nat) : wtS d [] = 0 := by
  cases d with
  | zero => rfl
  | succ d => rfl
theorem wtS_le (d M : Nat) (xs : List It) (h : ∀ x ∈ xs, x.body.length + wtS d x.kids ≤ M) : wtS (d + 1) xs ≤ xs.length + xs.length * M := Nat.add_le_add_left (sum_le _ M xs h) _
theorem sgK_wt (d : Nat) (y : ItT) (ls : List It) (h : y.sg.length ≤ 500) : wtS (d + 1) (sgK y ls) ≤ 530 + wtS d ls := by
  have h1 : (eightI y.ky).length = 8 := eightI_len _
  have h2 : (wbL y.at2).length ≤ 9 := by rw [wbL_len]; have := (wsz_bd y.at2).2; omega
  show 4 + (((bytI (eightI y.ky)).body.length + wtS d (bytI (eightI y.ky)).kids) + (((numI y.at2).body.length + wtS d (numI y.at2).kids) + (((bytI y.sg).body.length + wtS d (bytI y.sg).kids) + (((lstI ls).body.length + wtS d (lstI ls).kids) + 0)))) ≤ _
  have e1 : (bytI (eightI y.ky)).body.length = 8 := h1
  have e2 : (numI y.at2).body.length ≤ 9 := h2
  have e3 : (bytI y.sg).body.length ≤ 500 := h
  have e4 : (lstI ls).body.length = 0 := rfl
  have e5 : (lstI ls).kids = ls := rfl
  have e6 : wtS d (bytI (eightI y.ky)).kids = 0 := wtS_nil d
  have e7 : wtS d (numI y.at2).kids = 0 := wtS_nil d
  have e8 : wtS d (bytI y.sg).kids = 0 := wtS_nil d
  rw [e5]
  omega
theorem getD_mem {xs : List ItT} {y : ItT} (h : y ∈ xs) : ∃ k, k < xs.length ∧ y = xs.getD k default := by
  obtain ⟨k, hk, rfl⟩ := List.mem_iff_getElem.1 h
  exact ⟨k, hk, by rw [List.getD_eq_getElem?_getD, List.getElem?_eq_getElem hk]; rfl⟩
theorem ms_wt (ct : List Int) (nn : Nat) (xs : List ItT) (hn : nn ≤ 4000) (hok : okS 2 xs) : wtS 8 [lstI ((List.range (pcN nn)).map (pcI ct nn)), lstI (xs.map sgI1)] ≤ 1048576 := by
  obtain ⟨h6, hp⟩ := okS_parts hok
  have hN := pcN_le hn
  have a1 : wtS 7 ((List.range (pcN nn)).map (pcI ct nn)) ≤ 5000 := by
    have : wtS 7 ((List.range (pcN nn)).map (pcI ct nn)) ≤ (((List.range (pcN nn)).map (pcI ct nn))).length + (((List.range (pcN nn)).map (pcI ct nn))).length * 64 := wtS_le 6 64 ((List.range (pcN nn)).map (pcI ct nn)) (fun x hx => by
      obtain ⟨k, hk, rfl⟩ := List.mem_map.1 hx
      have hl := pcL_le (List.mem_range.1 hk)
      have e1 : (pcI ct nn k).body.length ≤ pcL nn k := by show (pcB ct nn k).length ≤ _; unfold pcB; rw [List.length_take]; omega
      have e2 : wtS 6 (pcI ct nn k).kids = 0 := wtS_nil 6
      omega)
    rw [List.length_map, List.length_range] at this
    have h2 : pcN nn * 64 ≤ 63 * 64 := Nat.mul_le_mul_right _ hN
    omega
  have a2 : wtS 7 (xs.map sgI1) ≤ 30000 := by
    have : wtS 7 (xs.map sgI1) ≤ (xs.map sgI1).length + (xs.map sgI1).length * 4000 := wtS_le 6 4000 (xs.map sgI1) (fun x hx => by
      obtain ⟨y, hy, rfl⟩ := List.mem_map.1 hx
      obtain ⟨k, hk, rfl⟩ := getD_mem hy
      obtain ⟨_, h1, h2, h3⟩ := hp k hk
      generalize xs.getD k default = y at h1 h2 h3
      have e1 : (sgI1 y).body.length = 0 := rfl
      have e2 := sgK_wt 5 y (y.over.map sgI0) h1
      have e3 : wtS 6 (sgI1 y).kids ≤ 530 + wtS 5 (y.over.map sgI0) := e2
      have e4 : wtS 5 (y.over.map sgI0) ≤ (y.over.map sgI0).length + (y.over.map sgI0).length * 530 := wtS_le 4 530 (y.over.map sgI0) (fun z hz => by
        obtain ⟨v, hv, rfl⟩ := List.mem_map.1 hz
        obtain ⟨j, hj, rfl⟩ := getD_mem hv
        obtain ⟨_, g1, _⟩ := h3 j hj
        generalize y.over.getD j default = v at g1
        have q1 : (sgI0 v).body.length = 0 := rfl
        have q2 := sgK_wt 3 v [] g1
        have q3 : wtS 4 (sgI0 v).kids ≤ 530 + wtS 3 [] := q2
        rw [wtS_nil] at q3
        omega)
      rw [List.length_map] at e4
      have h4 : y.over.length * 530 ≤ 6 * 530 := Nat.mul_le_mul_right _ h2
      omega)
    rw [List.length_map] at this
    have h2 : xs.length * 4000 ≤ 6 * 4000 := Nat.mul_le_mul_right _ h6
    omega
  show 2 + (((lstI ((List.range (pcN nn)).map (pcI ct nn))).body.length + wtS 7 (lstI ((List.range (pcN nn)).map (pcI ct nn))).kids) + (((lstI (xs.map sgI1)).body.length + wtS 7 (lstI (xs.map sgI1)).kids) + 0)) ≤ _
  have e1 : (lstI ((List.range (pcN nn)).map (pcI ct nn))).body.length = 0 := rfl
  have e2 : (lstI (xs.map sgI1)).body.length = 0 := rfl
  have e3 : (lstI ((List.range (pcN nn)).map (pcI ct nn))).kids = ((List.range (pcN nn)).map (pcI ct nn)) := rfl
  have e4 : (lstI (xs.map sgI1)).kids = xs.map sgI1 := rfl
  rw [e3, e4]
  omega
theorem specItemBytes_un (d : Nat) (tag : Int) (a : Option Addr) (n c : Nat) (ks : List It) (bo : Bool) (l : List Int) (w : World) (hk : Kids d w a n ks) (hwt : wtS d ks ≤ 1048576) (hl : EnA (enc 12 (boxI tag ks)) bo l) :
    Calls Try.prog 16 #[.agg #[.int .i64 1, .int .i64 tag, .bool true, .slice none 0 0, .slice a n c]] w fun e w' => ∃ a' c', e = .returned (.tuple #[.slice a' l.length c', .bool bo]) ∧ Own w.heap.size w' a' l.length c' l ∧ Below w.heap.size w w' := by
  refine Calls.mono (specItemBytes_any d (boxI tag ks) none 0 0 a n c w ⟨rfl, fun k hk => absurd hk (Nat.not_lt_zero _), by simp [boxI, It.body]⟩ (fun _ => rfl) (by decide) hk hwt) ?_
  rintro e w1 ⟨⟨a1, n1, c1, bs, ok, rfl, h1, h2, ho⟩, hb1⟩
  have e1 : ok = bo := by
    have := h1.out
    rcases hl with ⟨rfl, e0⟩ | ⟨rfl, _, e0⟩
    · rw [this, e0]; rfl
    · rw [this, e0]; rfl
  have e2 : bs = l := by
    have := h2.out
    rcases hl with ⟨_, e0⟩ | ⟨_, rfl, e0⟩
    · rw [this, e0]; rfl
    · rw [this, e0]; rfl
  subst e1 e2
  have e3 : bs.length = n1 := ho.toRow.len
  subst e3
  exact ⟨a1, c1, rfl, ho, hb1⟩
theorem own_emptyM (B : Nat) (w : World) (hB : B ≤ w.heap.size) : Own B (w.alloc (.cells #[] 5)) (some ⟨w.heap.size, 0, none⟩) 0 0 [] := ⟨⟨rfl, .inr ⟨w.heap.size, 0, #[], rfl, hB, heap_alloc_new w _, Nat.le_refl _, by decide, rfl, rfl⟩⟩, by simp⟩

set_option maxRecDepth 10000 in
set_option maxHeartbeats 4000000 in
theorem specMsgBytes_any (D : Nat) (ct : List Int) (xs : List ItT) (am : Option Addr) (nn cm : Nat) (a : Option Addr) (n c : Nat) (bo : Bool) (l : List Int) (w : World) (hr : Row w am nn ct) (hcm : nn ≤ cm) (hnn : nn ≤ 9223372036854775807) (hk : KidsT D w a n xs) (hf : MbR ct nn xs bo l) :
    Calls Try.prog 5 #[.agg #[.slice am nn cm, .slice a n c]] w fun r w' => ∃ a' c', r = .returned (.tuple #[.slice a' l.length c', .bool bo]) ∧ Own w.heap.size w' a' l.length c' l ∧ Below w.heap.size w w' := by
  obtain ⟨w1, hw1⟩ : ∃ w1, w1 = w.alloc (.cells #[.slice am nn cm, .slice a n c] 31) := ⟨_, rfl⟩
  have hbb : Below w.heap.size w w1 := by rw [hw1]; exact (Below.refl _ _).alloc (Nat.le_refl _) _
  have HB1 : Hid (w1.heap[w.heap.size]? = some (.cells #[.slice am nn cm, .slice a n c] 31 (0, 0))) := by show _ = _; rw [hw1]; exact heap_alloc_new w _
  have HR : Hid (Row w am nn ct) := hr
  have HK : Hid (KidsT D w a n xs) := hk
  have HW : Hid (_ = _) := hw1
  clear hw1 hr hk
  obtain ⟨x0, x1⟩ := cells2m HB1.out
  go_enter Try.func5, Try.ntmps5
  go_upto_region 1 with fail
  rw [← HW.out]
  clear HW
  go_wp2_with fail
  refine (l17Ok_any D am nn cm a n c xs _ hnn (HK.out.kept hbb)).mono ?_
  rintro r w2 ⟨b2, rfl, hb2, hbel⟩
  have B2 : Below w.heap.size w w2 := keepT hbb hbel
  have HB2 : Hid (w2.heap[w.heap.size]? = some (.cells #[.slice am nn cm, .slice a n c] 31 (0, 0))) := below_kept HB1.out hbel
  clear hbel x0 x1
  rcases hf with ⟨hP, hE⟩ | ⟨hP, rfl, rfl⟩
  · obtain rfl : b2 = true := hb2.out.2 hP
    have HE : Hid (EnA (enc 12 (boxI 10 [lstI ((List.range (pcN nn)).map (pcI ct nn)), lstI (xs.map sgI1)])) bo l) := hE
    have HP : Hid (msgP nn xs) := hP
    clear hb2 hP hE
    obtain ⟨x0, x1⟩ := cells2m HB2.out
    go_wp2_with fail
    refine (l17Item_any D ct xs am nn cm a n c _ (HR.out.kept B2) hcm HP.out.1 (HK.out.kept B2) HP.out.2).mono ?_
    rintro r w3 ⟨gr, rfl, hkg, hb3⟩
    have B3 : Below w.heap.size w w3 := keepT B2 hb3
    have HKG : Hid (KidG w2.heap.size w3 gr 8 [lstI ((List.range (pcN nn)).map (pcI ct nn)), lstI (xs.map sgI1)]) := hkg
    clear hkg hb3 x0 x1
    go_wp2_with fail
    have q0 : EnA (enc 12 (boxI 10 [lstI ((List.range (pcN nn)).map (pcI ct nn)), lstI (xs.map sgI1)])) bo l := HE.out
    have q1 := specItemBytes_un 8 10 (some ⟨gr, 0, none⟩) 2 2 [lstI ((List.range (pcN nn)).map (pcI ct nn)), lstI (xs.map sgI1)] bo l w3 HKG.out.kidsF (ms_wt ct nn xs HP.out.1 HP.out.2) q0
    refine q1.mono ?_
    rintro r w4 ⟨a4, c4, rfl, ho, hb4⟩
    have HO : Hid (Own w.heap.size w4 a4 l.length c4 l) := ho.mono B3.size
    have B4 : Below w.heap.size w w4 := keepT B3 hb4
    clear ho hb4 q1 q0
    go_wp2
    go_ret2
    exact ⟨a4, c4, rfl, HO.out, B4⟩
  · obtain rfl : b2 = false := by
      cases b2 with
      | false => rfl
      | true => exact absurd (hb2.out.1 rfl) hP
    clear hb2 hP
    go_wp2
    go_ret2
    exact ⟨_, _, rfl, own_emptyM _ _ B2.size, B2.trans ((Below.refl _ _).alloc B2.size _)⟩

end Go.Proofs.Ytlcojjcgaibbiaa
