import Derived.Test.YtlcojjcgaibbiaaMZ0
import Derived.Test.YtlcojjcgaibbiaaMC2b
set_option linter.unusedVariables false
namespace Go.Proofs.Ytlcojjcgaibbiaa
open Go.RowKit Go.Sort

/-- The four parts of a signer's item. -/
def sgK (x : ItT) (ls : List It) : List It := [bytI (eightI x.ky), numI x.at2, bytI x.sg, lstI ls]
def sgI0 (x : ItT) : It := strI (sgK x [])
def sgI1 (x : ItT) : It := strI (sgK x (x.over.map sgI0))
theorem itz_up {L B : Nat} {w : World} {x : It} {ab : Option Addr} {nb cb : Nat} {ak : Option Addr} {nk ck : Nat} (d : Nat) (h : ItZ L B 1 w x ab nb cb ak nk ck) : ItZ L B (d + 1) w x ab nb cb ak nk ck := by
  induction d with
  | zero => exact h
  | succ d ih => exact ih.more
theorem bytesItem_agg (a : Option Addr) (n c : Nat) (bs : List Int) (w : World) :
    Calls Try.prog 26 #[.slice a n c] w fun e w' => e = .returned (.agg #[.int .i64 0, .int .i64 4, .bool false, .slice a n c, .slice none 0 0]) ∧ Below w.heap.size w w' := bytesItem_any a n c bs w
/-- A signer as it lies in the argument's world. -/
structure SgEl (d : Nat) (w : World) (y : ItT) (ab : Option Addr) (nb cb : Nat) (ak : Option Addr) (nk ck : Nat) : Prop where
  row : Row w ab nb y.sg
  nil : ab = none → cb = 0
  max : nb ≤ 9223372036854775807
  ky : U64 y.ky
  over : KidsT d w ak nk y.over
theorem row_lt {w0 : World} {a : Option Addr} {n : Nat} {bs : List Int} (h : Row w0 a n bs) : ∀ x, a = some x → 0 < n → x.block < w0.heap.size := by
  intro x hx h0
  obtain ⟨b, off, ha, hlt, _⟩ := h.get 0 h0
  rw [ha] at hx
  injection hx with hx
  rw [← hx]
  exact hlt

/-- What is known of a region (RJ). -/
def mi1 (x : ItT) (ls : List It) (d : Nat) (ab : Option Addr) (nb cb : Nat) (ak : Option Addr) (nk ck : Nat) (L R G B : Nat) : RSpec where
  m := 15
  n := 17
  slots := [3, 4, 5, 6, 7, 8, 9, 10, 11, 12, 13, 14, 15, 16, 100014, 100015, 100016]
  kills := [[], [], [], [], [], [], [], [], [], [], [], [], [], [], [], [], [14]]
  pres := [[], [], [], [], [], [], [], [], [], [], [], [], [], [], [], [], []]
  fact := fun k v w => match k with
    | 0 => v = .pointer (some ⟨G, 0, none⟩)
    | 1 => v = .int .u64 x.ky
    | 2 => ∃ g1, v = .agg #[.int .i64 0, .int .i64 4, .bool false, .slice (some ⟨g1, 0, none⟩) 8 8, .slice none 0 0] ∧ ItZ L R (d + 1) w (bytI (eightI x.ky)) (some ⟨g1, 0, none⟩) 8 8 none 0 0 ∧ L ≤ G ∧ G + 1 < R
    | 3 => v = .pointer (some ⟨G, 1, none⟩)
    | 4 => v = .int .i64 x.at2
    | 5 => ∃ g2 k2, v = .agg #[.int .i64 0, .int .i64 2, .bool false, .slice (some ⟨g2, k2, none⟩) (wsz x.at2) (wsz x.at2), .slice none 0 0] ∧ ItZ L R (d + 1) w (numI x.at2) (some ⟨g2, k2, none⟩) (wsz x.at2) (wsz x.at2) none 0 0 ∧ L ≤ G ∧ G + 1 < R
    | 6 => v = .pointer (some ⟨G, 2, none⟩)
    | 7 => v = .slice ab nb cb
    | 8 => v = .agg #[.int .i64 0, .int .i64 4, .bool false, .slice ab nb cb, .slice none 0 0] ∧ ItZ L R (d + 1) w (bytI x.sg) ab nb cb none 0 0 ∧ L ≤ G ∧ G + 1 < R
    | 9 => v = .pointer (some ⟨G, 3, none⟩)
    | 10 => v = .slice ak nk ck
    | 11 => ∃ ao co, v = .agg #[.int .i64 0, .int .i64 17, .bool true, .slice none 0 0, .slice ao nk co] ∧ ListZ L R (d + 1) w ao nk ls ∧ L ≤ G ∧ G + 1 < R
    | 12 => ∃ gr, v = .slice (some ⟨gr, 0, none⟩) 4 4 ∧ KidZ L R w gr (d + 2) (sgK x ls) ∧ L ≤ G ∧ G + 1 < R
    | 13 => ∃ gr, v = .agg #[.int .i64 0, .int .i64 16, .bool true, .slice none 0 0, .slice (some ⟨gr, 0, none⟩) 4 4] ∧ KidZ L R w gr (d + 2) (sgK x ls) ∧ L ≤ G ∧ G + 1 < R
    | 14 => ∃ gr, w.heap[(G + 1)]? = some (.cells #[.int .i64 0, .int .i64 16, .bool true, .slice none 0 0, .slice (some ⟨gr, 0, none⟩) 4 4] 43 (0, 0)) ∧ KidZ L R w gr (d + 2) (sgK x ls) ∧ L ≤ G ∧ G + 1 < R
    | 15 => w.heap[G]? = some (.cells #[.int .u64 x.ky, .int .i64 x.at2, .slice ab nb cb, .slice ak nk ck] 59 (0, 0))
    | _ => w.heap[(G + 1)]? = some (.cells #[.int .i64 0, .int .i64 0, .bool false, .slice none 0 0, .slice none 0 0] 43 (0, 0))
set_option linter.unusedVariables false in
theorem mi1_stb (x : ItT) (ls : List It) (d : Nat) (ab : Option Addr) (nb cb : Nat) (ak : Option Addr) (nk ck : Nat) (L R G B : Nat) (k : Nat) (hk : k < 17) : StB ((mi1 x ls d ab nb cb ak nk ck L R G (B)).fact k) := by
  match k, hk with
  | 0, _ => exact fun _ _ _ h _ => h
  | 1, _ => exact fun _ _ _ h _ => h
  | 2, _ => exact fun _ _ _ ⟨g1, hv, q_0, q_1⟩ hb => ⟨g1, hv, q_0.kept hb, q_1⟩
  | 3, _ => exact fun _ _ _ h _ => h
  | 4, _ => exact fun _ _ _ h _ => h
  | 5, _ => exact fun _ _ _ ⟨g2, k2, hv, q_0, q_1⟩ hb => ⟨g2, k2, hv, q_0.kept hb, q_1⟩
  | 6, _ => exact fun _ _ _ h _ => h
  | 7, _ => exact fun _ _ _ h _ => h
  | 8, _ => exact fun _ _ _ ⟨hv, q_0, q_1⟩ hb => ⟨hv, q_0.kept hb, q_1⟩
  | 9, _ => exact fun _ _ _ h _ => h
  | 10, _ => exact fun _ _ _ h _ => h
  | 11, _ => exact fun _ _ _ ⟨ao, co, hv, q_0, q_1⟩ hb => ⟨ao, co, hv, q_0.kept hb, q_1⟩
  | 12, _ => exact fun _ _ _ ⟨gr, hv, q_0, q_1⟩ hb => ⟨gr, hv, q_0.kept hb, q_1⟩
  | 13, _ => exact fun _ _ _ ⟨gr, hv, q_0, q_1⟩ hb => ⟨gr, hv, q_0.kept hb, q_1⟩
  | 14, _ => exact fun _ _ _ ⟨gr, q_0, q_1, q_2⟩ hb => ⟨gr, below_kept q_0 hb, q_1.kept hb, q_2⟩
  | 15, _ => exact fun _ _ _ q_0 hb => below_kept q_0 hb
  | 16, _ => exact fun _ _ _ q_0 hb => below_kept q_0 hb
  | k + 17, hk => omega
set_option linter.unusedVariables false in
theorem mi1_st14 (x : ItT) (ls : List It) (d : Nat) (ab : Option Addr) (nb cb : Nat) (ak : Option Addr) (nk ck : Nat) (L R G B : Nat) {W W2 : World} {cs : Array Value} {fr : Nat × Nat} (hg : W.heap[(G + 1)]? = some (.cells cs 43 fr)) (ht : Touch ((G + 1)) ((G + 1) + 1) W W2) (k : Nat) (hk : k < 17) (hne : k ≠ 14) (hkill : 14 ∉ (mi1 x ls d ab nb cb ak nk ck L R G (B)).kill k) (v : Value) (hfact : (mi1 x ls d ab nb cb ak nk ck L R G (B)).fact k v W) : (mi1 x ls d ab nb cb ak nk ck L R G (B)).fact k v W2 := by
  match k, hk, hne, hkill, hfact with
  | 0, _, _, _, hq => exact hq
  | 1, _, _, _, hq => exact hq
  | 2, _, _, _, ⟨g1, hv, q_0, q_1⟩ => exact ⟨g1, hv, q_0.touched ht (by omega), q_1⟩
  | 3, _, _, _, hq => exact hq
  | 4, _, _, _, hq => exact hq
  | 5, _, _, _, ⟨g2, k2, hv, q_0, q_1⟩ => exact ⟨g2, k2, hv, q_0.touched ht (by omega), q_1⟩
  | 6, _, _, _, hq => exact hq
  | 7, _, _, _, hq => exact hq
  | 8, _, _, _, ⟨hv, q_0, q_1⟩ => exact ⟨hv, q_0.touched ht (by omega), q_1⟩
  | 9, _, _, _, hq => exact hq
  | 10, _, _, _, hq => exact hq
  | 11, _, _, _, ⟨ao, co, hv, q_0, q_1⟩ => exact ⟨ao, co, hv, q_0.touched ht (by omega), q_1⟩
  | 12, _, _, _, ⟨gr, hv, q_0, q_1⟩ => exact ⟨gr, hv, q_0.touched ht (by omega), q_1⟩
  | 13, _, _, _, ⟨gr, hv, q_0, q_1⟩ => exact ⟨gr, hv, q_0.touched ht (by omega), q_1⟩
  | 14, _, hne, _, _ => exact absurd rfl hne
  | 15, _, _, _, q_0 => exact box_box q_0 hg (by decide) ht
  | 16, _, _, hkill, _ => exact absurd (List.Mem.head _) hkill
  | k + 17, hk, _, _, _ => omega

set_option maxRecDepth 10000 in
set_option maxHeartbeats 4000000 in
theorem signerItem_of (x : ItT) (ls : List It) (d : Nat) (ab : Option Addr) (nb cb : Nat) (ak : Option Addr) (nk ck : Nat) (L : Nat) (w : World) (hLw : L ≤ w.heap.size) (hu : U64 x.ky) (hat : W64 x.at2) (hsg : ∀ B W, Below w.heap.size w W → ItZ L B 1 W (bytI x.sg) ab nb cb none 0 0)
    (hli : ∀ W, Below w.heap.size w W → Calls Try.prog 27 #[.slice ak nk ck, .func (Fn.func 28) #[] #[]] W fun e w' => ∃ ao co, e = .returned (.agg #[.int .i64 0, .int .i64 17, .bool true, .slice none 0 0, .slice ao nk co]) ∧ ListZ L W.heap.size (d + 1) w' ao nk ls ∧ Below W.heap.size W w') :
    Calls Try.prog 28 #[.agg #[.int .u64 x.ky, .int .i64 x.at2, .slice ab nb cb, .slice ak nk ck]] w fun e w' => ∃ gr, e = .returned (.agg #[.int .i64 0, .int .i64 16, .bool true, .slice none 0 0, .slice (some ⟨gr, 0, none⟩) 4 4]) ∧ KidZ L w.heap.size w' gr (d + 2) (sgK x ls) ∧ Below w.heap.size w w' := by
  obtain ⟨w1, hw1⟩ : ∃ w1, w1 = (w.alloc (.cells #[.int .u64 x.ky, .int .i64 x.at2, .slice ab nb cb, .slice ak nk ck] 59)).alloc (.cells #[.int .i64 0, .int .i64 0, .bool false, .slice none 0 0, .slice none 0 0] 43) := ⟨_, rfl⟩
  have hbb : Below w.heap.size w w1 := by rw [hw1]; exact ((Below.refl _ _).alloc (Nat.le_refl _) _).alloc (by simp) _
  have HB1 : Hid (_ ∧ _) := two_blocks w (.cells #[.int .u64 x.ky, .int .i64 x.at2, .slice ab nb cb, .slice ak nk ck] 59) (.cells #[.int .i64 0, .int .i64 0, .bool false, .slice none 0 0, .slice none 0 0] 43)
  rw [← hw1] at HB1
  have hsz : w1.heap.size = w.heap.size + 2 := by rw [hw1]; simp
  have HGB : L ≤ w.heap.size ∧ w.heap.size + 1 < w1.heap.size := ⟨hLw, by omega⟩
  have HBB : w.heap.size ≤ w1.heap.size := hbb.size
  have HW : Hid (_ = _) := hw1
  have HSG : Hid (∀ W, Below w.heap.size w1 W → ItZ L w1.heap.size 1 W (bytI x.sg) ab nb cb none 0 0) := fun W hW => hsg _ W (hbb.trans hW)
  have HLI : Hid (∀ W, Below w.heap.size w1 W → Calls Try.prog 27 #[.slice ak nk ck, .func (Fn.func 28) #[] #[]] W fun e w' => ∃ ao co, e = .returned (.agg #[.int .i64 0, .int .i64 17, .bool true, .slice none 0 0, .slice ao nk co]) ∧ ListZ L W.heap.size (d + 1) w' ao nk ls ∧ Below W.heap.size W w') := fun W hW => hli W (hbb.trans hW)
  clear hw1 hsg hli
  go_enter Try.func28, Try.ntmps28
  go_upto_region 1 with fail
  rw [← HW.out]
  clear HW
  refine wp_region_ri (mi1 x ls d ab nb cb ak nk ck L w1.heap.size w.heap.size (w.heap.size)) [3, 4, 5, 6, 7, 8, 9, 10, 11, 12, 13, 14, 15, 16] (w.heap.size) (fun a0 => a0.tmps.size = 17 ∧ aT a0 1 = .pointer (some ⟨w.heap.size, 0, none⟩) ∧ aT a0 2 = .pointer (some ⟨(w.heap.size + 1), 0, none⟩)) (by kernel_rfl) rfl (by kernel_rfl) rfl ⟨rfl, rfl, rfl⟩ (mi1_stb x ls d ab nb cb ak nk ck L w1.heap.size w.heap.size (w.heap.size)) ?_ ?_ ?_
  · intro k hk hk2
    match k, hk, hk2 with
    | 15, _, _ => exact HB1.out.1
    | 16, _, _ => exact HB1.out.2
    | 0, hk, _ => exact absurd hk (by show ¬ (15 ≤ 0); omega)
    | 1, hk, _ => exact absurd hk (by show ¬ (15 ≤ 1); omega)
    | 2, hk, _ => exact absurd hk (by show ¬ (15 ≤ 2); omega)
    | 3, hk, _ => exact absurd hk (by show ¬ (15 ≤ 3); omega)
    | 4, hk, _ => exact absurd hk (by show ¬ (15 ≤ 4); omega)
    | 5, hk, _ => exact absurd hk (by show ¬ (15 ≤ 5); omega)
    | 6, hk, _ => exact absurd hk (by show ¬ (15 ≤ 6); omega)
    | 7, hk, _ => exact absurd hk (by show ¬ (15 ≤ 7); omega)
    | 8, hk, _ => exact absurd hk (by show ¬ (15 ≤ 8); omega)
    | 9, hk, _ => exact absurd hk (by show ¬ (15 ≤ 9); omega)
    | 10, hk, _ => exact absurd hk (by show ¬ (15 ≤ 10); omega)
    | 11, hk, _ => exact absurd hk (by show ¬ (15 ≤ 11); omega)
    | 12, hk, _ => exact absurd hk (by show ¬ (15 ≤ 12); omega)
    | 13, hk, _ => exact absurd hk (by show ¬ (15 ≤ 13); omega)
    | 14, hk, _ => exact absurd hk (by show ¬ (15 ≤ 14); omega)
    | k + 17, _, hk2 => exact absurd hk2 (by show ¬ (k + 17 < 17); omega)
  · rintro a0 ⟨hz, g1, g2⟩
    refine StepsRI.cons ?_ (StepsRI.cons ?_ (StepsRI.cons ?_ (StepsRI.cons ?_ (StepsRI.cons ?_ (StepsRI.cons ?_ (StepsRI.cons ?_ (StepsRI.cons ?_ (StepsRI.cons ?_ (StepsRI.cons ?_ (StepsRI.cons ?_ (StepsRI.cons ?_ (StepsRI.cons ?_ (StepsRI.cons ?_ (StepsRI.cons ?_ (StepsRI.nil)))))))))))))))
    · intro lQ b W hI hUN hED KQ hKQ
      exact opw_field 59 1 0 rfl _ ((hI.fr.same 1 (by decide)).trans g1) _ (by kernel_rfl) (hKQ.out _ _ (hI.put 0 3 rfl rfl (by rw [hz]; decide) rfl hUN rfl HBB (mi1_stb x ls d ab nb cb ak nk ck L w1.heap.size w.heap.size (w.heap.size)) (Below.refl _ _) rfl))
    · intro lQ b W hI hUN hED KQ hKQ
      have f := hI.got 0 (of_decide_eq_true rfl) (edge hED 0 (by kernel_rfl)) rfl
      have hg := (hI.vot 15 (of_decide_eq_true rfl) (of_decide_eq_true rfl) rfl)
      have hc : W.cell? ⟨w.heap.size, 0, none⟩ = some (.int .u64 x.ky) := (cell_of_row _ _ 0 _ _ (0, 0) hg).trans rfl
      exact opw_load1 57 3 rfl _ f _ (by simp [Instr.loadAt, go_sem, hc]) (hKQ.out _ _ (hI.put 1 4 rfl rfl (by rw [hz]; decide) rfl hUN rfl HBB (mi1_stb x ls d ab nb cb ak nk ck L w1.heap.size w.heap.size (w.heap.size)) (Below.refl _ _) rfl))
    · intro lQ b W hI hUN hED KQ hKQ
      have f0 := hI.got 1 (of_decide_eq_true rfl) (edge hED 1 (by kernel_rfl)) rfl
      replace f0 : aT b 4 = .int .u64 x.ky := f0
      refine opw_call 47 #[.tmp 4] _ _ _ rfl Try.func47 (by kernel_rfl) rfl #[.int .u64 x.ky] (by simp [ev, f0]) ?_
      refine (digestItem_agg x.ky W hu.1 hu.2).mono ?_
      rintro e W2 ⟨g1, rfl, hge, hr, hb⟩
      exact ⟨_, rfl, hKQ.out _ _ (hI.put 2 5 rfl rfl (by rw [hz]; decide) rfl hUN rfl HBB (mi1_stb x ls d ab nb cb ak nk ck L w1.heap.size w.heap.size (w.heap.size)) hb ⟨g1, rfl, itz_up d (RowG.itz ⟨Nat.le_trans hI.bel.size hge, hr.atG⟩ 4 (by decide)), HGB⟩)⟩
    · intro lQ b W hI hUN hED KQ hKQ
      exact opw_field 59 1 1 rfl _ ((hI.fr.same 1 (by decide)).trans g1) _ (by kernel_rfl) (hKQ.out _ _ (hI.put 3 6 rfl rfl (by rw [hz]; decide) rfl hUN rfl HBB (mi1_stb x ls d ab nb cb ak nk ck L w1.heap.size w.heap.size (w.heap.size)) (Below.refl _ _) rfl))
    · intro lQ b W hI hUN hED KQ hKQ
      have f := hI.got 3 (of_decide_eq_true rfl) (edge hED 3 (by kernel_rfl)) rfl
      have hg := (hI.vot 15 (of_decide_eq_true rfl) (of_decide_eq_true rfl) rfl)
      have hc : W.cell? ⟨w.heap.size, 1, none⟩ = some (.int .i64 x.at2) := (cell_of_row _ _ 1 _ _ (0, 0) hg).trans rfl
      exact opw_load1 2 6 rfl _ f _ (by simp [Instr.loadAt, go_sem, hc]) (hKQ.out _ _ (hI.put 4 7 rfl rfl (by rw [hz]; decide) rfl hUN rfl HBB (mi1_stb x ls d ab nb cb ak nk ck L w1.heap.size w.heap.size (w.heap.size)) (Below.refl _ _) rfl))
    · intro lQ b W hI hUN hED KQ hKQ
      have f0 := hI.got 4 (of_decide_eq_true rfl) (edge hED 4 (by kernel_rfl)) rfl
      replace f0 : aT b 7 = .int .i64 x.at2 := f0
      refine opw_call 48 #[.tmp 7] _ _ _ rfl Try.func48 (by kernel_rfl) rfl #[.int .i64 x.at2] (by simp [ev, f0]) ?_
      refine (numberItem_agg x.at2 W hat.1 hat.2).mono ?_
      rintro e W2 ⟨g2, k2, rfl, hge, hr, hb⟩
      exact ⟨_, rfl, hKQ.out _ _ (hI.put 5 8 rfl rfl (by rw [hz]; decide) rfl hUN rfl HBB (mi1_stb x ls d ab nb cb ak nk ck L w1.heap.size w.heap.size (w.heap.size)) hb ⟨g2, k2, rfl, itz_up d (RowG.itz ⟨Nat.le_trans hI.bel.size hge, hr.atG⟩ 2 (by have := wsz_bd x.at2; omega)), HGB⟩)⟩
    · intro lQ b W hI hUN hED KQ hKQ
      exact opw_field 59 1 2 rfl _ ((hI.fr.same 1 (by decide)).trans g1) _ (by kernel_rfl) (hKQ.out _ _ (hI.put 6 9 rfl rfl (by rw [hz]; decide) rfl hUN rfl HBB (mi1_stb x ls d ab nb cb ak nk ck L w1.heap.size w.heap.size (w.heap.size)) (Below.refl _ _) rfl))
    · intro lQ b W hI hUN hED KQ hKQ
      have f := hI.got 6 (of_decide_eq_true rfl) (edge hED 6 (by kernel_rfl)) rfl
      have hg := (hI.vot 15 (of_decide_eq_true rfl) (of_decide_eq_true rfl) rfl)
      have hc : W.cell? ⟨w.heap.size, 2, none⟩ = some (.slice ab nb cb) := (cell_of_row _ _ 2 _ _ (0, 0) hg).trans rfl
      exact opw_load1 22 9 rfl _ f _ (by simp [Instr.loadAt, go_sem, hc]) (hKQ.out _ _ (hI.put 7 10 rfl rfl (by rw [hz]; decide) rfl hUN rfl HBB (mi1_stb x ls d ab nb cb ak nk ck L w1.heap.size w.heap.size (w.heap.size)) (Below.refl _ _) rfl))
    · intro lQ b W hI hUN hED KQ hKQ
      have f0 := hI.got 7 (of_decide_eq_true rfl) (edge hED 7 (by kernel_rfl)) rfl
      replace f0 : aT b 10 = .slice ab nb cb := f0
      refine opw_call 26 #[.tmp 10] _ _ _ rfl Try.func26 (by kernel_rfl) rfl #[.slice ab nb cb] (by simp [ev, f0]) ?_
      refine (bytesItem_agg ab nb cb x.sg W).mono ?_
      rintro e W2 ⟨rfl, hb⟩
      exact ⟨_, rfl, hKQ.out _ _ (hI.put 8 11 rfl rfl (by rw [hz]; decide) rfl hUN rfl HBB (mi1_stb x ls d ab nb cb ak nk ck L w1.heap.size w.heap.size (w.heap.size)) hb ⟨rfl, itz_up d (HSG.out _ (hI.bel.trans (hb.mono (Nat.le_trans hbb.size hI.bel.size)))), HGB⟩)⟩
    · intro lQ b W hI hUN hED KQ hKQ
      exact opw_field 59 1 3 rfl _ ((hI.fr.same 1 (by decide)).trans g1) _ (by kernel_rfl) (hKQ.out _ _ (hI.put 9 12 rfl rfl (by rw [hz]; decide) rfl hUN rfl HBB (mi1_stb x ls d ab nb cb ak nk ck L w1.heap.size w.heap.size (w.heap.size)) (Below.refl _ _) rfl))
    · intro lQ b W hI hUN hED KQ hKQ
      have f := hI.got 9 (of_decide_eq_true rfl) (edge hED 9 (by kernel_rfl)) rfl
      have hg := (hI.vot 15 (of_decide_eq_true rfl) (of_decide_eq_true rfl) rfl)
      have hc : W.cell? ⟨w.heap.size, 3, none⟩ = some (.slice ak nk ck) := (cell_of_row _ _ 3 _ _ (0, 0) hg).trans rfl
      exact opw_load1 29 12 rfl _ f _ (by simp [Instr.loadAt, go_sem, hc]) (hKQ.out _ _ (hI.put 10 13 rfl rfl (by rw [hz]; decide) rfl hUN rfl HBB (mi1_stb x ls d ab nb cb ak nk ck L w1.heap.size w.heap.size (w.heap.size)) (Below.refl _ _) rfl))
    · intro lQ b W hI hUN hED KQ hKQ
      have f0 : aT b 13 = .slice ak nk ck := hI.got 10 (of_decide_eq_true rfl) (edge hED 10 (by kernel_rfl)) rfl
      refine opw_call 27 #[.tmp 13, .func 28] _ _ _ rfl Try.func27 (by kernel_rfl) rfl #[.slice ak nk ck, .func (Fn.func 28) #[] #[]] (by simp [ev, f0]; rfl) ?_
      refine (HLI.out W hI.bel).mono ?_
      rintro r W2 ⟨ao, co, rfl, hk, hb⟩
      exact ⟨_, rfl, hKQ.out _ _ (hI.put 11 14 rfl rfl (by rw [hz]; decide) rfl hUN rfl HBB (mi1_stb x ls d ab nb cb ak nk ck L w1.heap.size w.heap.size (w.heap.size)) hb ⟨ao, co, rfl, hk.mono hI.bel.size, HGB⟩)⟩
    · intro lQ b W hI hUN hED KQ hKQ
      obtain ⟨g1, f0, o0, _⟩ := hI.got 2 (of_decide_eq_true rfl) (edge hED 2 (by kernel_rfl)) rfl
      obtain ⟨g2, k2, f1, o1, _⟩ := hI.got 5 (of_decide_eq_true rfl) (edge hED 5 (by kernel_rfl)) rfl
      obtain ⟨f2, o2, _⟩ := hI.got 8 (of_decide_eq_true rfl) (edge hED 8 (by kernel_rfl)) rfl
      obtain ⟨ao, co, f3, o3, _⟩ := hI.got 11 (of_decide_eq_true rfl) (edge hED 11 (by kernel_rfl)) rfl
      replace f0 : aT b 5 = .agg #[.int .i64 0, .int .i64 4, .bool false, .slice (some ⟨g1, 0, none⟩) 8 8, .slice none 0 0] := f0
      replace f1 : aT b 8 = .agg #[.int .i64 0, .int .i64 2, .bool false, .slice (some ⟨g2, k2, none⟩) (wsz x.at2) (wsz x.at2), .slice none 0 0] := f1
      replace f2 : aT b 11 = .agg #[.int .i64 0, .int .i64 4, .bool false, .slice ab nb cb, .slice none 0 0] := f2
      replace f3 : aT b 14 = .agg #[.int .i64 0, .int .i64 17, .bool true, .slice none 0 0, .slice ao nk co] := f3
      refine opw_buildSliceT _ 4 _ rfl #[(0, .agg #[.int .i64 0, .int .i64 4, .bool false, .slice (some ⟨g1, 0, none⟩) 8 8, .slice none 0 0]), (1, .agg #[.int .i64 0, .int .i64 2, .bool false, .slice (some ⟨g2, k2, none⟩) (wsz x.at2) (wsz x.at2), .slice none 0 0]), (2, .agg #[.int .i64 0, .int .i64 4, .bool false, .slice ab nb cb, .slice none 0 0]), (3, .agg #[.int .i64 0, .int .i64 17, .bool true, .slice none 0 0, .slice ao nk co])] (by simp [ev, f0, f1, f2, f3]) (.slice (some ⟨W.heap.size, 0, none⟩) 4 4) (W.alloc (.cells #[.int .i64 0, .int .i64 4, .bool false, .slice (some ⟨g1, 0, none⟩) 8 8, .slice none 0 0, .int .i64 0, .int .i64 2, .bool false, .slice (some ⟨g2, k2, none⟩) (wsz x.at2) (wsz x.at2), .slice none 0 0, .int .i64 0, .int .i64 4, .bool false, .slice ab nb cb, .slice none 0 0, .int .i64 0, .int .i64 17, .bool true, .slice none 0 0, .slice ao nk co] 43)) (by kernel_rfl) ?_
      exact hKQ.out _ _ (hI.put 12 15 rfl rfl (by rw [hz]; decide) rfl hUN rfl HBB (mi1_stb x ls d ab nb cb ak nk ck L w1.heap.size w.heap.size (w.heap.size)) ((Below.refl _ _).alloc (Nat.le_refl _) _) ⟨W.heap.size, rfl, kidZ_n4 hI.bel.size o0 o1 o2 o3.itz, HGB⟩)
    · intro lQ b W hI hUN hED KQ hKQ
      have f0 := hI.got 12 (of_decide_eq_true rfl) (edge hED 12 (by kernel_rfl)) rfl
      obtain ⟨gr, f0, o0_0, o0_1⟩ := f0
      replace f0 : aT b 15 = .slice (some ⟨gr, 0, none⟩) 4 4 := f0
      refine opw_call 46 #[.tmp 15] _ _ _ rfl Try.func46 (by kernel_rfl) rfl #[.slice (some ⟨gr, 0, none⟩) 4 4] (by simp [ev, f0]) ?_
      refine (structItem_agg (some ⟨gr, 0, none⟩) 4 4 W).mono ?_
      rintro e W2 ⟨rfl, hb⟩
      exact ⟨_, rfl, hKQ.out _ _ (hI.put 13 16 rfl rfl (by rw [hz]; decide) rfl hUN rfl HBB (mi1_stb x ls d ab nb cb ak nk ck L w1.heap.size w.heap.size (w.heap.size)) hb ⟨gr, rfl, o0_0.kept hb, HGB⟩)⟩
    · intro lQ b W hI hUN hED KQ hKQ
      have hgb := (hI.vot1 16 14 (of_decide_eq_true rfl) (of_decide_eq_true rfl) hUN rfl)
      have fb := ((hI.fr.same 2 (by decide)).trans g2)
      have f := hI.got 13 (of_decide_eq_true rfl) (edge hED 13 (by kernel_rfl)) rfl
      obtain ⟨gr, f, o_0, o_1⟩ := f
      refine wp_store_row 43 _ _ rfl ((w.heap.size + 1)) #[.int .i64 0, .int .i64 16, .bool true, .slice none 0 0, .slice (some ⟨gr, 0, none⟩) 4 4] fb f 43 _ hgb (by kernel_rfl) rfl (by simp [Value.oneCell']) ?_
      have ht := setRow_touch W ((w.heap.size + 1)) #[.int .i64 0, .int .i64 16, .bool true, .slice none 0 0, .slice (some ⟨gr, 0, none⟩) 4 4]
      exact hKQ.out _ _ (hI.store 14 (fun j hj => by cases hj) (hI.bel.trans (ht.below (by first | exact HGE2 | omega) (Nat.le_trans HBB hI.bel.size))) (mi1_st14 x ls d ab nb cb ak nk ck L w1.heap.size w.heap.size (w.heap.size) hgb ht) ⟨gr, (setRow_heap W ((w.heap.size + 1)) _ _ _ _ hgb), o_0.touched ht (by omega), o_1⟩)
  · intro b W hf hb F
    obtain ⟨gr, hbx, hk, _⟩ := F 14 (of_decide_eq_true rfl) rfl
    rw [hf.eq]
    simp only [puts, Act.put, List.setIfInBounds_toArray, List.set_cons_zero, List.set_cons_succ]
    clear hf F
    generalize aT b = AT
    clear b
    go_wp2
    try simp only [Exit.inBlock, Exit.then]
    exact bodyPost_ret (results_it rfl _ (w.heap.size + 1) rfl _ _ _ _ _ _ hbx) rfl ⟨gr, rfl, hk.mono hbb.size, hbb.trans hb⟩

theorem sg_next (f : ItT → List It) (xs : List ItT) (k : Nat) (h : k < xs.length) : (xs.take (k + 1)).map (fun y => strI (sgK y (f y))) = (xs.take k).map (fun y => strI (sgK y (f y))) ++ [strI (sgK (xs.getD k default) (f (xs.getD k default)))] := by
  rw [List.take_add_one, List.map_append]
  simp [h]

set_option maxRecDepth 10000 in
set_option maxHeartbeats 4000000 in
theorem eachSg_of (f : ItT → List It) (D dT : Nat) (w0 : World) (a : Option Addr) (n c : Nat) (xs : List ItT) (h : KidsT (dT + 1) w0 a n xs) (hn : n ≤ 1000) (P : ItT → Prop) (hP : ∀ k, k < n → P (xs.getD k default))
    (con : ∀ (y : ItT) (ab : Option Addr) (nb cb : Nat) (ak : Option Addr) (nk ck : Nat), SgEl dT w0 y ab nb cb ak nk ck → P y → ∀ W, Below w0.heap.size w0 W → Calls Try.prog 28 #[.agg #[.int .u64 y.ky, .int .i64 y.at2, .slice ab nb cb, .slice ak nk ck]] W fun e w' => ∃ gr, e = .returned (.agg #[.int .i64 0, .int .i64 16, .bool true, .slice none 0 0, .slice (some ⟨gr, 0, none⟩) 4 4]) ∧ KidZ w0.heap.size W.heap.size w' gr D (sgK y (f y)) ∧ Below W.heap.size W w') (w : World) (hw : Below w0.heap.size w0 w) :
    Calls Try.prog 45 #[.slice a n c, .func (Fn.func 28) #[] #[]] w fun e w' => ∃ ao co, e = .returned (.slice ao n co) ∧ OwnItZ D w0.heap.size w.heap.size w' ao n co (xs.map (fun y => strI (sgK y (f y)))) ∧ Below w.heap.size w w' := by
  obtain ⟨i0, hi, hz0, hz1, hz2⟩ := info_parts Try.infoIt
  have H0 : Hid (KidsT (dT + 1) w0 a n xs) := h
  have HP : Hid (∀ k, k < n → P (xs.getD k default)) := hP
  have HC : Hid (_) := con
  have HLX : Hid (xs.length = n) := h.1
  have hLw := hw.size
  clear h hP con
  go_enter Try.func45, Try.ntmps45
  go_wp2
  go_loopw [5, 10] (fun o i wr => ∃ (k : Nat) (ao : Option Addr) (cc : Nat), k ≤ n ∧ i = .int .i64 k ∧ o = .slice ao k cc ∧ Hid (OwnItZ D w0.heap.size w.heap.size wr ao k cc ((xs.take k).map (fun y => strI (sgK y (f y))))) ∧ Below w.heap.size w wr) (fun _ i _ => n - (intOf i).toNat)
  case atStart => exact ⟨0, none, 0, Nat.zero_le _, rfl, rfl, ownItZ_none _ _ _ _, Below.refl _ _⟩
  case round =>
    obtain ⟨k, ao, cc, hk, rfl, rfl, HO, hbr⟩ := hrel
    have hws := hbr.size
    by_cases hlt : k < n
    · obtain ⟨b, off, rfl, hlb, ab, nb, cb, ak, nk, ck, e0, e1, e2, e3, hr, hnl, hmx, hky, hov⟩ := H0.out.2.2 k hlt
      obtain ⟨y, hy⟩ : ∃ y, y = xs.getD k default := ⟨_, rfl⟩
      have HPY : Hid (P y) := by show P _; rw [hy]; exact HP.out k hlt
      rw [← hy] at e0 e1 hr hky hov
      have HEL : Hid (SgEl dT w0 y ab nb cb ak nk ck) := ⟨hr, hnl.1, hmx, hky, hov⟩
      have HXK : Hid ((xs.take (k + 1)).map (fun y => strI (sgK y (f y))) = (xs.take k).map (fun y => strI (sgK y (f y))) ++ [strI (sgK y (f y))]) := by show _ = _; rw [hy]; exact sg_next f xs k (by rw [HLX.out]; exact hlt)
      have hwr : Below w0.heap.size w0 wr := hw.trans (hbr.mono hLw)
      have c0 := (hwr.cell (p := ⟨b, off + k * 4, none⟩) hlb).trans e0
      have c1 := (hwr.cell (p := ⟨b, off + k * 4 + 1, none⟩) hlb).trans e1
      have c2 := (hwr.cell (p := ⟨b, off + k * 4 + 2, none⟩) hlb).trans e2
      have c3 := (hwr.cell (p := ⟨b, off + k * 4 + 3, none⟩) hlb).trans e3
      have hkni : (k : Int) < (n : Int) := by omega
      have hsw0 := hwr.size
      have hbw : b < wr.heap.size := by omega
      have hbz : Below wr.heap.size wr (wr.alloc (.cells #[.int .u64 y.ky, .int .i64 y.at2, .slice ab nb cb, .slice ak nk ck] 59)) := (Below.refl _ _).alloc (Nat.le_refl _) _
      have hwz : Below w0.heap.size w0 (wr.alloc (.cells #[.int .u64 y.ky, .int .i64 y.at2, .slice ab nb cb, .slice ak nk ck] 59)) := hwr.trans (hbz.mono hsw0)
      clear hy hr hnl hmx hky hov e0 e1 e2 e3
      go_wp2_with fail
      refine (HC.out y ab nb cb ak nk ck HEL.out HPY.out _ hwz).mono ?_
      rintro e w2 ⟨gr, rfl, hkg, hb2⟩
      have hb2r : Below wr.heap.size wr w2 := keepT hbz hb2
      have B2 : Below w.heap.size w w2 := hbr.trans (hb2r.mono hws)
      have hal : Below w2.heap.size w2 (w2.alloc (.cells #[.int .i64 0, .int .i64 16, .bool true, .slice none 0 0, .slice (some ⟨gr, 0, none⟩) 4 4] 43)) := (Below.refl _ _).alloc (Nat.le_refl _) _
      have B6 : Below w.heap.size w (w2.alloc (.cells #[.int .i64 0, .int .i64 16, .bool true, .slice none 0 0, .slice (some ⟨gr, 0, none⟩) 4 4] 43)) := B2.trans (hal.mono B2.size)
      have hs6 : (w2.alloc (.cells #[.int .i64 0, .int .i64 16, .bool true, .slice none 0 0, .slice (some ⟨gr, 0, none⟩) 4 4] 43)).heap.size = w2.heap.size + 1 := by simp
      have hs2 := hb2r.size
      have HQ3 : Hid (OwnItZ D w0.heap.size w.heap.size (w2.alloc (.cells #[.int .i64 0, .int .i64 16, .bool true, .slice none 0 0, .slice (some ⟨gr, 0, none⟩) 4 4] 43)) ao k cc ((xs.take k).map (fun y => strI (sgK y (f y))))) := (HO.out.kept hb2r).kept hal
      obtain ⟨vs, hrow⟩ := HQ3.out.row
      have HROW : Hid (_) := hrow
      have hown : ∀ b, (Value.slice ao k cc).ownBlock = some b → w.heap.size ≤ b ∧ b < wr.heap.size := fun b hb => by obtain ⟨vs0, hv0⟩ := HO.out.row; exact ⟨HO.out.2 b hb, (hv0.lt b hb).2⟩
      have HAPP : Hid (∀ g7 c7 w7, w7.ownsRow 0 43 5 (.slice (some ⟨g7, 0, none⟩) (k + 1) c7) (k + 1) (vs ++ itc (strI (sgK y (f y))) none 0 0 (some ⟨gr, 0, none⟩) 4 4) → (w2.alloc (.cells #[.int .i64 0, .int .i64 16, .bool true, .slice none 0 0, .slice (some ⟨gr, 0, none⟩) 4 4] 43)).grownBy w7 (Value.slice ao k cc).ownBlock → ((Value.slice ao k cc).ownBlock = some g7 ∨ g7 = w2.heap.size + 1) → OwnItZ D w0.heap.size w.heap.size w7 (some ⟨g7, 0, none⟩) (k + 1) c7 ((xs.take (k + 1)).map (fun y => strI (sgK y (f y)))) ∧ Below w.heap.size w w7) := by
        intro g7 c7 w7 hv7 hg7 hl7
        obtain ⟨S, k1, k2⟩ := hkg.kept hal
        have hsw : (wr.alloc (.cells #[.int .u64 y.ky, .int .i64 y.at2, .slice ab nb cb, .slice ak nk ck] 59)).heap.size = wr.heap.size + 1 := by simp
        rw [HXK.out]
        refine ⟨HQ3.out.appended (T := S) (ab := none) (nb := 0) (cb := 0) (ak := some ⟨gr, 0, none⟩) (nk := 4) (ck := 4) ⟨⟨⟨rfl, fun j hj => absurd hj (Nat.not_lt_zero _), by simp [strI, It.body]⟩, fun x hx => by cases hx⟩, fun _ => rfl, by decide, k1⟩ (fun b hb => ⟨by have := (k2 b hb).1; omega, (k2 b hb).2, fun e => by have := hown b e; have := (k2 b hb).1; omega⟩) (by omega) HROW.out hv7 hg7 (by rw [hs6]; exact hl7) B6.size, B6.grown hg7 (by have := B6.size; omega) (fun kx hx => HQ3.out.2 kx hx)⟩
      clear c0 c1 c2 c3 hrow HO hb2 hb2r B2 hal hbz hkg hwz
      go_wp2_with (at_builtin; refine wpList_append_lies _ rfl (.tmp 14) (.tmp 18) 41 rfl 0 43 i0 _ 5 72 Try.underlying41 hi hz0 hz1 hz2 rfl (by decide) _ k vs rfl HROW.out ⟨w2.heap.size, 0, none⟩ 1 1 [.int .i64 0, .int .i64 16, .bool true, .slice none 0 0, .slice (some ⟨gr, 0, none⟩) 4 4] rfl rfl (World.news_of_block (heap_alloc_new w2 (.cells #[.int .i64 0, .int .i64 16, .bool true, .slice none 0 0, .slice (some ⟨gr, 0, none⟩) 4 4] 43))) (by intro u hu; simp only [List.mem_cons, List.not_mem_nil, or_false] at hu; rcases hu with rfl | rfl | rfl | rfl | rfl <;> rfl) (by decide) (by unfold maxLen; omega) (by omega) (Nat.zero_le _) (w2.heap.size + 1) (by simp) ?_; intro g7 c7 w7 hv7 hg7 hl7 hlt7; have HN7 := HAPP.out g7 c7 w7 hv7 hg7 hl7; have HO7 : Hid (_) := HN7.1; have B7 := HN7.2; clear hv7 hg7 hl7 hlt7 HN7 HAPP HQ3 HROW)
      go_roundw
      case rel => exact ⟨k + 1, _, c7, by omega, by go_num, rfl, HO7, B7⟩
      case measure => simp [intOf]; omega
    · obtain rfl : k = n := by omega
      have HX : Hid (xs.take k = xs) := by show _ = _; rw [List.take_of_length_le (by rw [HLX.out]; exact Nat.le_refl _)]
      go_wp2
      go_ret
      refine ⟨ao, cc, rfl, ?_, hbr⟩
      have := HO.out
      rw [HX.out] at this
      exact this

set_option maxRecDepth 10000 in
set_option maxHeartbeats 4000000 in
theorem listItemSg_of (f : ItT → List It) (D dT : Nat) (w0 : World) (a : Option Addr) (n c : Nat) (xs : List ItT) (h : KidsT (dT + 1) w0 a n xs) (hn : n ≤ 1000) (P : ItT → Prop) (hP : ∀ k, k < n → P (xs.getD k default))
    (con : ∀ (y : ItT) (ab : Option Addr) (nb cb : Nat) (ak : Option Addr) (nk ck : Nat), SgEl dT w0 y ab nb cb ak nk ck → P y → ∀ W, Below w0.heap.size w0 W → Calls Try.prog 28 #[.agg #[.int .u64 y.ky, .int .i64 y.at2, .slice ab nb cb, .slice ak nk ck]] W fun e w' => ∃ gr, e = .returned (.agg #[.int .i64 0, .int .i64 16, .bool true, .slice none 0 0, .slice (some ⟨gr, 0, none⟩) 4 4]) ∧ KidZ w0.heap.size W.heap.size w' gr D (sgK y (f y)) ∧ Below W.heap.size W w') (w : World) (hw : Below w0.heap.size w0 w) :
    Calls Try.prog 27 #[.slice a n c, .func (Fn.func 28) #[] #[]] w fun e w' => ∃ ao co, e = .returned (.agg #[.int .i64 0, .int .i64 17, .bool true, .slice none 0 0, .slice ao n co]) ∧ ListZ w0.heap.size w.heap.size (D + 1) w' ao n (xs.map (fun y => strI (sgK y (f y)))) ∧ Below w.heap.size w w' := by
  have hbx := box5_below w
  have hsz := box5_size w
  have HB5 : Hid (_ = _) := box5_new w
  have hLw := hw.size
  have HE : Hid (_) := eachSg_of f D dT w0 a n c xs h hn P hP con (box5 w) (hw.trans (hbx.mono hLw))
  clear h hP con
  go_enter Try.func27, Try.ntmps27
  go_wp2_with fail
  refine Calls.mono HE.out ?_
  rintro e w2 ⟨ao, co, rfl, ho, hb2⟩
  have HK : Hid (KidsI (D + 1) (fun b => (b < w0.heap.size ∨ (box5 w).heap.size ≤ b) ∧ b < w2.heap.size) w2 ao n (xs.map (fun y => strI (sgK y (f y))))) := ho.kids
  have h5 := below_kept HB5.out hb2
  obtain ⟨_, q0, q1, q2, q3, q4, q5, q6, q7, q8, q9⟩ := Box5.of h5
  have H5 : Hid (_ = _) := h5
  have B2 : Below w.heap.size w w2 := keepT hbx hb2
  have hs2 := hb2.size
  clear ho h5 hb2 HE
  go_wp2_with fail
  try simp only [Exit.inBlock, Exit.then]
  have T := put5_touch w2 w.heap.size (.int .i64 0) (.int .i64 17) (.bool true) (.slice none 0 0) (.slice ao n co)
  refine bodyPost_ret (results_it rfl _ w.heap.size rfl _ _ _ _ _ _ (put5_heap H5.out _ _ _ _ _)) rfl ⟨ao, co, rfl, ⟨(HK.out.touch (fun b hb e => by have := hb.1; omega) T.toX).mono (fun b hb => ⟨by have := hb.1; omega, Nat.lt_of_lt_of_le hb.2 T.size⟩)⟩, B2.trans (T.below (Nat.le_refl _) B2.size)⟩

/-- A signer over whom nobody has signed; one over whom such ones have. -/
theorem signerItem_0 (dT : Nat) (w0 : World) (y : ItT) (ab : Option Addr) (nb cb : Nat) (ak : Option Addr) (nk ck : Nat) (h : SgEl dT w0 y ab nb cb ak nk ck) (hat : W64 y.at2) (ho : y.over = []) (w : World) (hw : Below w0.heap.size w0 w) :
    Calls Try.prog 28 #[.agg #[.int .u64 y.ky, .int .i64 y.at2, .slice ab nb cb, .slice ak nk ck]] w fun e w' => ∃ gr, e = .returned (.agg #[.int .i64 0, .int .i64 16, .bool true, .slice none 0 0, .slice (some ⟨gr, 0, none⟩) 4 4]) ∧ KidZ w0.heap.size w.heap.size w' gr 2 (sgK y []) ∧ Below w.heap.size w w' := by
  refine signerItem_of y [] 0 ab nb cb ak nk ck w0.heap.size w hw.size h.ky hat (fun B W hW => row_itz (h.row.kept (hw.trans (hW.mono hw.size))) (row_lt h.row) h.nil 4 h.max) (fun W hW => ?_)
  have hk := h.over
  cases dT with
  | zero => exact hk.elim
  | succ dT =>
    have hn : nk = 0 := by rw [← hk.1, ho]; rfl
    subst hn
    refine (listItemSg_of (fun _ => []) 0 dT w0 ak 0 ck y.over hk (by decide) (fun _ => False) (fun k hk => absurd hk (Nat.not_lt_zero _)) (fun _ _ _ _ _ _ _ _ hF => hF.elim) W (hw.trans (hW.mono hw.size))).mono ?_
    rintro e w' ⟨ao, co, rfl, hl, hb⟩
    rw [ho] at hl
    exact ⟨ao, co, rfl, hl, hb⟩
theorem signerItem_1 (dT : Nat) (w0 : World) (y : ItT) (ab : Option Addr) (nb cb : Nat) (ak : Option Addr) (nk ck : Nat) (h : SgEl dT w0 y ab nb cb ak nk ck) (hat : W64 y.at2) (hn : y.over.length ≤ 1000) (ho : ∀ k, k < y.over.length → W64 (y.over.getD k default).at2 ∧ (y.over.getD k default).over = []) (w : World) (hw : Below w0.heap.size w0 w) :
    Calls Try.prog 28 #[.agg #[.int .u64 y.ky, .int .i64 y.at2, .slice ab nb cb, .slice ak nk ck]] w fun e w' => ∃ gr, e = .returned (.agg #[.int .i64 0, .int .i64 16, .bool true, .slice none 0 0, .slice (some ⟨gr, 0, none⟩) 4 4]) ∧ KidZ w0.heap.size w.heap.size w' gr 4 (sgK y (y.over.map sgI0)) ∧ Below w.heap.size w w' := by
  refine signerItem_of y (y.over.map sgI0) 2 ab nb cb ak nk ck w0.heap.size w hw.size h.ky hat (fun B W hW => row_itz (h.row.kept (hw.trans (hW.mono hw.size))) (row_lt h.row) h.nil 4 h.max) (fun W hW => ?_)
  have hk := h.over
  cases dT with
  | zero => exact hk.elim
  | succ dT =>
    have hl := hk.1
    exact listItemSg_of (fun _ => []) 2 dT w0 ak nk ck y.over hk (by omega) (fun z => W64 z.at2 ∧ z.over = []) (fun k hk => ho k (by omega)) (fun z ab nb cb ak nk ck hz hp W hW => signerItem_0 dT w0 z ab nb cb ak nk ck hz hp.1 hp.2 W hW) W (hw.trans (hW.mono hw.size))
theorem okS_parts {xs : List ItT} (h : okS 2 xs) : xs.length ≤ 6 ∧ ∀ k, k < xs.length → W64 (xs.getD k default).at2 ∧ (xs.getD k default).sg.length ≤ 500 ∧ (xs.getD k default).over.length ≤ 6 ∧ ∀ j, j < (xs.getD k default).over.length → W64 ((xs.getD k default).over.getD j default).at2 ∧ ((xs.getD k default).over.getD j default).sg.length ≤ 500 ∧ ((xs.getD k default).over.getD j default).over = [] := by
  refine ⟨h.1, fun k hk => ?_⟩
  obtain ⟨h1, h2, h3⟩ := h.2 k hk
  refine ⟨⟨by have := h1.1; omega, by have := h1.2; omega⟩, h2, h3.1, fun j hj => ?_⟩
  obtain ⟨q1, q2, q3⟩ := h3.2 j hj
  exact ⟨⟨by have := q1.1; omega, by have := q1.2; omega⟩, q2, List.eq_nil_of_length_eq_zero q3⟩
theorem listItemSg_any (dT : Nat) (w0 : World) (a : Option Addr) (n c : Nat) (xs : List ItT) (h : KidsT dT w0 a n xs) (hok : okS 2 xs) (w : World) (hw : Below w0.heap.size w0 w) :
    Calls Try.prog 27 #[.slice a n c, .func (Fn.func 28) #[] #[]] w fun e w' => ∃ ao co, e = .returned (.agg #[.int .i64 0, .int .i64 17, .bool true, .slice none 0 0, .slice ao n co]) ∧ ListZ w0.heap.size w.heap.size 5 w' ao n (xs.map sgI1) ∧ Below w.heap.size w w' := by
  cases dT with
  | zero => exact h.elim
  | succ dT =>
    have hl := h.1
    obtain ⟨h6, hp⟩ := okS_parts hok
    exact listItemSg_of (fun y => y.over.map sgI0) 4 dT w0 a n c xs h (by omega) (fun y => W64 y.at2 ∧ y.over.length ≤ 6 ∧ ∀ k, k < y.over.length → W64 (y.over.getD k default).at2 ∧ (y.over.getD k default).over = []) (fun k hk => ⟨(hp k (by omega)).1, (hp k (by omega)).2.2.1, fun j hj => ⟨((hp k (by omega)).2.2.2 j hj).1, ((hp k (by omega)).2.2.2 j hj).2.2⟩⟩) (fun z ab nb cb ak nk ck hz hq W hW => signerItem_1 dT w0 z ab nb cb ak nk ck hz hq.1 (by have := hq.2.1; omega) hq.2.2 W hW) w hw

end Go.Proofs.Ytlcojjcgaibbiaa
