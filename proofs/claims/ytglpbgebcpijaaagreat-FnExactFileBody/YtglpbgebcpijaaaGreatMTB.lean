import Derived.Test.YtglpbgebcpijaaaGreatMTP
import Derived.Test.YtglpbgebcpijaaaGreatRG
import Derived.Deep.AppendLies
import Derived.ArgAppend
set_option linter.unusedVariables false
namespace Go.Proofs.YtglpbgebcpijaaaGreat
open Go.RowKit Go.Sort

theorem opw_buildSliceT {P : Program} {Q : Exit → Act → World → Prop} {o : Oper} {a : Act} {w : World} {K : Act → World → Prop} (t : TypeId) (n : Nat) (parts : Array (Nat × Operand)) (ho : o.op = .buildSlice t n parts) (vs : Array (Nat × Value)) (hvs : (parts.map fun p => (p.1, a.eval p.2)) = vs) (v : Value) (w' : World)
    (hr : (Instr.buildSlice t n vs).run P w = .ok v w') (h : K (a.put o.dst v) w') : o.wp P a w K Q := by
  refine opw_value v ?_ h
  have hvs' : (parts.map fun x : Nat × Operand => match x with | (i, x) => (i, a.eval x)) = vs := hvs
  unfold execOp
  simp only [ho]
  rw [hvs']
  simp [hr]
/-- A row of bytes in the block g, made by us. -/
structure RowG (B : Nat) (w : World) (g k n : Nat) (bs : List Int) : Prop where
  ge : B ≤ g
  row : RowI (fun b => b = g) w (some ⟨g, k, none⟩) n bs
theorem Row.atG {w : World} {g k n : Nat} {bs : List Int} (h : Row w (some ⟨g, k, none⟩) n bs) : RowI (fun b => b = g) w (some ⟨g, k, none⟩) n bs := ⟨h, fun x hx _ => by injection hx with hx; rw [← hx]⟩
theorem RowG.kept {B : Nat} {w w' : World} {g k n : Nat} {bs : List Int} (h : RowG B w g k n bs) (hb : Below w.heap.size w w') : RowG B w' g k n bs := ⟨h.ge, h.row.touch (P := fun _ => False) (fun _ _ h => h) (TouchX.of_below hb)⟩
theorem RowG.touched {B : Nat} {w w' : World} {g k n gb : Nat} {bs : List Int} (h : RowG B w g k n bs) (ht : Touch gb (gb + 1) w w') (hlt : gb < B) : RowG B w' g k n bs := ⟨h.ge, h.row.touch (fun b hb e => by have := h.ge; omega) ht.toX⟩
/-- A row of items in blocks of our own from B on. -/
def KidG (B : Nat) (w : World) (g d : Nat) (ks : List It) : Prop := ∃ S : Nat → Prop, KidsI d S w (some ⟨g, 0, none⟩) ks.length ks ∧ ∀ b, S b → B ≤ b ∧ b < w.heap.size
theorem KidG.kept {B : Nat} {w w' : World} {g d : Nat} {ks : List It} (h : KidG B w g d ks) (hb : Below w.heap.size w w') : KidG B w' g d ks := by
  obtain ⟨S, h1, h2⟩ := h
  exact ⟨S, h1.touch (P := fun _ => False) (fun _ _ h => h) (TouchX.of_below hb), fun b hs => ⟨(h2 b hs).1, Nat.lt_of_lt_of_le (h2 b hs).2 hb.size⟩⟩
theorem KidG.touched {B : Nat} {w w' : World} {g d gb : Nat} {ks : List It} (h : KidG B w g d ks) (ht : Touch gb (gb + 1) w w') (hlt : gb < B) : KidG B w' g d ks := by
  obtain ⟨S, h1, h2⟩ := h
  exact ⟨S, h1.touch (fun b hb e => by have := (h2 b hb).1; omega) ht.toX, fun b hs => ⟨(h2 b hs).1, Nat.lt_of_lt_of_le (h2 b hs).2 ht.size⟩⟩
theorem KidG.mono {B B' : Nat} {w : World} {g d : Nat} {ks : List It} (h : KidG B w g d ks) (hB : B' ≤ B) : KidG B' w g d ks := by
  obtain ⟨S, h1, h2⟩ := h
  exact ⟨S, h1, fun b hs => ⟨Nat.le_trans hB (h2 b hs).1, (h2 b hs).2⟩⟩
theorem RowG.itv {B : Nat} {w : World} {g k n : Nat} {bs : List Int} (h : RowG B w g k n bs) (t : Int) (hn : n ≤ 9223372036854775807) {T : Nat → Prop} (hT : T g) : ItV 1 T w (.mk 0 t false bs []) (some ⟨g, k, none⟩) n n none 0 0 :=
  ⟨h.row.mono (fun b hb => by rw [hb]; exact hT), fun h => (by cases h), hn, KidsI.none 0 _ _ _⟩
theorem RowG.blk {B : Nat} {w : World} {g k n : Nat} {bs : List Int} (h : RowG B w g k n bs) (hn : 0 < n) : g < w.heap.size := by
  obtain ⟨b, off, ha, hlt, _⟩ := h.row.row.get 0 hn
  injection ha with ha
  injection ha with h1 h2
  rw [h1]; exact hlt
theorem kidG_two {B : Nat} {X : World} {g1 k1 n1 g2 k2 n2 t1 : Nat} {b1 b2 : List Int} (hB : B ≤ X.heap.size) (h1 : RowG B X g1 k1 n1 b1) (h2 : RowG B X g2 k2 n2 b2) (z1 : 0 < n1 ∧ n1 ≤ 1000) (z2 : 0 < n2 ∧ n2 ≤ 1000) : KidG B (X.alloc (.cells #[.int .i64 0, .int .i64 (t1 : Nat), .bool false, .slice (some ⟨g1, k1, none⟩) n1 n1, .slice none 0 0, .int .i64 0, .int .i64 2, .bool false, .slice (some ⟨g2, k2, none⟩) n2 n2, .slice none 0 0] 117)) X.heap.size 2 [.mk 0 (t1 : Nat) false b1 [], .mk 0 2 false b2 []] := by
  refine ⟨fun b => b = g1 ∨ b = g2 ∨ b = X.heap.size, kidsI_two (S := fun b => b = g1 ∨ b = g2) (h1.itv (t1 : Nat) (by omega) (.inl rfl)) (h2.itv 2 (by omega) (.inr rfl)) (fun b hb => hb.elim .inl (fun h => .inr (.inl h))) (.inr (.inr rfl)) rfl, fun b hb => ?_⟩
  have s : (X.alloc (.cells #[.int .i64 0, .int .i64 (t1 : Nat), .bool false, .slice (some ⟨g1, k1, none⟩) n1 n1, .slice none 0 0, .int .i64 0, .int .i64 2, .bool false, .slice (some ⟨g2, k2, none⟩) n2 n2, .slice none 0 0] 117)).heap.size = X.heap.size + 1 := by simp
  have l1 := h1.blk z1.1
  have l2 := h2.blk z2.1
  have := h1.ge
  have := h2.ge
  omega

set_option maxRecDepth 10000 in
set_option maxHeartbeats 1000000 in
theorem structItem_agg (a : Option Addr) (n c : Nat) (w : World) :
    Calls Tryz.prog 132 #[.slice a n c] w fun e w' => e = .returned (.agg #[.int .i64 0, .int .i64 16, .bool true, .slice none 0 0, .slice a n c]) ∧ Below w.heap.size w w' := by
  go_enter Tryz.func132, Tryz.ntmps132
  go_wp2_with fail
  try simp only [Exit.inBlock, Exit.then]
  exact bodyPost_ret (results_it rfl _ w.heap.size rfl _ _ _ _ _ _ (heap_alloc_new w _)) rfl ⟨rfl, (Below.refl _ _).alloc (Nat.le_refl _) _⟩

/-- What is known of a region (RJ). -/
def te1 (y : Int × Int) (R G B : Nat) : RSpec where
  m := 9
  n := 11
  slots := [3, 4, 5, 6, 7, 8, 9, 10, 100008, 100009, 100010]
  kills := [[], [], [], [], [], [], [], [], [], [], [8]]
  pres := [[], [], [], [], [], [], [], [], [], [], []]
  fact := fun k v w => match k with
    | 0 => v = .pointer (some ⟨G, 0, none⟩)
    | 1 => v = .int .u64 y.1
    | 2 => ∃ g1, v = .agg #[.int .i64 0, .int .i64 4, .bool false, .slice (some ⟨g1, 0, none⟩) 8 8, .slice none 0 0] ∧ RowG R w g1 0 8 (eightI y.1) ∧ G + 1 < R
    | 3 => v = .pointer (some ⟨G, 1, none⟩)
    | 4 => v = .int .i64 y.2
    | 5 => ∃ g2 k2, v = .agg #[.int .i64 0, .int .i64 2, .bool false, .slice (some ⟨g2, k2, none⟩) (wsz y.2) (wsz y.2), .slice none 0 0] ∧ RowG R w g2 k2 (wsz y.2) (wbL y.2) ∧ G + 1 < R
    | 6 => ∃ gr, v = .slice (some ⟨gr, 0, none⟩) 2 2 ∧ KidG R w gr 2 [bytI (eightI y.1), numI y.2] ∧ G + 1 < R
    | 7 => ∃ gr, v = .agg #[.int .i64 0, .int .i64 16, .bool true, .slice none 0 0, .slice (some ⟨gr, 0, none⟩) 2 2] ∧ KidG R w gr 2 [bytI (eightI y.1), numI y.2] ∧ G + 1 < R
    | 8 => ∃ gr, w.heap[(G + 1)]? = some (.cells #[.int .i64 0, .int .i64 16, .bool true, .slice none 0 0, .slice (some ⟨gr, 0, none⟩) 2 2] 117 (0, 0)) ∧ KidG R w gr 2 [bytI (eightI y.1), numI y.2] ∧ G + 1 < R
    | 9 => w.heap[G]? = some (.cells #[.int .u64 y.1, .int .i64 y.2] 91 (0, 0))
    | _ => w.heap[(G + 1)]? = some (.cells #[.int .i64 0, .int .i64 0, .bool false, .slice none 0 0, .slice none 0 0] 117 (0, 0))
set_option linter.unusedVariables false in
theorem te1_stb (y : Int × Int) (R G B : Nat) (k : Nat) (hk : k < 11) : StB ((te1 y R G (B)).fact k) := by
  match k, hk with
  | 0, _ => exact fun _ _ _ h _ => h
  | 1, _ => exact fun _ _ _ h _ => h
  | 2, _ => exact fun _ _ _ ⟨g1, hv, q_0, q_1⟩ hb => ⟨g1, hv, q_0.kept hb, q_1⟩
  | 3, _ => exact fun _ _ _ h _ => h
  | 4, _ => exact fun _ _ _ h _ => h
  | 5, _ => exact fun _ _ _ ⟨g2, k2, hv, q_0, q_1⟩ hb => ⟨g2, k2, hv, q_0.kept hb, q_1⟩
  | 6, _ => exact fun _ _ _ ⟨gr, hv, q_0, q_1⟩ hb => ⟨gr, hv, q_0.kept hb, q_1⟩
  | 7, _ => exact fun _ _ _ ⟨gr, hv, q_0, q_1⟩ hb => ⟨gr, hv, q_0.kept hb, q_1⟩
  | 8, _ => exact fun _ _ _ ⟨gr, q_0, q_1, q_2⟩ hb => ⟨gr, below_kept q_0 hb, q_1.kept hb, q_2⟩
  | 9, _ => exact fun _ _ _ q_0 hb => below_kept q_0 hb
  | 10, _ => exact fun _ _ _ q_0 hb => below_kept q_0 hb
  | k + 11, hk => omega
set_option linter.unusedVariables false in
theorem te1_st8 (y : Int × Int) (R G B : Nat) {W W2 : World} {cs : Array Value} {fr : Nat × Nat} (hg : W.heap[(G + 1)]? = some (.cells cs 117 fr)) (ht : Touch ((G + 1)) ((G + 1) + 1) W W2) (k : Nat) (hk : k < 11) (hne : k ≠ 8) (hkill : 8 ∉ (te1 y R G (B)).kill k) (v : Value) (hfact : (te1 y R G (B)).fact k v W) : (te1 y R G (B)).fact k v W2 := by
  match k, hk, hne, hkill, hfact with
  | 0, _, _, _, hq => exact hq
  | 1, _, _, _, hq => exact hq
  | 2, _, _, _, ⟨g1, hv, q_0, q_1⟩ => exact ⟨g1, hv, q_0.touched ht (by omega), q_1⟩
  | 3, _, _, _, hq => exact hq
  | 4, _, _, _, hq => exact hq
  | 5, _, _, _, ⟨g2, k2, hv, q_0, q_1⟩ => exact ⟨g2, k2, hv, q_0.touched ht (by omega), q_1⟩
  | 6, _, _, _, ⟨gr, hv, q_0, q_1⟩ => exact ⟨gr, hv, q_0.touched ht (by omega), q_1⟩
  | 7, _, _, _, ⟨gr, hv, q_0, q_1⟩ => exact ⟨gr, hv, q_0.touched ht (by omega), q_1⟩
  | 8, _, hne, _, _ => exact absurd rfl hne
  | 9, _, _, _, q_0 => exact box_box q_0 hg (by decide) ht
  | 10, _, _, hkill, _ => exact absurd (List.Mem.head _) hkill
  | k + 11, hk, _, _, _ => omega

set_option maxRecDepth 10000 in
set_option maxHeartbeats 4000000 in
theorem entryItem_any (y : Int × Int) (w : World) (hu : U64 y.1) (hi : -9223372036854775808 ≤ y.2 ∧ y.2 ≤ 9223372036854775807) :
    Calls Tryz.prog 114 #[.agg #[.int .u64 y.1, .int .i64 y.2]] w fun e w' => ∃ gr, e = .returned (.agg #[.int .i64 0, .int .i64 16, .bool true, .slice none 0 0, .slice (some ⟨gr, 0, none⟩) 2 2]) ∧ KidG w.heap.size w' gr 2 [bytI (eightI y.1), numI y.2] ∧ Below w.heap.size w w' := by
  obtain ⟨w1, hw1⟩ : ∃ w1, w1 = (w.alloc (.cells #[.int .u64 y.1, .int .i64 y.2] 91)).alloc (.cells #[.int .i64 0, .int .i64 0, .bool false, .slice none 0 0, .slice none 0 0] 117) := ⟨_, rfl⟩
  have hbb : Below w.heap.size w w1 := by rw [hw1]; exact ((Below.refl _ _).alloc (Nat.le_refl _) _).alloc (by simp) _
  have HB1 : Hid (_ ∧ _) := two_blocks w (.cells #[.int .u64 y.1, .int .i64 y.2] 91) (.cells #[.int .i64 0, .int .i64 0, .bool false, .slice none 0 0, .slice none 0 0] 117)
  rw [← hw1] at HB1
  have hsz : w1.heap.size = w.heap.size + 2 := by rw [hw1]; simp
  have HGB : w.heap.size + 1 < w1.heap.size := by omega
  have HBB : w.heap.size ≤ w1.heap.size := hbb.size
  have HW : Hid (_ = _) := hw1
  clear hw1
  go_enter Tryz.func114, Tryz.ntmps114
  go_upto_region 1 with fail
  rw [← HW.out]
  clear HW
  refine wp_region_ri (te1 y w1.heap.size w.heap.size (w.heap.size)) [3, 4, 5, 6, 7, 8, 9, 10] (w.heap.size) (fun a0 => a0.tmps.size = 11 ∧ aT a0 1 = .pointer (some ⟨w.heap.size, 0, none⟩) ∧ aT a0 2 = .pointer (some ⟨(w.heap.size + 1), 0, none⟩)) (by kernel_rfl) rfl (by kernel_rfl) rfl ⟨rfl, rfl, rfl⟩ (te1_stb y w1.heap.size w.heap.size (w.heap.size)) ?_ ?_ ?_
  · intro k hk hk2
    match k, hk, hk2 with
    | 9, _, _ => exact HB1.out.1
    | 10, _, _ => exact HB1.out.2
    | 0, hk, _ => exact absurd hk (by show ¬ (9 ≤ 0); omega)
    | 1, hk, _ => exact absurd hk (by show ¬ (9 ≤ 1); omega)
    | 2, hk, _ => exact absurd hk (by show ¬ (9 ≤ 2); omega)
    | 3, hk, _ => exact absurd hk (by show ¬ (9 ≤ 3); omega)
    | 4, hk, _ => exact absurd hk (by show ¬ (9 ≤ 4); omega)
    | 5, hk, _ => exact absurd hk (by show ¬ (9 ≤ 5); omega)
    | 6, hk, _ => exact absurd hk (by show ¬ (9 ≤ 6); omega)
    | 7, hk, _ => exact absurd hk (by show ¬ (9 ≤ 7); omega)
    | 8, hk, _ => exact absurd hk (by show ¬ (9 ≤ 8); omega)
    | k + 11, _, hk2 => exact absurd hk2 (by show ¬ (k + 11 < 11); omega)
  · rintro a0 ⟨hz, g1, g2⟩
    refine StepsRI.cons ?_ (StepsRI.cons ?_ (StepsRI.cons ?_ (StepsRI.cons ?_ (StepsRI.cons ?_ (StepsRI.cons ?_ (StepsRI.cons ?_ (StepsRI.cons ?_ (StepsRI.cons ?_ (StepsRI.nil)))))))))
    · intro lQ b W hI hUN hED KQ hKQ
      exact opw_field 91 1 0 rfl _ ((hI.fr.same 1 (by decide)).trans g1) _ (by kernel_rfl) (hKQ.out _ _ (hI.put 0 3 rfl rfl (by rw [hz]; decide) rfl hUN rfl HBB (te1_stb y w1.heap.size w.heap.size (w.heap.size)) (Below.refl _ _) rfl))
    · intro lQ b W hI hUN hED KQ hKQ
      have f := hI.got 0 (of_decide_eq_true rfl) (edge hED 0 (by kernel_rfl)) rfl
      have hg := (hI.vot 9 (of_decide_eq_true rfl) (of_decide_eq_true rfl) rfl)
      have hc : W.cell? ⟨w.heap.size, 0, none⟩ = some (.int .u64 y.1) := (cell_of_row _ _ 0 _ _ (0, 0) hg).trans rfl
      exact opw_load1 26 3 rfl _ f _ (by simp [Instr.loadAt, go_sem, hc]) (hKQ.out _ _ (hI.put 1 4 rfl rfl (by rw [hz]; decide) rfl hUN rfl HBB (te1_stb y w1.heap.size w.heap.size (w.heap.size)) (Below.refl _ _) rfl))
    · intro lQ b W hI hUN hED KQ hKQ
      have f0 := hI.got 1 (of_decide_eq_true rfl) (edge hED 1 (by kernel_rfl)) rfl
      replace f0 : aT b 4 = .int .u64 y.1 := f0
      refine opw_call 133 #[.tmp 4] _ _ _ rfl Tryz.func133 (by kernel_rfl) rfl #[.int .u64 y.1] (by simp [ev, f0]) ?_
      refine (digestItem_agg y.1 W hu.1 hu.2).mono ?_
      rintro e W2 ⟨g1, rfl, hge, hr, hb⟩
      exact ⟨_, rfl, hKQ.out _ _ (hI.put 2 5 rfl rfl (by rw [hz]; decide) rfl hUN rfl HBB (te1_stb y w1.heap.size w.heap.size (w.heap.size)) hb ⟨g1, rfl, ⟨Nat.le_trans hI.bel.size hge, hr.atG⟩, HGB⟩)⟩
    · intro lQ b W hI hUN hED KQ hKQ
      exact opw_field 91 1 1 rfl _ ((hI.fr.same 1 (by decide)).trans g1) _ (by kernel_rfl) (hKQ.out _ _ (hI.put 3 6 rfl rfl (by rw [hz]; decide) rfl hUN rfl HBB (te1_stb y w1.heap.size w.heap.size (w.heap.size)) (Below.refl _ _) rfl))
    · intro lQ b W hI hUN hED KQ hKQ
      have f := hI.got 3 (of_decide_eq_true rfl) (edge hED 3 (by kernel_rfl)) rfl
      have hg := (hI.vot 9 (of_decide_eq_true rfl) (of_decide_eq_true rfl) rfl)
      have hc : W.cell? ⟨w.heap.size, 1, none⟩ = some (.int .i64 y.2) := (cell_of_row _ _ 1 _ _ (0, 0) hg).trans rfl
      exact opw_load1 2 6 rfl _ f _ (by simp [Instr.loadAt, go_sem, hc]) (hKQ.out _ _ (hI.put 4 7 rfl rfl (by rw [hz]; decide) rfl hUN rfl HBB (te1_stb y w1.heap.size w.heap.size (w.heap.size)) (Below.refl _ _) rfl))
    · intro lQ b W hI hUN hED KQ hKQ
      have f0 := hI.got 4 (of_decide_eq_true rfl) (edge hED 4 (by kernel_rfl)) rfl
      replace f0 : aT b 7 = .int .i64 y.2 := f0
      refine opw_call 128 #[.tmp 7] _ _ _ rfl Tryz.func128 (by kernel_rfl) rfl #[.int .i64 y.2] (by simp [ev, f0]) ?_
      refine (numberItem_agg y.2 W hi.1 hi.2).mono ?_
      rintro e W2 ⟨g2, k2, rfl, hge, hr, hb⟩
      exact ⟨_, rfl, hKQ.out _ _ (hI.put 5 8 rfl rfl (by rw [hz]; decide) rfl hUN rfl HBB (te1_stb y w1.heap.size w.heap.size (w.heap.size)) hb ⟨g2, k2, rfl, ⟨Nat.le_trans hI.bel.size hge, hr.atG⟩, HGB⟩)⟩
    · intro lQ b W hI hUN hED KQ hKQ
      obtain ⟨g1, f0, o0, _⟩ := hI.got 2 (of_decide_eq_true rfl) (edge hED 2 (by kernel_rfl)) rfl
      obtain ⟨g2, k2, f1, o1, _⟩ := hI.got 5 (of_decide_eq_true rfl) (edge hED 5 (by kernel_rfl)) rfl
      replace f0 : aT b 5 = .agg #[.int .i64 0, .int .i64 4, .bool false, .slice (some ⟨g1, 0, none⟩) 8 8, .slice none 0 0] := f0
      replace f1 : aT b 8 = .agg #[.int .i64 0, .int .i64 2, .bool false, .slice (some ⟨g2, k2, none⟩) (wsz y.2) (wsz y.2), .slice none 0 0] := f1
      refine opw_buildSliceT _ 2 _ rfl #[(0, .agg #[.int .i64 0, .int .i64 4, .bool false, .slice (some ⟨g1, 0, none⟩) 8 8, .slice none 0 0]), (1, .agg #[.int .i64 0, .int .i64 2, .bool false, .slice (some ⟨g2, k2, none⟩) (wsz y.2) (wsz y.2), .slice none 0 0])] (by simp [ev, f0, f1]) (.slice (some ⟨W.heap.size, 0, none⟩) 2 2) (W.alloc (.cells #[.int .i64 0, .int .i64 4, .bool false, .slice (some ⟨g1, 0, none⟩) 8 8, .slice none 0 0, .int .i64 0, .int .i64 2, .bool false, .slice (some ⟨g2, k2, none⟩) (wsz y.2) (wsz y.2), .slice none 0 0] 117)) (by kernel_rfl) ?_
      exact hKQ.out _ _ (hI.put 6 9 rfl rfl (by rw [hz]; decide) rfl hUN rfl HBB (te1_stb y w1.heap.size w.heap.size (w.heap.size)) ((Below.refl _ _).alloc (Nat.le_refl _) _) ⟨W.heap.size, rfl, kidG_two hI.bel.size o0 o1 (by decide) (by have := wsz_bd y.2; omega), HGB⟩)
    · intro lQ b W hI hUN hED KQ hKQ
      have f0 := hI.got 6 (of_decide_eq_true rfl) (edge hED 6 (by kernel_rfl)) rfl
      obtain ⟨gr, f0, o0_0, o0_1⟩ := f0
      replace f0 : aT b 9 = .slice (some ⟨gr, 0, none⟩) 2 2 := f0
      refine opw_call 132 #[.tmp 9] _ _ _ rfl Tryz.func132 (by kernel_rfl) rfl #[.slice (some ⟨gr, 0, none⟩) 2 2] (by simp [ev, f0]) ?_
      refine (structItem_agg (some ⟨gr, 0, none⟩) 2 2 W).mono ?_
      rintro e W2 ⟨rfl, hb⟩
      exact ⟨_, rfl, hKQ.out _ _ (hI.put 7 10 rfl rfl (by rw [hz]; decide) rfl hUN rfl HBB (te1_stb y w1.heap.size w.heap.size (w.heap.size)) hb ⟨gr, rfl, o0_0.kept hb, HGB⟩)⟩
    · intro lQ b W hI hUN hED KQ hKQ
      have hgb := (hI.vot1 10 8 (of_decide_eq_true rfl) (of_decide_eq_true rfl) hUN rfl)
      have fb := ((hI.fr.same 2 (by decide)).trans g2)
      have f := hI.got 7 (of_decide_eq_true rfl) (edge hED 7 (by kernel_rfl)) rfl
      obtain ⟨gr, f, o_0, o_1⟩ := f
      refine wp_store_row 117 _ _ rfl ((w.heap.size + 1)) #[.int .i64 0, .int .i64 16, .bool true, .slice none 0 0, .slice (some ⟨gr, 0, none⟩) 2 2] fb f 117 _ hgb (by kernel_rfl) rfl (by simp [Value.oneCell']) ?_
      have ht := setRow_touch W ((w.heap.size + 1)) #[.int .i64 0, .int .i64 16, .bool true, .slice none 0 0, .slice (some ⟨gr, 0, none⟩) 2 2]
      exact hKQ.out _ _ (hI.store 8 (fun j hj => by cases hj) (hI.bel.trans (ht.below (by first | exact HGE2 | omega) (Nat.le_trans HBB hI.bel.size))) (te1_st8 y w1.heap.size w.heap.size (w.heap.size) hgb ht) ⟨gr, (setRow_heap W ((w.heap.size + 1)) _ _ _ _ hgb), o_0.touched ht (by omega), o_1⟩)
  · intro b W hf hb F
    obtain ⟨gr, hbx, hk, _⟩ := F 8 (of_decide_eq_true rfl) rfl
    rw [hf.eq]
    simp only [puts, Act.put, List.setIfInBounds_toArray, List.set_cons_zero, List.set_cons_succ]
    clear hf F
    generalize aT b = AT
    clear b
    go_wp2
    try simp only [Exit.inBlock, Exit.then]
    exact bodyPost_ret (results_it rfl _ (w.heap.size + 1) rfl _ _ _ _ _ _ hbx) rfl ⟨gr, rfl, hk.mono hbb.size, hbb.trans hb⟩

end Go.Proofs.YtglpbgebcpijaaaGreat

set_option linter.unusedVariables false
namespace Go.Proofs.YtglpbgebcpijaaaGreat
open Go.RowKit Go.Sort

theorem Tryz.infoIt : (Tryz.prog.info? 117).map (fun i => (i.zero, i.size, i.bytes)) = some (some (.agg #[.int .i64 0, .int .i64 0, .bool false, .slice none 0 0, .slice none 0 0]), 5, 72) := by kernel_rfl
/-- A row of items of our own; all else of it from R on. -/
def OwnItR (d R : Nat) (w : World) (a : Option Addr) (n c : Nat) (xs : List It) : Prop := OwnIts d (fun b => R ≤ b ∧ b < w.heap.size ∧ (Value.slice a n c).ownBlock ≠ some b) w a n c xs ∧ ∀ b, (Value.slice a n c).ownBlock = some b → R ≤ b
theorem ownItR_none (d R : Nat) (w : World) : OwnItR d R w none 0 0 [] := ⟨(OwnIts.nil d w).mono (fun _ h => h.elim) (fun b hb => by cases hb), fun b hb => by cases hb⟩
theorem OwnItR.kept {d R : Nat} {w w' : World} {a : Option Addr} {n c : Nat} {xs : List It} (h : OwnItR d R w a n c xs) (hb : Below w.heap.size w w') : OwnItR d R w' a n c xs :=
  ⟨(h.1.kept hb).mono (fun k hk => ⟨hk.1, Nat.lt_of_lt_of_le hk.2.1 hb.size, hk.2.2⟩) (fun b hb hc => hc.2.2 hb), h.2⟩
/-- One more, whose parts were made behind all this. -/
theorem OwnItR.appended {d R : Nat} {w1 w : World} {a : Option Addr} {n c : Nat} {xs : List It} {y : It} {ab : Option Addr} {nb cb : Nat} {ak : Option Addr} {nk ck : Nat} {g' c' : Nat} {T : Nat → Prop}
    (h : OwnItR d R w a n c xs) (hy : ItV d T w y ab nb cb ak nk ck) (hT : ∀ b, T b → R ≤ b ∧ b < w.heap.size ∧ (Value.slice a n c).ownBlock ≠ some b) (hn : n + 1 ≤ 9223372036854775807)
    {vs : List Value} (hv0 : w.ownsRow 0 117 5 (.slice a n c) n vs) (hv : w1.ownsRow 0 117 5 (.slice (some ⟨g', 0, none⟩) (n + 1) c') (n + 1) (vs ++ itc y ab nb cb ak nk ck)) (hg : w.grownBy w1 (Value.slice a n c).ownBlock) (hl : (Value.slice a n c).ownBlock = some g' ∨ g' = w.heap.size) (hR : R ≤ w.heap.size) : OwnItR d R w1 (some ⟨g', 0, none⟩) (n + 1) c' (xs ++ [y]) := by
  refine ⟨((h.1.appended (hy.mono hT) (fun b hb => hb) (fun b hb hc => hc.2.2 hb) (fun b hb => hb.2.1) hn hv0 hv hg hl)).mono (fun k hk => ⟨hk.1, Nat.lt_of_lt_of_le hk.2.1 hg.size, fun e => ?_⟩) (fun b hb hc => hc.2.2 hb), fun b hb => ?_⟩
  · have e2 : g' = k := by injection e
    rcases hl with hl | hl
    · exact hk.2.2 (by rw [hl, e2])
    · have := hk.2.1
      omega
  · have e2 : g' = b := by injection hb
    rcases hl with hl | hl
    · rw [← e2]; exact h.2 g' hl
    · omega
theorem OwnItR.row {d R : Nat} {w : World} {a : Option Addr} {n c : Nat} {xs : List It} (h : OwnItR d R w a n c xs) : ∃ vs, w.ownsRow 0 117 5 (.slice a n c) n vs := by
  obtain ⟨vs, h1, _⟩ := h.1.own
  exact ⟨vs, h1⟩
theorem OwnItR.kids {d R : Nat} {w : World} {a : Option Addr} {n c : Nat} {xs : List It} (h : OwnItR d R w a n c xs) : KidsI (d + 1) (fun b => R ≤ b ∧ b < w.heap.size) w a n xs := by
  obtain ⟨vs, hv⟩ := h.row
  exact h.1.kids (fun k hk => ⟨hk.1, hk.2.1⟩) (fun b hb => ⟨h.2 b hb, (hv.lt b hb).2⟩)
theorem en_next (xs : List (Int × Int)) (k : Nat) (h : k < xs.length) : (xs.take (k + 1)).map (fun p => enI p.1 p.2) = (xs.take k).map (fun p => enI p.1 p.2) ++ [enI (xs.getD k (0, 0)).1 (xs.getD k (0, 0)).2] := by
  rw [List.take_add_one, List.map_append]
  simp [h]
def I64R (xs : List (Int × Int)) : Prop := ∀ k, -9223372036854775808 ≤ (xs.getD k (0, 0)).2 ∧ (xs.getD k (0, 0)).2 ≤ 9223372036854775807

set_option maxRecDepth 10000 in
set_option maxHeartbeats 4000000 in
theorem eachEn_any (a : Option Addr) (n c : Nat) (xs : List (Int × Int)) (w : World) (h : RowTe w a n xs) (hw : I64R xs) (hn : n ≤ 1000) :
    Calls Tryz.prog 131 #[.slice a n c, .func (Fn.func 114) #[] #[]] w fun e w' => ∃ ao co, e = .returned (.slice ao n co) ∧ OwnItR 2 w.heap.size w' ao n co (xs.map (fun p => enI p.1 p.2)) ∧ Below w.heap.size w w' := by
  obtain ⟨i0, hi, hz0, hz1, hz2⟩ := info_parts Tryz.infoIt
  have H0 : Hid (RowTe w a n xs) := h
  have HW : Hid (I64R xs) := hw
  have HLX : Hid (xs.length = n) := h.len
  clear h hw
  go_enter Tryz.func131, Tryz.ntmps131
  go_wp2
  go_loopw [5, 10] (fun o i wr => ∃ (k : Nat) (ao : Option Addr) (cc : Nat), k ≤ n ∧ i = .int .i64 k ∧ o = .slice ao k cc ∧ Hid (OwnItR 2 w.heap.size wr ao k cc ((xs.take k).map (fun p => enI p.1 p.2))) ∧ Below w.heap.size w wr) (fun _ i _ => n - (intOf i).toNat)
  case atStart => exact ⟨0, none, 0, Nat.zero_le _, rfl, rfl, ownItR_none _ _ _, Below.refl _ _⟩
  case round =>
    obtain ⟨k, ao, cc, hk, rfl, rfl, HO, hbr⟩ := hrel
    have hws := hbr.size
    by_cases hlt : k < n
    · obtain ⟨b, off, rfl, hlb, e0, e1⟩ := H0.out.get k hlt
      obtain ⟨y, hy⟩ : ∃ y, y = xs.getD k (0, 0) := ⟨_, rfl⟩
      rw [← hy] at e0 e1
      have HUY : Hid (U64 y.1) := by show U64 _; rw [hy]; exact H0.out.rng k
      have HYW : Hid (-9223372036854775808 ≤ y.2 ∧ y.2 ≤ 9223372036854775807) := by show _ ∧ _; rw [hy]; exact HW.out k
      have HXK : Hid ((xs.take (k + 1)).map (fun p => enI p.1 p.2) = (xs.take k).map (fun p => enI p.1 p.2) ++ [enI y.1 y.2]) := by show _ = _; rw [hy]; exact en_next xs k (by rw [HLX.out]; exact hlt)
      have c0 := (hbr.cell (p := ⟨b, off + k * 2, none⟩) hlb).trans e0
      have c1 := (hbr.cell (p := ⟨b, off + k * 2 + 1, none⟩) hlb).trans e1
      have hkni : (k : Int) < (n : Int) := by omega
      have hbw : b < wr.heap.size := by omega
      have hbz : Below wr.heap.size wr (wr.alloc (.cells #[.int .u64 y.1, .int .i64 y.2] 91)) := (Below.refl _ _).alloc (Nat.le_refl _) _
      clear hy e0 e1
      go_wp2_with fail
      refine (entryItem_any y _ HUY.out HYW.out).mono ?_
      rintro e w2 ⟨gr, rfl, hkg, hb2⟩
      have hb2r : Below wr.heap.size wr w2 := keepT hbz hb2
      have B2 : Below w.heap.size w w2 := hbr.trans (hb2r.mono hws)
      have hal : Below w2.heap.size w2 (w2.alloc (.cells #[.int .i64 0, .int .i64 16, .bool true, .slice none 0 0, .slice (some ⟨gr, 0, none⟩) 2 2] 117)) := (Below.refl _ _).alloc (Nat.le_refl _) _
      have B6 : Below w.heap.size w (w2.alloc (.cells #[.int .i64 0, .int .i64 16, .bool true, .slice none 0 0, .slice (some ⟨gr, 0, none⟩) 2 2] 117)) := B2.trans (hal.mono B2.size)
      have hs6 : (w2.alloc (.cells #[.int .i64 0, .int .i64 16, .bool true, .slice none 0 0, .slice (some ⟨gr, 0, none⟩) 2 2] 117)).heap.size = w2.heap.size + 1 := by simp
      have hs2 := hb2r.size
      have HQ3 : Hid (OwnItR 2 w.heap.size (w2.alloc (.cells #[.int .i64 0, .int .i64 16, .bool true, .slice none 0 0, .slice (some ⟨gr, 0, none⟩) 2 2] 117)) ao k cc ((xs.take k).map (fun p => enI p.1 p.2))) := (HO.out.kept hb2r).kept hal
      obtain ⟨vs, hrow⟩ := HQ3.out.row
      have HROW : Hid (_) := hrow
      have hown : ∀ b, (Value.slice ao k cc).ownBlock = some b → b < wr.heap.size := fun b hb => by obtain ⟨vs0, hv0⟩ := HO.out.row; exact (hv0.lt b hb).2
      have HAPP : Hid (∀ g7 c7 w7, w7.ownsRow 0 117 5 (.slice (some ⟨g7, 0, none⟩) (k + 1) c7) (k + 1) (vs ++ itc (enI y.1 y.2) none 0 0 (some ⟨gr, 0, none⟩) 2 2) → (w2.alloc (.cells #[.int .i64 0, .int .i64 16, .bool true, .slice none 0 0, .slice (some ⟨gr, 0, none⟩) 2 2] 117)).grownBy w7 (Value.slice ao k cc).ownBlock → ((Value.slice ao k cc).ownBlock = some g7 ∨ g7 = w2.heap.size + 1) → OwnItR 2 w.heap.size w7 (some ⟨g7, 0, none⟩) (k + 1) c7 ((xs.take (k + 1)).map (fun p => enI p.1 p.2)) ∧ Below w.heap.size w w7) := by
        intro g7 c7 w7 hv7 hg7 hl7
        obtain ⟨S, k1, k2⟩ := hkg.kept hal
        have hsw : (wr.alloc (.cells #[.int .u64 y.1, .int .i64 y.2] 91)).heap.size = wr.heap.size + 1 := by simp
        rw [HXK.out]
        refine ⟨HQ3.out.appended (T := S) (ab := none) (nb := 0) (cb := 0) (ak := some ⟨gr, 0, none⟩) (nk := 2) (ck := 2) ⟨⟨⟨rfl, fun j hj => absurd hj (Nat.not_lt_zero _), by simp [enI, strI, It.body]⟩, fun x hx => by cases hx⟩, fun _ => rfl, by decide, k1⟩ (fun b hb => ⟨by have := (k2 b hb).1; omega, (k2 b hb).2, fun e => by have := hown b e; have := (k2 b hb).1; omega⟩) (by omega) HROW.out hv7 hg7 (by rw [hs6]; exact hl7) B6.size, B6.grown hg7 (by have := B6.size; omega) (fun kx hx => HQ3.out.2 kx hx)⟩
      clear c0 c1 hrow HO hb2 hb2r B2 hal hbz hkg
      go_wp2_with (at_builtin; refine wpList_append_lies _ rfl (.tmp 14) (.tmp 18) 115 rfl 0 117 i0 _ 5 72 Tryz.underlying115 hi hz0 hz1 hz2 rfl (by decide) _ k vs rfl HROW.out ⟨w2.heap.size, 0, none⟩ 1 1 [.int .i64 0, .int .i64 16, .bool true, .slice none 0 0, .slice (some ⟨gr, 0, none⟩) 2 2] rfl rfl (World.news_of_block (heap_alloc_new w2 (.cells #[.int .i64 0, .int .i64 16, .bool true, .slice none 0 0, .slice (some ⟨gr, 0, none⟩) 2 2] 117))) (by intro u hu; simp only [List.mem_cons, List.not_mem_nil, or_false] at hu; rcases hu with rfl | rfl | rfl | rfl | rfl <;> rfl) (by decide) (by unfold maxLen; omega) (by omega) (Nat.zero_le _) (w2.heap.size + 1) (by simp) ?_; intro g7 c7 w7 hv7 hg7 hl7 hlt7; have HN7 := HAPP.out g7 c7 w7 hv7 hg7 hl7; have HO7 : Hid (_) := HN7.1; have B7 := HN7.2; clear hv7 hg7 hl7 hlt7 HN7 HAPP HQ3 HROW)
      go_roundw
      case rel => exact ⟨k + 1, _, c7, by omega, by go_num, rfl, HO7, B7⟩
      case measure => simp [intOf]; omega
    · obtain rfl : k = n := by omega
      have HX : Hid (xs.take k = xs) := by show _ = _; rw [List.take_of_length_le (by rw [HLX.out]; exact Nat.le_refl _)]
      go_wp2
      go_ret
      refine ⟨ao, cc, rfl, ?_, hbr⟩
      have := HO.out
      rw [HX.out] at this
      exact this

set_option maxRecDepth 10000 in
set_option maxHeartbeats 4000000 in
theorem listItemEn_any (a : Option Addr) (n c : Nat) (xs : List (Int × Int)) (w : World) (h : RowTe w a n xs) (hw : I64R xs) (hn : n ≤ 1000) :
    Calls Tryz.prog 113 #[.slice a n c, .func (Fn.func 114) #[] #[]] w fun e w' => ∃ ao co, e = .returned (.agg #[.int .i64 0, .int .i64 17, .bool true, .slice none 0 0, .slice ao n co]) ∧ (∃ S : Nat → Prop, KidsI 3 S w' ao n (xs.map (fun p => enI p.1 p.2)) ∧ ∀ b, S b → w.heap.size ≤ b ∧ b < w'.heap.size) ∧ Below w.heap.size w w' := by
  have hbx := box5_below w
  have hsz := box5_size w
  have HB5 : Hid (_ = _) := box5_new w
  have HR : Hid (RowTe (box5 w) a n xs) := h.kept hbx
  have HWI : Hid (I64R xs) := hw
  clear h hw
  go_enter Tryz.func113, Tryz.ntmps113
  go_wp2_with fail
  refine (eachEn_any a n c xs (box5 w) HR.out HWI.out hn).mono ?_
  rintro e w2 ⟨ao, co, rfl, ho, hb2⟩
  have HK : Hid (KidsI 3 (fun b => (box5 w).heap.size ≤ b ∧ b < w2.heap.size) w2 ao n (xs.map (fun p => enI p.1 p.2))) := ho.kids
  have h5 := below_kept HB5.out hb2
  obtain ⟨_, q0, q1, q2, q3, q4, q5, q6, q7, q8, q9⟩ := Box5.of h5
  have H5 : Hid (_ = _) := h5
  have B2 : Below w.heap.size w w2 := keepT hbx hb2
  have hs2 := hb2.size
  clear ho h5 hb2
  go_wp2_with fail
  try simp only [Exit.inBlock, Exit.then]
  have T := put5_touch w2 w.heap.size (.int .i64 0) (.int .i64 17) (.bool true) (.slice none 0 0) (.slice ao n co)
  refine bodyPost_ret (results_it rfl _ w.heap.size rfl _ _ _ _ _ _ (put5_heap H5.out _ _ _ _ _)) rfl ⟨ao, co, rfl, ⟨fun b => (box5 w).heap.size ≤ b ∧ b < w2.heap.size, HK.out.touch (fun b hb e => by have := hb.1; omega) T.toX, fun b hb => ⟨by have := hb.1; omega, Nat.lt_of_lt_of_le hb.2 T.size⟩⟩, B2.trans (T.below (Nat.le_refl _) B2.size)⟩

end Go.Proofs.YtglpbgebcpijaaaGreat

set_option linter.unusedVariables false
namespace Go.Proofs.YtglpbgebcpijaaaGreat
open Go.RowKit Go.Sort

theorem opw_append_grows {P : Program} {o : Oper} {a : Act} {w : World} {K : Act → World → Prop} {Q : Exit → Act → World → Prop} (s x : Nat) (t : TypeId) (hop : o.op = Op.call { callee := Callee.builtin Builtin.append, args := #[.tmp s, .tmp x], argTypes := #[t, t] })
    (e : TypeId) (i : TypeInfo) (z : Value) (size bytes : Nat) (ht : P.underlying t = some (.slice e)) (hi : P.info? e = some i) (hz : i.zero = some z) (hsize : i.size = size) (hby : i.bytes = bytes) (hzs : z.cells.size = size) (hsz : 0 < size)
    (b : Addr) (n cap : Nat) (olds : List Value) (hs : aT a s = .slice (some b) n cap) (hlo : olds.length = n * size) (holds : ∀ j u, olds[j]? = some u → w.cell? (b.add j) = some u)
    (ad : Addr) (m c : Nat) (news : List Value) (hx : aT a x = .slice (some ad) m c) (hl : news.length = m * size) (hnews : ∀ j u, news[j]? = some u → w.cell? (ad.add j) = some u)
    (hg : cap < n + m) (h63 : n + m ≤ maxLen) (hbytes : (n + m) * bytes ≤ 140737488355328)
    (hK : ∀ v' w', w'.ownsRow w.heap.size e size v' (n + m) (olds ++ news) → w.grownBy w' none → K (a.put o.dst v') w') : o.wp P a w K Q := by
  have hs' : a.eval (.tmp s) = .slice (some b) n cap := hs
  have hx' : a.eval (.tmp x) = .slice (some ad) m c := hx
  obtain ⟨v', w', hrun, r1, r2⟩ := run_append_arg_grows (P := P) w t o.type e i z size bytes ht hi hz hsize hby hzs hsz b n cap olds hlo holds ad m c news hl hnews hg h63 hbytes
  unfold Oper.wp
  simp [execOp, hop, resolve, invoke, builtin, hs', hx', hrun, Result.andThen]
  exact hK v' w' r1 r2
/-- A row of items, read. -/
def KidF (w : World) (g : Nat) (ks : List It) : Prop := KidsI 4 (fun _ => True) w (some ⟨g, 0, none⟩) ks.length ks
theorem KidF.kept {w w' : World} {g : Nat} {ks : List It} (h : KidF w g ks) (hb : Below w.heap.size w w') : KidF w' g ks := KidsI.touch (P := fun _ => False) h (fun _ _ h => h) (TouchX.of_below hb)
theorem KidF.kids {w : World} {g : Nat} {ks : List It} (h : KidF w g ks) : Kids 4 w (some ⟨g, 0, none⟩) ks.length ks := KidsI.kids h
structure ListG (w : World) (ao : Option Addr) (n : Nat) (ks : List It) : Prop where
  kids : KidsI 3 (fun _ => True) w ao n ks
theorem ListG.kept {w w' : World} {ao : Option Addr} {n : Nat} {ks : List It} (h : ListG w ao n ks) (hb : Below w.heap.size w w') : ListG w' ao n ks := ⟨h.kids.touch (P := fun _ => False) (fun _ _ h => h) (TouchX.of_below hb)⟩
theorem ListG.itv {w : World} {ao : Option Addr} {n co : Nat} {ks : List It} (h : ListG w ao n ks) : ItV 3 (fun _ => True) w (lstI ks) none 0 0 ao n co :=
  ⟨⟨⟨rfl, fun j hj => absurd hj (Nat.not_lt_zero _), by simp [lstI, It.body]⟩, fun _ _ _ => trivial⟩, fun _ => rfl, by decide, h.kids⟩
theorem kidF_three {B0 B : Nat} {W : World} {gf cf g1 k1 n1 g2 k2 n2 : Nat} {b1 b2 : List Int} {y : It} {ab : Option Addr} {nb cb : Nat} {ak : Option Addr} {nk ck : Nat}
    (hv : W.ownsRow B0 117 5 (.slice (some ⟨gf, 0, none⟩) 3 cf) 3 ([.int .i64 0, .int .i64 2, .bool false, .slice (some ⟨g1, k1, none⟩) n1 n1, .slice none 0 0, .int .i64 0, .int .i64 2, .bool false, .slice (some ⟨g2, k2, none⟩) n2 n2, .slice none 0 0] ++ [.int .i64 y.cls, .int .i64 y.tag, .bool y.cons, .slice ab nb cb, .slice ak nk ck]))
    (h1 : RowG B W g1 k1 n1 b1) (h2 : RowG B W g2 k2 n2 b2) (hy : ItV 3 (fun _ => True) W y ab nb cb ak nk ck) (z1 : n1 ≤ 1000) (z2 : n2 ≤ 1000) : KidF W gf [.mk 0 2 false b1 [], .mk 0 2 false b2 [], y] := by
  have hc : ∀ j, j < 15 → W.cell? ⟨gf, 0 + j, none⟩ = ([.int .i64 0, .int .i64 2, .bool false, .slice (some ⟨g1, k1, none⟩) n1 n1, .slice none 0 0, .int .i64 0, .int .i64 2, .bool false, .slice (some ⟨g2, k2, none⟩) n2 n2, .slice none 0 0] ++ [.int .i64 y.cls, .int .i64 y.tag, .bool y.cons, .slice ab nb cb, .slice ak nk ck] : List Value)[j]? := fun j hj => (congrArg (fun q => W.cell? ⟨gf, q, none⟩) (Nat.zero_add j)).trans (hv.cellAt j hj)
  have i1 : ItV 3 (fun _ => True) W (.mk 0 2 false b1 []) (some ⟨g1, k1, none⟩) n1 n1 none 0 0 := ((h1.itv 2 (by omega) (T := fun _ => True) trivial).more).more
  have i2 : ItV 3 (fun _ => True) W (.mk 0 2 false b2 []) (some ⟨g2, k2, none⟩) n2 n2 none 0 0 := ((h2.itv 2 (by omega) (T := fun _ => True) trivial).more).more
  have hlt : gf < W.heap.size := (hv.lt gf rfl).2
  refine ⟨rfl, (show 3 ≤ 9223372036854775807 by decide), fun k hk => ⟨gf, 0, rfl, hlt, trivial, ?_⟩⟩
  have hk3 : k < 3 := hk
  rcases (show k = 0 ∨ k = 1 ∨ k = 2 by omega) with rfl | rfl | rfl
  · exact ⟨some ⟨g1, k1, none⟩, n1, n1, none, 0, 0, (hc 0 (by decide)).trans rfl, (hc 1 (by decide)).trans rfl, (hc 2 (by decide)).trans rfl, (hc 3 (by decide)).trans rfl, (hc 4 (by decide)).trans rfl, i1.row, i1.nil, i1.max, i1.kids⟩
  · exact ⟨some ⟨g2, k2, none⟩, n2, n2, none, 0, 0, (hc 5 (by decide)).trans rfl, (hc 6 (by decide)).trans rfl, (hc 7 (by decide)).trans rfl, (hc 8 (by decide)).trans rfl, (hc 9 (by decide)).trans rfl, i2.row, i2.nil, i2.max, i2.kids⟩
  · exact ⟨ab, nb, cb, ak, nk, ck, (hc 10 (by decide)).trans rfl, (hc 11 (by decide)).trans rfl, (hc 12 (by decide)).trans rfl, (hc 13 (by decide)).trans rfl, (hc 14 (by decide)).trans rfl, hy.row, hy.nil, hy.max, hy.kids⟩
theorem itemBytesD_agg (d : Nat) (tag : Int) (a : Option Addr) (n c : Nat) (ks : List It) (l : List Int) (w : World) (hk : Kids d w a n ks) (hl : enc 12 (boxI tag ks) = some l) :
    Calls Tryz.prog 129 #[.agg #[.int .i64 1, .int .i64 tag, .bool true, .slice none 0 0, .slice a n c]] w fun e w' => ∃ a' c', e = .returned (.tuple #[.slice a' l.length c', .bool true]) ∧ Own w.heap.size w' a' l.length c' l ∧ Below w.heap.size w w' := by
  refine Calls.mono (implItemBytes_any d (boxI tag ks) none 0 0 a n c w ⟨rfl, fun k hk => absurd hk (Nat.not_lt_zero _), by simp [boxI, It.body]⟩ (fun _ => rfl) (by decide) hk) ?_
  rintro e w1 ⟨hans, hb1⟩
  rcases hans with ⟨a1, n1, c1, bs, rfl, h1, ho⟩ | ⟨rfl, h1⟩
  · have e1 : bs = l := by have := h1.out; rw [hl] at this; injection this with this; exact this.symm
    subst e1
    have e2 : bs.length = n1 := ho.toRow.len
    subst e2
    exact ⟨a1, c1, rfl, ho, hb1⟩
  · have := h1.out
    rw [hl] at this
    cases this

/-- What is known of a region (RJ). -/
def tb1 (vn en : Int) (a : Option Addr) (n c gm : Nat) (y : It) (G B : Nat) : RSpec where
  m := 10
  n := 11
  slots := [10, 11, 12, 13, 14, 15, 16, 17, 18, 7, 100010]
  kills := [[], [], [], [], [], [], [], [], [], [], []]
  pres := [[], [], [], [], [], [], [], [], [], [], []]
  fact := fun k v w => match k with
    | 0 => v = .pointer (some ⟨G, 0, none⟩)
    | 1 => v = .int .i64 vn
    | 2 => ∃ g1 k1, v = .agg #[.int .i64 0, .int .i64 2, .bool false, .slice (some ⟨g1, k1, none⟩) (wsz vn) (wsz vn), .slice none 0 0] ∧ RowG B w g1 k1 (wsz vn) (wbL vn)
    | 3 => v = .pointer (some ⟨G, 1, none⟩)
    | 4 => v = .int .i64 en
    | 5 => ∃ g2 k2, v = .agg #[.int .i64 0, .int .i64 2, .bool false, .slice (some ⟨g2, k2, none⟩) (wsz en) (wsz en), .slice none 0 0] ∧ RowG B w g2 k2 (wsz en) (wbL en)
    | 6 => ∃ gr g1 k1 g2 k2, v = .slice (some ⟨gr, 0, none⟩) 2 2 ∧ w.heap[gr]? = some (.cells #[.int .i64 0, .int .i64 2, .bool false, .slice (some ⟨g1, k1, none⟩) (wsz vn) (wsz vn), .slice none 0 0, .int .i64 0, .int .i64 2, .bool false, .slice (some ⟨g2, k2, none⟩) (wsz en) (wsz en), .slice none 0 0] 117 (0, 0)) ∧ RowG B w g1 k1 (wsz vn) (wbL vn) ∧ RowG B w g2 k2 (wsz en) (wbL en)
    | 7 => v = .slice (some ⟨gm, 0, none⟩) 1 1
    | 8 => ∃ gf cf, v = .slice (some ⟨gf, 0, none⟩) 3 cf ∧ KidF w gf [numI vn, numI en, y]
    | 9 => ∃ gf cf, v = .slice (some ⟨gf, 0, none⟩) 3 cf ∧ KidF w gf [numI vn, numI en, y]
    | _ => w.heap[G]? = some (.cells #[.int .i64 vn, .int .i64 en, .slice a n c] 93 (0, 0))
set_option linter.unusedVariables false in
theorem tb1_stb (vn en : Int) (a : Option Addr) (n c gm : Nat) (y : It) (G B : Nat) (k : Nat) (hk : k < 11) : StB ((tb1 vn en a n c gm y G (B)).fact k) := by
  match k, hk with
  | 0, _ => exact fun _ _ _ h _ => h
  | 1, _ => exact fun _ _ _ h _ => h
  | 2, _ => exact fun _ _ _ ⟨g1, k1, hv, q_0⟩ hb => ⟨g1, k1, hv, q_0.kept hb⟩
  | 3, _ => exact fun _ _ _ h _ => h
  | 4, _ => exact fun _ _ _ h _ => h
  | 5, _ => exact fun _ _ _ ⟨g2, k2, hv, q_0⟩ hb => ⟨g2, k2, hv, q_0.kept hb⟩
  | 6, _ => exact fun _ _ _ ⟨gr, g1, k1, g2, k2, hv, q_0, q_1, q_2⟩ hb => ⟨gr, g1, k1, g2, k2, hv, below_kept q_0 hb, q_1.kept hb, q_2.kept hb⟩
  | 7, _ => exact fun _ _ _ h _ => h
  | 8, _ => exact fun _ _ _ ⟨gf, cf, hv, q_0⟩ hb => ⟨gf, cf, hv, q_0.kept hb⟩
  | 9, _ => exact fun _ _ _ ⟨gf, cf, hv, q_0⟩ hb => ⟨gf, cf, hv, q_0.kept hb⟩
  | 10, _ => exact fun _ _ _ q_0 hb => below_kept q_0 hb
  | k + 11, hk => omega

set_option maxRecDepth 10000 in
set_option maxHeartbeats 4000000 in
theorem bodyOf_any (vn en : Int) (a : Option Addr) (n c gm : Nat) (y : It) (ab : Option Addr) (nb cb : Nat) (ak : Option Addr) (nk ck : Nat) (l : List Int) (w : World) (hv : -9223372036854775808 ≤ vn ∧ vn ≤ 9223372036854775807) (he : -9223372036854775808 ≤ en ∧ en ≤ 9223372036854775807) (hm : w.heap[gm]? = some (.cells #[.int .i64 y.cls, .int .i64 y.tag, .bool y.cons, .slice ab nb cb, .slice ak nk ck] 117 (0, 0))) (hy : ItV 3 (fun _ => True) w y ab nb cb ak nk ck) (hl : enc 12 (boxI 15 [numI vn, numI en, y]) = some l) :
    Calls Tryz.prog 112 #[.agg #[.int .i64 vn, .int .i64 en, .slice a n c], .int .i64 3, .slice (some ⟨gm, 0, none⟩) 1 1] w fun r w' => ∃ a' c', r = .returned (.slice a' l.length c') ∧ Own w.heap.size w' a' l.length c' l ∧ Below w.heap.size w w' := by
  obtain ⟨i0, hi, hz0, hz1, hz2⟩ := info_parts Tryz.infoIt
  obtain ⟨w1, hw1⟩ : ∃ w1, w1 = w.alloc (.cells #[.int .i64 vn, .int .i64 en, .slice a n c] 93) := ⟨_, rfl⟩
  have hbb : Below w.heap.size w w1 := by rw [hw1]; exact (Below.refl _ _).alloc (Nat.le_refl _) _
  have HB1 : Hid (w1.heap[w.heap.size]? = some (.cells #[.int .i64 vn, .int .i64 en, .slice a n c] 93 (0, 0))) := by show _ = _; rw [hw1]; exact heap_alloc_new w _
  have HGM : Hid (w1.heap[gm]? = some (.cells #[.int .i64 y.cls, .int .i64 y.tag, .bool y.cons, .slice ab nb cb, .slice ak nk ck] 117 (0, 0))) := below_kept hm hbb
  have HYV : Hid (ItV 3 (fun _ => True) w1 y ab nb cb ak nk ck) := hy.kept hbb
  have HL : Hid (_ = _) := hl
  have HBB : w1.heap.size ≤ w1.heap.size := Nat.le_refl _
  have HW : Hid (_ = _) := hw1
  clear hw1 hm hy hl
  go_enter Tryz.func112, Tryz.ntmps112
  go_upto_region 1 with fail
  rw [← HW.out]
  clear HW
  refine wp_region_ri (tb1 vn en a n c gm y w.heap.size (w1.heap.size)) [7, 10, 11, 12, 13, 14, 15, 16, 17, 18] (w1.heap.size) (fun a0 => a0.tmps.size = 28 ∧ aT a0 2 = .slice (some ⟨gm, 0, none⟩) 1 1 ∧ aT a0 3 = .pointer (some ⟨w.heap.size, 0, none⟩)) (by kernel_rfl) rfl (by kernel_rfl) rfl ⟨rfl, rfl, rfl⟩ (tb1_stb vn en a n c gm y w.heap.size (w1.heap.size)) ?_ ?_ ?_
  · intro k hk hk2
    match k, hk, hk2 with
    | 10, _, _ => exact HB1.out
    | 0, hk, _ => exact absurd hk (by show ¬ (10 ≤ 0); omega)
    | 1, hk, _ => exact absurd hk (by show ¬ (10 ≤ 1); omega)
    | 2, hk, _ => exact absurd hk (by show ¬ (10 ≤ 2); omega)
    | 3, hk, _ => exact absurd hk (by show ¬ (10 ≤ 3); omega)
    | 4, hk, _ => exact absurd hk (by show ¬ (10 ≤ 4); omega)
    | 5, hk, _ => exact absurd hk (by show ¬ (10 ≤ 5); omega)
    | 6, hk, _ => exact absurd hk (by show ¬ (10 ≤ 6); omega)
    | 7, hk, _ => exact absurd hk (by show ¬ (10 ≤ 7); omega)
    | 8, hk, _ => exact absurd hk (by show ¬ (10 ≤ 8); omega)
    | 9, hk, _ => exact absurd hk (by show ¬ (10 ≤ 9); omega)
    | k + 11, _, hk2 => exact absurd hk2 (by show ¬ (k + 11 < 11); omega)
  · rintro a0 ⟨hz, g2, g3⟩
    refine StepsRI.cons ?_ (StepsRI.cons ?_ (StepsRI.cons ?_ (StepsRI.cons ?_ (StepsRI.cons ?_ (StepsRI.cons ?_ (StepsRI.cons ?_ (StepsRI.cons ?_ (StepsRI.cons ?_ (StepsRI.cons ?_ (StepsRI.nil))))))))))
    · intro lQ b W hI hUN hED KQ hKQ
      exact opw_field 93 3 0 rfl _ ((hI.fr.same 3 (by decide)).trans g3) _ (by kernel_rfl) (hKQ.out _ _ (hI.put 0 10 rfl rfl (by rw [hz]; decide) rfl hUN rfl HBB (tb1_stb vn en a n c gm y w.heap.size (w1.heap.size)) (Below.refl _ _) rfl))
    · intro lQ b W hI hUN hED KQ hKQ
      have f := hI.got 0 (of_decide_eq_true rfl) (edge hED 0 (by kernel_rfl)) rfl
      have hg := (hI.vot 10 (of_decide_eq_true rfl) (of_decide_eq_true rfl) rfl)
      have hc : W.cell? ⟨w.heap.size, 0, none⟩ = some (.int .i64 vn) := (cell_of_row _ _ 0 _ _ (0, 0) hg).trans rfl
      exact opw_load1 2 10 rfl _ f _ (by simp [Instr.loadAt, go_sem, hc]) (hKQ.out _ _ (hI.put 1 11 rfl rfl (by rw [hz]; decide) rfl hUN rfl HBB (tb1_stb vn en a n c gm y w.heap.size (w1.heap.size)) (Below.refl _ _) rfl))
    · intro lQ b W hI hUN hED KQ hKQ
      have f0 := hI.got 1 (of_decide_eq_true rfl) (edge hED 1 (by kernel_rfl)) rfl
      replace f0 : aT b 11 = .int .i64 vn := f0
      refine opw_call 128 #[.tmp 11] _ _ _ rfl Tryz.func128 (by kernel_rfl) rfl #[.int .i64 vn] (by simp [ev, f0]) ?_
      refine (numberItem_agg vn W hv.1 hv.2).mono ?_
      rintro e W2 ⟨g1, k1, rfl, hge, hr, hb⟩
      exact ⟨_, rfl, hKQ.out _ _ (hI.put 2 12 rfl rfl (by rw [hz]; decide) rfl hUN rfl HBB (tb1_stb vn en a n c gm y w.heap.size (w1.heap.size)) hb ⟨g1, k1, rfl, ⟨Nat.le_trans hI.bel.size hge, hr.atG⟩⟩)⟩
    · intro lQ b W hI hUN hED KQ hKQ
      exact opw_field 93 3 1 rfl _ ((hI.fr.same 3 (by decide)).trans g3) _ (by kernel_rfl) (hKQ.out _ _ (hI.put 3 13 rfl rfl (by rw [hz]; decide) rfl hUN rfl HBB (tb1_stb vn en a n c gm y w.heap.size (w1.heap.size)) (Below.refl _ _) rfl))
    · intro lQ b W hI hUN hED KQ hKQ
      have f := hI.got 3 (of_decide_eq_true rfl) (edge hED 3 (by kernel_rfl)) rfl
      have hg := (hI.vot 10 (of_decide_eq_true rfl) (of_decide_eq_true rfl) rfl)
      have hc : W.cell? ⟨w.heap.size, 1, none⟩ = some (.int .i64 en) := (cell_of_row _ _ 1 _ _ (0, 0) hg).trans rfl
      exact opw_load1 2 13 rfl _ f _ (by simp [Instr.loadAt, go_sem, hc]) (hKQ.out _ _ (hI.put 4 14 rfl rfl (by rw [hz]; decide) rfl hUN rfl HBB (tb1_stb vn en a n c gm y w.heap.size (w1.heap.size)) (Below.refl _ _) rfl))
    · intro lQ b W hI hUN hED KQ hKQ
      have f0 := hI.got 4 (of_decide_eq_true rfl) (edge hED 4 (by kernel_rfl)) rfl
      replace f0 : aT b 14 = .int .i64 en := f0
      refine opw_call 128 #[.tmp 14] _ _ _ rfl Tryz.func128 (by kernel_rfl) rfl #[.int .i64 en] (by simp [ev, f0]) ?_
      refine (numberItem_agg en W he.1 he.2).mono ?_
      rintro e W2 ⟨g2, k2, rfl, hge, hr, hb⟩
      exact ⟨_, rfl, hKQ.out _ _ (hI.put 5 15 rfl rfl (by rw [hz]; decide) rfl hUN rfl HBB (tb1_stb vn en a n c gm y w.heap.size (w1.heap.size)) hb ⟨g2, k2, rfl, ⟨Nat.le_trans hI.bel.size hge, hr.atG⟩⟩)⟩
    · intro lQ b W hI hUN hED KQ hKQ
      obtain ⟨g1, k1, f0, o0⟩ := hI.got 2 (of_decide_eq_true rfl) (edge hED 2 (by kernel_rfl)) rfl
      obtain ⟨g2, k2, f1, o1⟩ := hI.got 5 (of_decide_eq_true rfl) (edge hED 5 (by kernel_rfl)) rfl
      replace f0 : aT b 12 = .agg #[.int .i64 0, .int .i64 2, .bool false, .slice (some ⟨g1, k1, none⟩) (wsz vn) (wsz vn), .slice none 0 0] := f0
      replace f1 : aT b 15 = .agg #[.int .i64 0, .int .i64 2, .bool false, .slice (some ⟨g2, k2, none⟩) (wsz en) (wsz en), .slice none 0 0] := f1
      refine opw_buildSliceT _ 2 _ rfl #[(0, .agg #[.int .i64 0, .int .i64 2, .bool false, .slice (some ⟨g1, k1, none⟩) (wsz vn) (wsz vn), .slice none 0 0]), (1, .agg #[.int .i64 0, .int .i64 2, .bool false, .slice (some ⟨g2, k2, none⟩) (wsz en) (wsz en), .slice none 0 0])] (by simp [ev, f0, f1]) (.slice (some ⟨W.heap.size, 0, none⟩) 2 2) (W.alloc (.cells #[.int .i64 0, .int .i64 2, .bool false, .slice (some ⟨g1, k1, none⟩) (wsz vn) (wsz vn), .slice none 0 0, .int .i64 0, .int .i64 2, .bool false, .slice (some ⟨g2, k2, none⟩) (wsz en) (wsz en), .slice none 0 0] 117)) (by kernel_rfl) ?_
      have hbA : Below W.heap.size W (W.alloc (.cells #[.int .i64 0, .int .i64 2, .bool false, .slice (some ⟨g1, k1, none⟩) (wsz vn) (wsz vn), .slice none 0 0, .int .i64 0, .int .i64 2, .bool false, .slice (some ⟨g2, k2, none⟩) (wsz en) (wsz en), .slice none 0 0] 117)) := (Below.refl _ _).alloc (Nat.le_refl _) _
      exact hKQ.out _ _ (hI.put 6 16 rfl rfl (by rw [hz]; decide) rfl hUN rfl HBB (tb1_stb vn en a n c gm y w.heap.size (w1.heap.size)) hbA ⟨W.heap.size, g1, k1, g2, k2, rfl, heap_alloc_new W _, o0.kept hbA, o1.kept hbA⟩)
    · intro lQ b W hI hUN hED KQ hKQ
      exact opw_move 2 rfl (hKQ.out _ _ (hI.put 7 17 rfl rfl (by rw [hz]; decide) rfl hUN rfl HBB (tb1_stb vn en a n c gm y w.heap.size (w1.heap.size)) (Below.refl _ _) ((hI.fr.same 2 (by decide)).trans g2)))
    · intro lQ b W hI hUN hED KQ hKQ
      obtain ⟨gr, g1, k1, g2, k2, f0, hgr, o0, o1⟩ := hI.got 6 (of_decide_eq_true rfl) (edge hED 6 (by kernel_rfl)) rfl
      have f1 := hI.got 7 (of_decide_eq_true rfl) (edge hED 7 (by kernel_rfl)) rfl
      replace f0 : aT b 16 = .slice (some ⟨gr, 0, none⟩) 2 2 := f0
      replace f1 : aT b 17 = .slice (some ⟨gm, 0, none⟩) 1 1 := f1
      have hmb := below_kept HGM.out hI.bel
      have hyW := HYV.out.kept hI.bel
      refine opw_append_grows 16 17 115 rfl 117 i0 _ 5 72 Tryz.underlying115 hi hz0 hz1 hz2 rfl (by decide) ⟨gr, 0, none⟩ 2 2 _ f0 rfl (World.news_of_block hgr) ⟨gm, 0, none⟩ 1 1 _ f1 rfl (World.news_of_block hmb) (by decide) (by decide) (by decide) ?_
      intro v' w' hv' hg'
      have hbW : Below W.heap.size W w' := ⟨hg'.os, hg'.tape, hg'.output, hg'.size, fun k hk => hg'.block k hk (by simp)⟩
      obtain ⟨gf, cf, rfl, _, _⟩ := hv'.form (by decide)
      exact hKQ.out _ _ (hI.put 8 18 rfl rfl (by rw [hz]; decide) rfl hUN rfl HBB (tb1_stb vn en a n c gm y w.heap.size (w1.heap.size)) hbW ⟨gf, cf, rfl, kidF_three hv' (o0.kept hbW) (o1.kept hbW) (hyW.kept hbW) (by have := wsz_bd vn; omega) (by have := wsz_bd en; omega)⟩)
    · intro lQ b W hI hUN hED KQ hKQ
      have f := hI.got 8 (of_decide_eq_true rfl) (edge hED 8 (by kernel_rfl)) rfl
      exact opw_assign 18 rfl (hKQ.out _ _ (hI.put 9 7 rfl rfl (by rw [hz]; decide) rfl hUN rfl HBB (tb1_stb vn en a n c gm y w.heap.size (w1.heap.size)) (Below.refl _ _) f))
  · intro b W hf hb F
    obtain ⟨gf, cf, e7, hkf⟩ := F 9 (of_decide_eq_true rfl) rfl
    replace e7 : aT b 7 = _ := e7
    rw [hf.eq]
    simp only [puts, Act.put, List.setIfInBounds_toArray, List.set_cons_zero, List.set_cons_succ, e7]
    clear hf F e7
    generalize aT b = AT
    clear b
    have HKF : Hid (KidF W gf [numI vn, numI en, y]) := hkf
    clear hkf
    have hbW : Below w.heap.size w W := keepT hbb hb
    go_wp2_with fail
    refine (ownItem_agg 15 (some ⟨gf, 0, none⟩) 3 cf _).mono ?_
    rintro r w3 ⟨rfl, hb3⟩
    go_wp2_with fail
    refine (itemBytesD_agg 4 15 (some ⟨gf, 0, none⟩) 3 cf [numI vn, numI en, y] l _ (HKF.out.kids.kept hb3) HL.out).mono ?_
    rintro r w4 ⟨a4, c4, rfl, ho, hb4⟩
    have k4 : Below w.heap.size w w4 := keepT hbW (keepT hb3 hb4)
    have HO : Hid (Own w.heap.size w4 a4 l.length c4 l) := ho.mono (keepT hbW hb3).size
    clear ho
    go_wp2
    go_ret
    exact ⟨a4, c4, rfl, HO.out, k4⟩


end Go.Proofs.YtglpbgebcpijaaaGreat

set_option linter.unusedVariables false
namespace Go.Proofs.YtglpbgebcpijaaaGreat
open Go.RowKit Go.Sort

theorem bodyOfL_any (vn en : Int) (a : Option Addr) (n c gm : Nat) (ks : List It) (ao : Option Addr) (n2 co : Nat) (l : List Int) (w : World) (hv : -9223372036854775808 ≤ vn ∧ vn ≤ 9223372036854775807) (he : -9223372036854775808 ≤ en ∧ en ≤ 9223372036854775807) (hm : w.heap[gm]? = some (.cells #[.int .i64 0, .int .i64 17, .bool true, .slice none 0 0, .slice ao n2 co] 117 (0, 0))) (hy : ItV 3 (fun _ => True) w (lstI ks) none 0 0 ao n2 co) (hl : enc 12 (boxI 15 [numI vn, numI en, lstI ks]) = some l) :
    Calls Tryz.prog 112 #[.agg #[.int .i64 vn, .int .i64 en, .slice a n c], .int .i64 3, .slice (some ⟨gm, 0, none⟩) 1 1] w fun r w' => ∃ a' c', r = .returned (.slice a' l.length c') ∧ Own w.heap.size w' a' l.length c' l ∧ Below w.heap.size w w' := by
  obtain ⟨y, hyy⟩ : ∃ y, y = lstI ks := ⟨_, rfl⟩
  have e1 : (0 : Int) = y.cls := by rw [hyy]; rfl
  have e2 : (17 : Int) = y.tag := by rw [hyy]; rfl
  have e3 : true = y.cons := by rw [hyy]; rfl
  rw [e1, e2, e3] at hm
  rw [← hyy] at hy hl
  exact bodyOf_any vn en a n c gm y none 0 0 ao n2 co l w hv he hm hy hl
/-- What is known of a region (RJ). -/
def tb2 (x : LfP) (ks : List It) (ae : Option Addr) (n0 c0 : Nat) (ag : Option Addr) (n1 c1 : Nat) (l : List Int) (G B : Nat) : RSpec where
  m := 8
  n := 9
  slots := [3, 4, 5, 6, 7, 8, 9, 2, 100008]
  kills := [[], [], [], [], [], [], [], [], []]
  pres := [[], [], [], [], [], [], [], [], []]
  fact := fun k v w => match k with
    | 0 => v = .pointer (some ⟨G, 0, none⟩)
    | 1 => v = .agg #[.int .i64 x.v, .int .i64 x.e, .slice ag n1 c1]
    | 2 => v = .pointer (some ⟨G, 3, none⟩)
    | 3 => v = .slice ae n0 c0
    | 4 => ∃ ao co, v = .agg #[.int .i64 0, .int .i64 17, .bool true, .slice none 0 0, .slice ao n0 co] ∧ ListG w ao n0 ks
    | 5 => ∃ gm ao co, v = .slice (some ⟨gm, 0, none⟩) 1 1 ∧ w.heap[gm]? = some (.cells #[.int .i64 0, .int .i64 17, .bool true, .slice none 0 0, .slice ao n0 co] 117 (0, 0)) ∧ ListG w ao n0 ks
    | 6 => ∃ a4 c4, v = .slice a4 l.length c4 ∧ Own B w a4 l.length c4 l
    | 7 => ∃ a4 c4, v = .slice a4 l.length c4 ∧ Own B w a4 l.length c4 l
    | _ => w.heap[G]? = some (.cells #[.int .i64 x.v, .int .i64 x.e, .slice ag n1 c1, .slice ae n0 c0] 99 (0, 0))
set_option linter.unusedVariables false in
theorem tb2_stb (x : LfP) (ks : List It) (ae : Option Addr) (n0 c0 : Nat) (ag : Option Addr) (n1 c1 : Nat) (l : List Int) (G B : Nat) (k : Nat) (hk : k < 9) : StB ((tb2 x ks ae n0 c0 ag n1 c1 l G (B)).fact k) := by
  match k, hk with
  | 0, _ => exact fun _ _ _ h _ => h
  | 1, _ => exact fun _ _ _ h _ => h
  | 2, _ => exact fun _ _ _ h _ => h
  | 3, _ => exact fun _ _ _ h _ => h
  | 4, _ => exact fun _ _ _ ⟨ao, co, hv, q_0⟩ hb => ⟨ao, co, hv, q_0.kept hb⟩
  | 5, _ => exact fun _ _ _ ⟨gm, ao, co, hv, q_0, q_1⟩ hb => ⟨gm, ao, co, hv, below_kept q_0 hb, q_1.kept hb⟩
  | 6, _ => exact fun _ _ _ ⟨a4, c4, hv, q_0⟩ hb => ⟨a4, c4, hv, q_0.kept hb⟩
  | 7, _ => exact fun _ _ _ ⟨a4, c4, hv, q_0⟩ hb => ⟨a4, c4, hv, q_0.kept hb⟩
  | 8, _ => exact fun _ _ _ q_0 hb => below_kept q_0 hb
  | k + 9, hk => omega

set_option maxRecDepth 10000 in
set_option maxHeartbeats 4000000 in
theorem listBody_any (x : LfP) (ks : List It) (hks : ks = x.es.map (fun p => enI p.1 p.2)) (ae : Option Addr) (n0 c0 : Nat) (ag : Option Addr) (n1 c1 : Nat) (l : List Int) (w : World) (hr : RowTe w ae n0 x.es) (hw : I64R x.es) (hn : n0 ≤ 1000) (hv : -9223372036854775808 ≤ x.v ∧ x.v ≤ 9223372036854775807) (he : -9223372036854775808 ≤ x.e ∧ x.e ≤ 9223372036854775807) (hl : enc 12 (boxI 15 [numI x.v, numI x.e, lstI ks]) = some l) :
    Calls Tryz.prog 83 #[.agg #[.int .i64 x.v, .int .i64 x.e, .slice ag n1 c1, .slice ae n0 c0]] w fun r w' => ∃ a' c', r = .returned (.slice a' l.length c') ∧ Own w.heap.size w' a' l.length c' l ∧ Below w.heap.size w w' := by
  obtain ⟨w1, hw1⟩ : ∃ w1, w1 = w.alloc (.cells #[.int .i64 x.v, .int .i64 x.e, .slice ag n1 c1, .slice ae n0 c0] 99) := ⟨_, rfl⟩
  have hbb : Below w.heap.size w w1 := by rw [hw1]; exact (Below.refl _ _).alloc (Nat.le_refl _) _
  have HB1 : Hid (w1.heap[w.heap.size]? = some (.cells #[.int .i64 x.v, .int .i64 x.e, .slice ag n1 c1, .slice ae n0 c0] 99 (0, 0))) := by show _ = _; rw [hw1]; exact heap_alloc_new w _
  have HR : Hid (∀ W, Below w1.heap.size w1 W → RowTe W ae n0 x.es) := fun W hW => hr.kept (keepT hbb hW)
  have HWI : Hid (I64R x.es) := hw
  have HBO : Hid (∀ (gm : Nat) (ao : Option Addr) (n2 co : Nat) (W : World), W.heap[gm]? = some (.cells #[.int .i64 0, .int .i64 17, .bool true, .slice none 0 0, .slice ao n2 co] 117 (0, 0)) → ItV 3 (fun _ => True) W (lstI ks) none 0 0 ao n2 co → Calls Tryz.prog 112 #[.agg #[.int .i64 x.v, .int .i64 x.e, .slice ag n1 c1], .int .i64 3, .slice (some ⟨gm, 0, none⟩) 1 1] W fun r w' => ∃ a' c', r = .returned (.slice a' l.length c') ∧ Own W.heap.size w' a' l.length c' l ∧ Below W.heap.size W w') := fun gm ao n2 co W h1 h2 => bodyOfL_any x.v x.e ag n1 c1 gm ks ao n2 co l W hv he h1 h2 hl
  have HBB : w1.heap.size ≤ w1.heap.size := Nat.le_refl _
  have HW : Hid (_ = _) := hw1
  clear hw1 hr hw hl
  go_enter Tryz.func83, Tryz.ntmps83
  go_upto_region 1 with fail
  rw [← HW.out]
  clear HW
  refine wp_region_ri (tb2 x ks ae n0 c0 ag n1 c1 l w.heap.size (w1.heap.size)) [2, 3, 4, 5, 6, 7, 8, 9] (w1.heap.size) (fun a0 => a0.tmps.size = 10 ∧ aT a0 1 = .pointer (some ⟨w.heap.size, 0, none⟩)) (by kernel_rfl) rfl (by kernel_rfl) rfl ⟨rfl, rfl⟩ (tb2_stb x ks ae n0 c0 ag n1 c1 l w.heap.size (w1.heap.size)) ?_ ?_ ?_
  · intro k hk hk2
    match k, hk, hk2 with
    | 8, _, _ => exact HB1.out
    | 0, hk, _ => exact absurd hk (by show ¬ (8 ≤ 0); omega)
    | 1, hk, _ => exact absurd hk (by show ¬ (8 ≤ 1); omega)
    | 2, hk, _ => exact absurd hk (by show ¬ (8 ≤ 2); omega)
    | 3, hk, _ => exact absurd hk (by show ¬ (8 ≤ 3); omega)
    | 4, hk, _ => exact absurd hk (by show ¬ (8 ≤ 4); omega)
    | 5, hk, _ => exact absurd hk (by show ¬ (8 ≤ 5); omega)
    | 6, hk, _ => exact absurd hk (by show ¬ (8 ≤ 6); omega)
    | 7, hk, _ => exact absurd hk (by show ¬ (8 ≤ 7); omega)
    | k + 9, _, hk2 => exact absurd hk2 (by show ¬ (k + 9 < 9); omega)
  · rintro a0 ⟨hz, g1⟩
    refine StepsRI.cons ?_ (StepsRI.cons ?_ (StepsRI.cons ?_ (StepsRI.cons ?_ (StepsRI.cons ?_ (StepsRI.cons ?_ (StepsRI.cons ?_ (StepsRI.cons ?_ (StepsRI.nil))))))))
    · intro lQ b W hI hUN hED KQ hKQ
      exact opw_field 99 1 0 rfl _ ((hI.fr.same 1 (by decide)).trans g1) _ (by kernel_rfl) (hKQ.out _ _ (hI.put 0 3 rfl rfl (by rw [hz]; decide) rfl hUN rfl HBB (tb2_stb x ks ae n0 c0 ag n1 c1 l w.heap.size (w1.heap.size)) (Below.refl _ _) rfl))
    · intro lQ b W hI hUN hED KQ hKQ
      have f : aT b 3 = .pointer (some ⟨w.heap.size, 0, none⟩) := hI.got 0 (of_decide_eq_true rfl) (edge hED 0 (by kernel_rfl)) rfl
      have hg := (hI.vot 8 (of_decide_eq_true rfl) (of_decide_eq_true rfl) rfl)
      have q0 : W.cell? ⟨w.heap.size, 0, none⟩ = some (.int .i64 x.v) := (cell_of_row _ _ 0 _ _ (0, 0) hg).trans rfl
      have q1 : W.cell? ⟨w.heap.size, 1, none⟩ = some (.int .i64 x.e) := (cell_of_row _ _ 1 _ _ (0, 0) hg).trans rfl
      have q2 : W.cell? ⟨w.heap.size, 2, none⟩ = some (.slice ag n1 c1) := (cell_of_row _ _ 2 _ _ (0, 0) hg).trans rfl
      exact opw_load1 93 3 rfl _ f (.agg #[.int .i64 x.v, .int .i64 x.e, .slice ag n1 c1]) (by simp [Instr.loadAt, go_sem, q0, q1, q2]) (hKQ.out _ _ (hI.put 1 4 rfl rfl (by rw [hz]; decide) rfl hUN rfl HBB (tb2_stb x ks ae n0 c0 ag n1 c1 l w.heap.size (w1.heap.size)) (Below.refl _ _) rfl))
    · intro lQ b W hI hUN hED KQ hKQ
      exact opw_field 99 1 1 rfl _ ((hI.fr.same 1 (by decide)).trans g1) _ (by kernel_rfl) (hKQ.out _ _ (hI.put 2 5 rfl rfl (by rw [hz]; decide) rfl hUN rfl HBB (tb2_stb x ks ae n0 c0 ag n1 c1 l w.heap.size (w1.heap.size)) (Below.refl _ _) rfl))
    · intro lQ b W hI hUN hED KQ hKQ
      have f : aT b 5 = .pointer (some ⟨w.heap.size, 3, none⟩) := hI.got 2 (of_decide_eq_true rfl) (edge hED 2 (by kernel_rfl)) rfl
      have hg := (hI.vot 8 (of_decide_eq_true rfl) (of_decide_eq_true rfl) rfl)
      have q0 : W.cell? ⟨w.heap.size, 3, none⟩ = some (.slice ae n0 c0) := (cell_of_row _ _ 3 _ _ (0, 0) hg).trans rfl
      exact opw_load1 44 5 rfl _ f _ (by simp [Instr.loadAt, go_sem, q0]) (hKQ.out _ _ (hI.put 3 6 rfl rfl (by rw [hz]; decide) rfl hUN rfl HBB (tb2_stb x ks ae n0 c0 ag n1 c1 l w.heap.size (w1.heap.size)) (Below.refl _ _) rfl))
    · intro lQ b W hI hUN hED KQ hKQ
      have f0 : aT b 6 = .slice ae n0 c0 := hI.got 3 (of_decide_eq_true rfl) (edge hED 3 (by kernel_rfl)) rfl
      refine opw_call 113 #[.tmp 6, .func 114] _ _ _ rfl Tryz.func113 (by kernel_rfl) rfl #[.slice ae n0 c0, .func (Fn.func 114) #[] #[]] (by simp [ev, f0]; rfl) ?_
      refine (listItemEn_any ae n0 c0 x.es W (HR.out _ hI.bel) HWI.out hn).mono ?_
      rintro r W2 ⟨ao, co, rfl, ⟨S, hk, _⟩, hb⟩
      exact ⟨_, rfl, hKQ.out _ _ (hI.put 4 7 rfl rfl (by rw [hz]; decide) rfl hUN rfl HBB (tb2_stb x ks ae n0 c0 ag n1 c1 l w.heap.size (w1.heap.size)) hb ⟨ao, co, rfl, ⟨by rw [hks]; exact hk.mono (fun _ _ => trivial)⟩⟩)⟩
    · intro lQ b W hI hUN hED KQ hKQ
      obtain ⟨ao, co, f0, o0⟩ := hI.got 4 (of_decide_eq_true rfl) (edge hED 4 (by kernel_rfl)) rfl
      replace f0 : aT b 7 = .agg #[.int .i64 0, .int .i64 17, .bool true, .slice none 0 0, .slice ao n0 co] := f0
      refine opw_buildSliceT _ 1 _ rfl #[(0, .agg #[.int .i64 0, .int .i64 17, .bool true, .slice none 0 0, .slice ao n0 co])] (by simp [ev, f0]) (.slice (some ⟨W.heap.size, 0, none⟩) 1 1) (W.alloc (.cells #[.int .i64 0, .int .i64 17, .bool true, .slice none 0 0, .slice ao n0 co] 117)) (by kernel_rfl) ?_
      have hbA : Below W.heap.size W (W.alloc (.cells #[.int .i64 0, .int .i64 17, .bool true, .slice none 0 0, .slice ao n0 co] 117)) := (Below.refl _ _).alloc (Nat.le_refl _) _
      exact hKQ.out _ _ (hI.put 5 8 rfl rfl (by rw [hz]; decide) rfl hUN rfl HBB (tb2_stb x ks ae n0 c0 ag n1 c1 l w.heap.size (w1.heap.size)) hbA ⟨W.heap.size, ao, co, rfl, heap_alloc_new W _, o0.kept hbA⟩)
    · intro lQ b W hI hUN hED KQ hKQ
      have f0 : aT b 4 = .agg #[.int .i64 x.v, .int .i64 x.e, .slice ag n1 c1] := hI.got 1 (of_decide_eq_true rfl) (edge hED 1 (by kernel_rfl)) rfl
      obtain ⟨gm, ao, co, f1, hgm, o1⟩ := hI.got 5 (of_decide_eq_true rfl) (edge hED 5 (by kernel_rfl)) rfl
      replace f1 : aT b 8 = .slice (some ⟨gm, 0, none⟩) 1 1 := f1
      refine opw_call 112 #[.tmp 4, .const (.int .i64 3), .tmp 8] _ _ _ rfl Tryz.func112 (by kernel_rfl) rfl #[.agg #[.int .i64 x.v, .int .i64 x.e, .slice ag n1 c1], .int .i64 3, .slice (some ⟨gm, 0, none⟩) 1 1] (by simp [ev, evc, f0, f1]) ?_
      have q1 : ItV 3 (fun _ => True) W (lstI ks) none 0 0 ao n0 co := o1.itv
      have q2 := HBO.out gm ao n0 co W hgm q1
      refine q2.mono ?_
      rintro r W2 ⟨a4, c4, rfl, ho, hb⟩
      exact ⟨_, rfl, hKQ.out _ _ (hI.put 6 9 rfl rfl (by rw [hz]; decide) rfl hUN rfl HBB (tb2_stb x ks ae n0 c0 ag n1 c1 l w.heap.size (w1.heap.size)) hb ⟨a4, c4, rfl, ho.mono hI.bel.size⟩)⟩
    · intro lQ b W hI hUN hED KQ hKQ
      have f := hI.got 6 (of_decide_eq_true rfl) (edge hED 6 (by kernel_rfl)) rfl
      exact opw_assign 9 rfl (hKQ.out _ _ (hI.put 7 2 rfl rfl (by rw [hz]; decide) rfl hUN rfl HBB (tb2_stb x ks ae n0 c0 ag n1 c1 l w.heap.size (w1.heap.size)) (Below.refl _ _) f))
  · intro b W hf hb F
    obtain ⟨a4, c4, e2, ho⟩ := F 7 (of_decide_eq_true rfl) rfl
    replace e2 : aT b 2 = _ := e2
    rw [hf.eq]
    simp only [puts, Act.put, List.setIfInBounds_toArray, List.set_cons_zero, List.set_cons_succ, e2]
    clear hf F e2
    generalize aT b = AT
    clear b
    have HO : Hid (_) := ho.mono hbb.size
    have hbW : Below w.heap.size w W := keepT hbb hb
    clear ho
    go_wp2
    go_ret
    exact ⟨a4, c4, rfl, HO.out, hbW⟩

end Go.Proofs.YtglpbgebcpijaaaGreat

set_option linter.unusedVariables false
namespace Go.Proofs.YtglpbgebcpijaaaGreat
open Go.RowKit Go.Sort

def RSpec.free2 (S : RSpec) (i d : Nat) : Bool := (List.range S.n).all fun k => k == i || S.slot k != d || (S.pre k).contains i || (S.kill k).contains i
theorem RSpec.free2_of {S : RSpec} {i d : Nat} (h : S.free2 i d = true) {k : Nat} (hk : k < S.n) (hne : k ≠ i) (hs : S.slot k = d) : i ∈ S.pre k ∨ i ∈ S.kill k := by
  have := List.all_eq_true.1 h k (List.mem_range.2 hk)
  simpa [hne, hs] using this
theorem RI.turn {S : RSpec} {D : List Nat} {B : Nat} {w0 : World} {a0 : Act} {l : Nat → Bool} {a : Act} {w : World} (h : RI S D B w0 a0 l a w) (i d : Nat) {v : Value} {w' : World} (hpre : ∀ j ∈ S.pre i, l j = true)
    (hd : D.contains d = true) (hs : d < a0.tmps.size) (hsl : S.slot i = d) (hli : l i = false) (hne : S.free2 i d = true) (hb : Below B w0 w')
    (hst : ∀ k, k < S.n → k ≠ i → l k = true → (∀ j ∈ S.kill k, upd l i j = false) → ∀ u, S.fact k u w → S.fact k u w') (hf : S.fact i v w') : RI S D B w0 a0 (upd l i) (a.put (some d) v) w' := by
  refine ⟨h.fr.put (List.contains_iff_mem.1 hd) v, hb, fun k hk => upd_mono (h.vt k hk), fun k hk hl j hj => ?_, fun k hk hl hkill => ?_⟩
  · by_cases e : k = i
    · subst e
      exact upd_mono (hpre j hj)
    · rw [upd_ne e] at hl
      exact upd_mono (h.cl k hk hl j hj)
  · by_cases e : k = i
    · subst e
      rw [hsl, aT_put_eq (by rw [h.fr.size]; exact hs)]
      exact hf
    · rw [upd_ne e] at hl
      have hsk : S.slot k ≠ d := fun e2 => by
        rcases S.free2_of hne hk e e2 with h1 | h1
        · have := h.cl k hk hl i h1
          rw [hli] at this
          cases this
        · have := hkill i h1
          rw [upd_same] at this
          cases this
      rw [aT_put_ne (Ne.symm hsk)]
      exact hst k hk e hl hkill _ (h.fact k hk hl (fun j hj => of_upd (hkill j hj)))
theorem RI.putp {S : RSpec} {D : List Nat} {B : Nat} {w0 : World} {a0 : Act} {l : Nat → Bool} {a : Act} {w : World} (h : RI S D B w0 a0 l a w) (i d : Nat) {v : Value} {w' : World} (hpre : ∀ j ∈ S.pre i, l j = true)
    (hd : D.contains d = true) (hs : d < a0.tmps.size) (hsl : S.slot i = d) (hli : l i = false) (hne : S.free2 i d = true) (hB : B ≤ w0.heap.size)
    (hst : ∀ k, k < S.n → StB (S.fact k)) (hb : Below w.heap.size w w') (hf : S.fact i v w') : RI S D B w0 a0 (upd l i) (a.put (some d) v) w' :=
  h.turn i d hpre hd hs hsl hli hne (h.bel.trans (hb.mono (Nat.le_trans hB h.bel.size))) (fun k hk _ _ _ u hu => hst k hk _ _ _ hu hb) hf
theorem own_grownT {R : Nat} {w w' : World} {a : Option Addr} {n c : Nat} {bs : List Int} {row : Option Nat} (h : Own R w a n c bs) (hg : w.grownBy w' row) (hlt : ∀ j, row = some j → j < R) : Own R w' a n c bs :=
  ⟨ownsRow_moveX (S := fun b => R ≤ b) h.row (fun k hk => (h.row.lt k hk).1) (fun k hk e => by have := hlt k e; omega) (touchX_g hg (P := fun k => row = some k) (fun k hk => hk)), h.byte⟩
theorem KidG.grown {R : Nat} {w w' : World} {g d : Nat} {ks : List It} {row : Option Nat} (h : KidG R w g d ks) (hg : w.grownBy w' row) (hlt : ∀ j, row = some j → j < R) : KidG R w' g d ks := by
  obtain ⟨S, h1, h2⟩ := h
  exact ⟨S, h1.touch (fun k hk e => by have := hlt k e; have := (h2 k hk).1; omega) (touchX_g hg (P := fun k => row = some k) (fun k hk => hk)), fun b hb => ⟨(h2 b hb).1, Nat.lt_of_lt_of_le (h2 b hb).2 hg.size⟩⟩
theorem unT {b : Bool} (h : b = true → False) : b = false := by
  cases b with
  | false => rfl
  | true => exact (h rfl).elim
theorem opw_indexY {P : Program} {Q : Exit → Act → World → Prop} {o : Oper} {a : Act} {w : World} {K : Act → World → Prop} (t : TypeId) (x y : Nat) (ho : o.op = .indexAddr t (.tmp x) (.tmp y)) (p q : Value) (hx : aT a x = p) (hy : aT a y = q) (v : Value) (hr : (Instr.indexAt t p q).run P w = .ok v w) (h : K (a.put o.dst v) w) : o.wp P a w K Q := by
  refine opw_value v ?_ h
  have hx' : a.eval (.tmp x) = p := hx
  have hy' : a.eval (.tmp y) = q := hy
  unfold execOp
  simp [ho, hx', hy', hr]
theorem indexTe (bq oq n c kq : Nat) (W : World) (h : kq < n) : (Instr.indexAt 44 (.slice (some ⟨bq, oq, none⟩) n c) (.int .i64 (kq : Int))).run Tryz.prog W = .ok (.pointer (some ⟨bq, oq + kq * 2, none⟩)) W := by
  refine (run_indexAt_slice (P := Tryz.prog) (w := W) 44 ⟨bq, oq, none⟩ n c .i64 (kq : Int) (by kernel_rfl)).trans ?_
  rw [if_pos ⟨by omega, by omega⟩]
  have hs : (sizeOf (Tryz.prog.elem 44)).run Tryz.prog W = .ok 2 W := by kernel_rfl
  rw [hs]
  simp [Result.andThen, Addr.add_lit]
set_option maxRecDepth 10000 in
set_option maxHeartbeats 1000000 in
theorem l2BoxC_agg (cls tag : Int) (a : Option Addr) (n c : Nat) (w : World) :
    Calls Tryz.prog 60 #[.int .i64 cls, .int .i64 tag, .slice a n c] w fun e w' => e = .returned (.agg #[.int .i64 cls, .int .i64 tag, .bool true, .slice none 0 0, .slice a n c]) ∧ Below w.heap.size w w' := by
  go_enter Tryz.func60, Tryz.ntmps60
  go_wp2_with fail
  try simp only [Exit.inBlock, Exit.then]
  exact bodyPost_ret (results_it rfl _ w.heap.size rfl _ _ _ _ _ _ (heap_alloc_new w _)) rfl ⟨rfl, (Below.refl _ _).alloc (Nat.le_refl _) _⟩

set_option maxRecDepth 10000 in
set_option maxHeartbeats 1000000 in
theorem l9Struct_agg (a : Option Addr) (n c : Nat) (w : World) :
    Calls Tryz.prog 56 #[.slice a n c] w fun e w' => e = .returned (.agg #[.int .i64 0, .int .i64 16, .bool true, .slice none 0 0, .slice a n c]) ∧ Below w.heap.size w w' := by
  have hbx := box5_below w
  have HB5 : Hid (_ = _) := box5_new w
  go_enter Tryz.func56, Tryz.ntmps56
  go_wp2_with fail
  refine (l2BoxC_agg 0 16 a n c (box5 w)).mono ?_
  rintro e w2 ⟨rfl, hb2⟩
  have h5 := below_kept HB5.out hb2
  obtain ⟨_, q0, q1, q2, q3, q4, q5, q6, q7, q8, q9⟩ := Box5.of h5
  have H5 : Hid (_ = _) := h5
  have B2 : Below w.heap.size w w2 := keepT hbx hb2
  clear h5 hb2
  go_wp2_with fail
  try simp only [Exit.inBlock, Exit.then]
  have T := put5_touch w2 w.heap.size (.int .i64 0) (.int .i64 16) (.bool true) (.slice none 0 0) (.slice a n c)
  exact bodyPost_ret (results_it rfl _ w.heap.size rfl _ _ _ _ _ _ (put5_heap H5.out _ _ _ _ _)) rfl ⟨rfl, B2.trans (T.below (Nat.le_refl _) B2.size)⟩

set_option maxRecDepth 10000 in
set_option maxHeartbeats 1000000 in
theorem l9List_agg (a : Option Addr) (n c : Nat) (w : World) :
    Calls Tryz.prog 57 #[.slice a n c] w fun e w' => e = .returned (.agg #[.int .i64 0, .int .i64 17, .bool true, .slice none 0 0, .slice a n c]) ∧ Below w.heap.size w w' := by
  have hbx := box5_below w
  have HB5 : Hid (_ = _) := box5_new w
  go_enter Tryz.func57, Tryz.ntmps57
  go_wp2_with fail
  refine (l2BoxC_agg 0 17 a n c (box5 w)).mono ?_
  rintro e w2 ⟨rfl, hb2⟩
  have h5 := below_kept HB5.out hb2
  obtain ⟨_, q0, q1, q2, q3, q4, q5, q6, q7, q8, q9⟩ := Box5.of h5
  have H5 : Hid (_ = _) := h5
  have B2 : Below w.heap.size w w2 := keepT hbx hb2
  clear h5 hb2
  go_wp2_with fail
  try simp only [Exit.inBlock, Exit.then]
  have T := put5_touch w2 w.heap.size (.int .i64 0) (.int .i64 17) (.bool true) (.slice none 0 0) (.slice a n c)
  exact bodyPost_ret (results_it rfl _ w.heap.size rfl _ _ _ _ _ _ (put5_heap H5.out _ _ _ _ _)) rfl ⟨rfl, B2.trans (T.below (Nat.le_refl _) B2.size)⟩

theorem Own.itv1 {B : Nat} {w : World} {a : Option Addr} {n c : Nat} {bs : List Int} (h : Own B w a n c bs) (t : Int) (hn : n ≤ 9223372036854775807) : ItV 1 (fun b => B ≤ b ∧ b < w.heap.size) w (.mk 0 t false bs []) a n c none 0 0 := ⟨h.toI, h.nil, hn, KidsI.none 0 _ _ _⟩
theorem kidG_own {B : Nat} {X : World} {a1 a2 : Option Addr} {n1 c1 n2 c2 t1 : Nat} {b1 b2 : List Int} (hB : B ≤ X.heap.size) (h1 : Own B X a1 n1 c1 b1) (h2 : Own B X a2 n2 c2 b2) (z1 : n1 ≤ 1000) (z2 : n2 ≤ 1000) : KidG B (X.alloc (.cells #[.int .i64 0, .int .i64 (t1 : Nat), .bool false, .slice a1 n1 c1, .slice none 0 0, .int .i64 0, .int .i64 2, .bool false, .slice a2 n2 c2, .slice none 0 0] 117)) X.heap.size 2 [.mk 0 (t1 : Nat) false b1 [], .mk 0 2 false b2 []] := by
  refine ⟨fun b => B ≤ b ∧ b < X.heap.size + 1, kidsI_two (S := fun b => B ≤ b ∧ b < X.heap.size) (h1.itv1 (t1 : Nat) (by omega)) (h2.itv1 2 (by omega)) (fun b hb => ⟨hb.1, by have := hb.2; omega⟩) ⟨hB, by omega⟩ rfl, fun b hb => ⟨hb.1, ?_⟩⟩
  have s : (X.alloc (.cells #[.int .i64 0, .int .i64 (t1 : Nat), .bool false, .slice a1 n1 c1, .slice none 0 0, .int .i64 0, .int .i64 2, .bool false, .slice a2 n2 c2, .slice none 0 0] 117)).heap.size = X.heap.size + 1 := by simp
  have := hb.2
  omega
theorem kidF_own3 {B : Nat} {X : World} {a1 a2 : Option Addr} {n1 c1 n2 c2 : Nat} {b1 b2 : List Int} {ks : List It} {ao : Option Addr} {n cc : Nat} (h1 : Own B X a1 n1 c1 b1) (h2 : Own B X a2 n2 c2 b2) (h3 : ListG X ao n ks) (z1 : n1 ≤ 1000) (z2 : n2 ≤ 1000) :
    KidF (X.alloc (.cells #[.int .i64 0, .int .i64 2, .bool false, .slice a1 n1 c1, .slice none 0 0, .int .i64 0, .int .i64 2, .bool false, .slice a2 n2 c2, .slice none 0 0, .int .i64 0, .int .i64 17, .bool true, .slice none 0 0, .slice ao n cc] 117)) X.heap.size [.mk 0 2 false b1 [], .mk 0 2 false b2 [], lstI ks] := by
  obtain ⟨W, hW⟩ : ∃ W, W = X.alloc (.cells #[.int .i64 0, .int .i64 2, .bool false, .slice a1 n1 c1, .slice none 0 0, .int .i64 0, .int .i64 2, .bool false, .slice a2 n2 c2, .slice none 0 0, .int .i64 0, .int .i64 17, .bool true, .slice none 0 0, .slice ao n cc] 117) := ⟨_, rfl⟩
  have hb : Below X.heap.size X W := by rw [hW]; exact (Below.refl _ _).alloc (Nat.le_refl _) _
  have hc : W.heap[X.heap.size]? = some (.cells #[.int .i64 0, .int .i64 2, .bool false, .slice a1 n1 c1, .slice none 0 0, .int .i64 0, .int .i64 2, .bool false, .slice a2 n2 c2, .slice none 0 0, .int .i64 0, .int .i64 17, .bool true, .slice none 0 0, .slice ao n cc] 117 (0, 0)) := by rw [hW]; exact heap_alloc_new X _
  rw [← hW]
  have i1 : ItV 3 (fun _ => True) W (.mk 0 2 false b1 []) a1 n1 c1 none 0 0 := (((((h1.kept hb).itv1 2 (by omega)).mono (T := fun _ => True) (fun _ _ => trivial))).more).more
  have i2 : ItV 3 (fun _ => True) W (.mk 0 2 false b2 []) a2 n2 c2 none 0 0 := (((((h2.kept hb).itv1 2 (by omega)).mono (T := fun _ => True) (fun _ _ => trivial))).more).more
  have i3 : ItV 3 (fun _ => True) W (lstI ks) none 0 0 ao n cc := (h3.kept hb).itv
  have hlt : X.heap.size < W.heap.size := (Array.getElem?_eq_some_iff.1 hc).1
  have hq : ∀ j, W.cell? ⟨X.heap.size, j, none⟩ = _ := fun j => cell_of_row _ _ j _ _ (0, 0) hc
  refine ⟨rfl, (show 3 ≤ 9223372036854775807 by decide), fun k hk => ⟨X.heap.size, 0, rfl, hlt, trivial, ?_⟩⟩
  have hk3 : k < 3 := hk
  rcases (show k = 0 ∨ k = 1 ∨ k = 2 by omega) with rfl | rfl | rfl
  · exact ⟨a1, n1, c1, none, 0, 0, (hq 0).trans rfl, (hq 1).trans rfl, (hq 2).trans rfl, (hq 3).trans rfl, (hq 4).trans rfl, i1.row, i1.nil, i1.max, i1.kids⟩
  · exact ⟨a2, n2, c2, none, 0, 0, (hq 5).trans rfl, (hq 6).trans rfl, (hq 7).trans rfl, (hq 8).trans rfl, (hq 9).trans rfl, i2.row, i2.nil, i2.max, i2.kids⟩
  · exact ⟨none, 0, 0, ao, n, cc, (hq 10).trans rfl, (hq 11).trans rfl, (hq 12).trans rfl, (hq 13).trans rfl, (hq 14).trans rfl, i3.row, i3.nil, i3.max, i3.kids⟩
theorem l2BytesF_agg (d : Nat) (tag : Int) (a : Option Addr) (n c : Nat) (ks : List It) (l : List Int) (w : World) (hk : Kids d w a n ks) (hl : enc 12 (boxI tag ks) = some l) :
    Calls Tryz.prog 59 #[.agg #[.int .i64 1, .int .i64 tag, .bool true, .slice none 0 0, .slice a n c]] w fun e w' => ∃ a' c', e = .returned (.slice a' l.length c') ∧ Own w.heap.size w' a' l.length c' l ∧ Below w.heap.size w w' :=
  specBytes_all d 12 (boxI tag ks) l none 0 0 a n c w hl ⟨rfl, fun k hk => absurd hk (Nat.not_lt_zero _), by simp [boxI, It.body]⟩ (fun _ => rfl) hk
theorem ownItR_empty (d : Nat) (w : World) : OwnItR d w.heap.size (w.alloc (.cells #[] 117)) (some ⟨w.heap.size, 0, none⟩) 0 0 [] := by
  have hrow : (w.alloc (.cells #[] 117)).ownsRow 0 117 5 (.slice (some ⟨w.heap.size, 0, none⟩) 0 0) 0 [] := ⟨rfl, .inr ⟨w.heap.size, 0, #[], rfl, Nat.zero_le _, heap_alloc_new w _, Nat.le_refl _, by decide, rfl, rfl⟩⟩
  exact ⟨⟨rfl, by decide, ⟨[], hrow, fun k hk => absurd hk (Nat.not_lt_zero _)⟩, fun b hb hc => hc.2.2 hb⟩, fun b hb => Nat.le_of_eq (by injection hb)⟩

/-- What is known of a region (RJ). -/
def tl5 (x : LfP) (b0 off n c : Nat) (ag : Option Addr) (n1 c1 : Nat) (y : Int × Int) (ao : Option Addr) (kq cc : Nat) (es0 : List It) (Q R G B : Nat) : RSpec where
  m := 21
  n := 24
  slots := [13, 14, 15, 16, 17, 18, 19, 20, 21, 22, 23, 24, 25, 26, 27, 28, 29, 30, 31, 32, 3, 100021, 100022, 3]
  kills := [[], [], [], [], [], [], [], [], [], [], [], [], [], [], [], [], [], [], [], [], [], [], [19], [20]]
  pres := [[], [], [], [], [], [], [], [], [], [], [], [], [], [], [], [], [], [], [], [0], [19], [], [], []]
  fact := fun k v w => match k with
    | 0 => v = .slice ao kq cc
    | 1 => v = .pointer (some ⟨G, 2, none⟩)
    | 2 => v = .slice (some ⟨b0, off, none⟩) n c
    | 3 => v = .int .i64 (kq : Int)
    | 4 => v = .pointer (some ⟨b0, off + kq * 2, none⟩)
    | 5 => v = .pointer (some ⟨b0, off + kq * 2, none⟩)
    | 6 => v = .int .u64 y.1
    | 7 => ∃ q1 d1, v = .slice q1 8 d1 ∧ Own Q w q1 8 d1 (eightI y.1)
    | 8 => ∃ q3 d3, v = .agg #[.int .i64 0, .int .i64 4, .bool false, .slice q3 8 d3, .slice none 0 0] ∧ Own Q w q3 8 d3 (eightI y.1)
    | 9 => v = .pointer (some ⟨G, 2, none⟩)
    | 10 => v = .slice (some ⟨b0, off, none⟩) n c
    | 11 => v = .int .i64 (kq : Int)
    | 12 => v = .pointer (some ⟨b0, off + kq * 2, none⟩)
    | 13 => v = .pointer (some ⟨b0, off + kq * 2 + 1, none⟩)
    | 14 => v = .int .i64 y.2
    | 15 => ∃ q2 d2, v = .agg #[.int .i64 0, .int .i64 2, .bool false, .slice q2 (wsz y.2) d2, .slice none 0 0] ∧ Own Q w q2 (wsz y.2) d2 (wbL y.2)
    | 16 => ∃ gr, v = .slice (some ⟨gr, 0, none⟩) 2 2 ∧ KidG Q w gr 2 [bytI (eightI y.1), numI y.2]
    | 17 => ∃ gr, v = .agg #[.int .i64 0, .int .i64 16, .bool true, .slice none 0 0, .slice (some ⟨gr, 0, none⟩) 2 2] ∧ KidG Q w gr 2 [bytI (eightI y.1), numI y.2]
    | 18 => ∃ g8 gr, v = .slice (some ⟨g8, 0, none⟩) 1 1 ∧ w.heap[g8]? = some (.cells #[.int .i64 0, .int .i64 16, .bool true, .slice none 0 0, .slice (some ⟨gr, 0, none⟩) 2 2] 117 (0, 0)) ∧ KidG Q w gr 2 [bytI (eightI y.1), numI y.2] ∧ Q ≤ g8
    | 19 => ∃ gf cf, v = .slice (some ⟨gf, 0, none⟩) (kq + 1) cf ∧ OwnItR 2 R w (some ⟨gf, 0, none⟩) (kq + 1) cf (es0 ++ [enI y.1 y.2])
    | 20 => ∃ gf cf, v = .slice (some ⟨gf, 0, none⟩) (kq + 1) cf ∧ OwnItR 2 R w (some ⟨gf, 0, none⟩) (kq + 1) cf (es0 ++ [enI y.1 y.2])
    | 21 => w.heap[G]? = some (.cells #[.int .i64 x.v, .int .i64 x.e, .slice (some ⟨b0, off, none⟩) n c, .slice ag n1 c1] 46 (0, 0))
    | 22 => OwnItR 2 R w ao kq cc es0
    | _ => v = .slice ao kq cc
set_option linter.unusedVariables false in
theorem tl5_stb (x : LfP) (b0 off n c : Nat) (ag : Option Addr) (n1 c1 : Nat) (y : Int × Int) (ao : Option Addr) (kq cc : Nat) (es0 : List It) (Q R G B : Nat) (k : Nat) (hk : k < 24) : StB ((tl5 x b0 off n c ag n1 c1 y ao kq cc es0 Q R G (B)).fact k) := by
  match k, hk with
  | 0, _ => exact fun _ _ _ h _ => h
  | 1, _ => exact fun _ _ _ h _ => h
  | 2, _ => exact fun _ _ _ h _ => h
  | 3, _ => exact fun _ _ _ h _ => h
  | 4, _ => exact fun _ _ _ h _ => h
  | 5, _ => exact fun _ _ _ h _ => h
  | 6, _ => exact fun _ _ _ h _ => h
  | 7, _ => exact fun _ _ _ ⟨q1, d1, hv, q_0⟩ hb => ⟨q1, d1, hv, q_0.kept hb⟩
  | 8, _ => exact fun _ _ _ ⟨q3, d3, hv, q_0⟩ hb => ⟨q3, d3, hv, q_0.kept hb⟩
  | 9, _ => exact fun _ _ _ h _ => h
  | 10, _ => exact fun _ _ _ h _ => h
  | 11, _ => exact fun _ _ _ h _ => h
  | 12, _ => exact fun _ _ _ h _ => h
  | 13, _ => exact fun _ _ _ h _ => h
  | 14, _ => exact fun _ _ _ h _ => h
  | 15, _ => exact fun _ _ _ ⟨q2, d2, hv, q_0⟩ hb => ⟨q2, d2, hv, q_0.kept hb⟩
  | 16, _ => exact fun _ _ _ ⟨gr, hv, q_0⟩ hb => ⟨gr, hv, q_0.kept hb⟩
  | 17, _ => exact fun _ _ _ ⟨gr, hv, q_0⟩ hb => ⟨gr, hv, q_0.kept hb⟩
  | 18, _ => exact fun _ _ _ ⟨g8, gr, hv, q_0, q_1, q_2⟩ hb => ⟨g8, gr, hv, below_kept q_0 hb, q_1.kept hb, q_2⟩
  | 19, _ => exact fun _ _ _ ⟨gf, cf, hv, q_0⟩ hb => ⟨gf, cf, hv, q_0.kept hb⟩
  | 20, _ => exact fun _ _ _ ⟨gf, cf, hv, q_0⟩ hb => ⟨gf, cf, hv, q_0.kept hb⟩
  | 21, _ => exact fun _ _ _ q_0 hb => below_kept q_0 hb
  | 22, _ => exact fun _ _ _ q_0 hb => q_0.kept hb
  | 23, _ => exact fun _ _ _ h _ => h
  | k + 24, hk => omega

/-- What is known of a region (RJ). -/
def tl6 (x : LfP) (ks : List It) (ae : Option Addr) (n c : Nat) (ag : Option Addr) (n1 c1 : Nat) (ao : Option Addr) (cc : Nat) (l : List Int) (G B : Nat) : RSpec where
  m := 12
  n := 13
  slots := [33, 34, 35, 36, 37, 38, 39, 40, 41, 42, 43, 2, 100012]
  kills := [[], [], [], [], [], [], [], [], [], [], [], [], []]
  pres := [[], [], [], [], [], [], [], [], [], [], [], [], []]
  fact := fun k v w => match k with
    | 0 => v = .pointer (some ⟨G, 0, none⟩)
    | 1 => v = .int .i64 x.v
    | 2 => ∃ q1 d1, v = .agg #[.int .i64 0, .int .i64 2, .bool false, .slice q1 (wsz x.v) d1, .slice none 0 0] ∧ Own B w q1 (wsz x.v) d1 (wbL x.v)
    | 3 => v = .pointer (some ⟨G, 1, none⟩)
    | 4 => v = .int .i64 x.e
    | 5 => ∃ q2 d2, v = .agg #[.int .i64 0, .int .i64 2, .bool false, .slice q2 (wsz x.e) d2, .slice none 0 0] ∧ Own B w q2 (wsz x.e) d2 (wbL x.e)
    | 6 => v = .slice ao n cc
    | 7 => v = .agg #[.int .i64 0, .int .i64 17, .bool true, .slice none 0 0, .slice ao n cc]
    | 8 => ∃ gr, v = .slice (some ⟨gr, 0, none⟩) 3 3 ∧ KidF w gr [numI x.v, numI x.e, lstI ks]
    | 9 => ∃ gr, v = .agg #[.int .i64 1, .int .i64 15, .bool true, .slice none 0 0, .slice (some ⟨gr, 0, none⟩) 3 3] ∧ KidF w gr [numI x.v, numI x.e, lstI ks]
    | 10 => ∃ a4 c4, v = .slice a4 l.length c4 ∧ Own B w a4 l.length c4 l
    | 11 => ∃ a4 c4, v = .slice a4 l.length c4 ∧ Own B w a4 l.length c4 l
    | _ => w.heap[G]? = some (.cells #[.int .i64 x.v, .int .i64 x.e, .slice ae n c, .slice ag n1 c1] 46 (0, 0))
set_option linter.unusedVariables false in
theorem tl6_stb (x : LfP) (ks : List It) (ae : Option Addr) (n c : Nat) (ag : Option Addr) (n1 c1 : Nat) (ao : Option Addr) (cc : Nat) (l : List Int) (G B : Nat) (k : Nat) (hk : k < 13) : StB ((tl6 x ks ae n c ag n1 c1 ao cc l G (B)).fact k) := by
  match k, hk with
  | 0, _ => exact fun _ _ _ h _ => h
  | 1, _ => exact fun _ _ _ h _ => h
  | 2, _ => exact fun _ _ _ ⟨q1, d1, hv, q_0⟩ hb => ⟨q1, d1, hv, q_0.kept hb⟩
  | 3, _ => exact fun _ _ _ h _ => h
  | 4, _ => exact fun _ _ _ h _ => h
  | 5, _ => exact fun _ _ _ ⟨q2, d2, hv, q_0⟩ hb => ⟨q2, d2, hv, q_0.kept hb⟩
  | 6, _ => exact fun _ _ _ h _ => h
  | 7, _ => exact fun _ _ _ h _ => h
  | 8, _ => exact fun _ _ _ ⟨gr, hv, q_0⟩ hb => ⟨gr, hv, q_0.kept hb⟩
  | 9, _ => exact fun _ _ _ ⟨gr, hv, q_0⟩ hb => ⟨gr, hv, q_0.kept hb⟩
  | 10, _ => exact fun _ _ _ ⟨a4, c4, hv, q_0⟩ hb => ⟨a4, c4, hv, q_0.kept hb⟩
  | 11, _ => exact fun _ _ _ ⟨a4, c4, hv, q_0⟩ hb => ⟨a4, c4, hv, q_0.kept hb⟩
  | 12, _ => exact fun _ _ _ q_0 hb => below_kept q_0 hb
  | k + 13, hk => omega

set_option maxRecDepth 10000 in
set_option maxHeartbeats 8000000 in
theorem l22ListBody_any (x : LfP) (ks : List It) (hks : ks = x.es.map (fun p => enI p.1 p.2)) (ae : Option Addr) (n c : Nat) (ag : Option Addr) (n1 c1 : Nat) (l : List Int) (w : World) (hr : RowTe w ae n x.es) (hn : n ≤ 1000) (hl : enc 12 (boxI 15 [numI x.v, numI x.e, lstI ks]) = some l) :
    Calls Tryz.prog 27 #[.agg #[.int .i64 x.v, .int .i64 x.e, .slice ae n c, .slice ag n1 c1]] w fun r w' => ∃ a' c', r = .returned (.slice a' l.length c') ∧ Own w.heap.size w' a' l.length c' l ∧ Below w.heap.size w w' := by
  obtain ⟨i0, hi, hz0, hz1, hz2⟩ := info_parts Tryz.infoIt
  obtain ⟨w1, hw1⟩ : ∃ w1, w1 = w.alloc (.cells #[.int .i64 x.v, .int .i64 x.e, .slice ae n c, .slice ag n1 c1] 46) := ⟨_, rfl⟩
  have hbb : Below w.heap.size w w1 := by rw [hw1]; exact (Below.refl _ _).alloc (Nat.le_refl _) _
  have HB1 : Hid (w1.heap[w.heap.size]? = some (.cells #[.int .i64 x.v, .int .i64 x.e, .slice ae n c, .slice ag n1 c1] 46 (0, 0))) := by show _ = _; rw [hw1]; exact heap_alloc_new w _
  have hsz1 : w.heap.size < w1.heap.size := (Array.getElem?_eq_some_iff.1 HB1.out).1
  have HR : Hid (∀ W, Below w1.heap.size w1 W → RowTe W ae n x.es) := fun W hW => hr.kept (keepT hbb hW)
  have HLX : Hid (x.es.length = n) := hr.len
  have HLE : Hid (_ = _) := hl
  have HKS : Hid (ks = x.es.map (fun p => enI p.1 p.2)) := hks
  have HW : Hid (_ = _) := hw1
  clear hw1 hr hl hks
  have x2 : w1.cell? ⟨w.heap.size, 2, none⟩ = some (.slice ae n c) := (cell_of_row _ _ 2 _ _ (0, 0) HB1.out).trans rfl
  have hbE : Below w1.heap.size w1 (w1.alloc (.cells #[] 117)) := (Below.refl _ _).alloc (Nat.le_refl _) _
  have HO0 : Hid (OwnItR 2 w1.heap.size (w1.alloc (.cells #[] 117)) (some ⟨w1.heap.size, 0, none⟩) 0 0 ((x.es.take 0).map (fun p => enI p.1 p.2))) := ownItR_empty 2 w1
  go_enter Tryz.func27, Tryz.ntmps27
  go_upto_region 1 with fail
  rw [← HW.out]
  clear HW
  go_wp2
  go_loopw [3, 4] (fun o i wr => ∃ (kq : Nat) (ao : Option Addr) (cc : Nat), kq ≤ n ∧ i = .int .i64 kq ∧ o = .slice ao kq cc ∧ Hid (OwnItR 2 w1.heap.size wr ao kq cc ((x.es.take kq).map (fun p => enI p.1 p.2))) ∧ Below w1.heap.size w1 wr) (fun _ i _ => n - (intOf i).toNat)
  case atStart => exact ⟨0, _, 0, Nat.zero_le _, rfl, rfl, HO0, hbE⟩
  case round =>
    obtain ⟨kq, ao, cc, hk, rfl, rfl, HOR0, hbr⟩ := hrel
    have hws := hbr.size
    clear x2
    have HBR : Hid (wr.heap[w.heap.size]? = some (.cells #[.int .i64 x.v, .int .i64 x.e, .slice ae n c, .slice ag n1 c1] 46 (0, 0))) := below_kept HB1.out hbr
    have x2 : wr.cell? ⟨w.heap.size, 2, none⟩ = some (.slice ae n c) := (cell_of_row _ _ 2 _ _ (0, 0) HBR.out).trans rfl
    by_cases hkn : kq < n
    · have hkni : (kq : Int) < (n : Int) := by omega
      obtain ⟨b0, off, hA, hlb, e0, e1⟩ := (HR.out _ (Below.refl _ _)).get kq hkn
      subst hA
      obtain ⟨y, hy⟩ : ∃ y, y = x.es.getD kq (0, 0) := ⟨_, rfl⟩
      rw [← hy] at e0 e1
      have hu : 0 ≤ y.1 ∧ y.1 ≤ 18446744073709551615 := by rw [hy]; exact (HR.out _ (Below.refl _ _)).rng kq
      have HXK : Hid ((x.es.take (kq + 1)).map (fun p => enI p.1 p.2) = (x.es.take kq).map (fun p => enI p.1 p.2) ++ [enI y.1 y.2]) := by show _ = _; rw [hy]; exact en_next x.es kq (by rw [HLX.out]; exact hkn)
      obtain ⟨es0, hes⟩ : ∃ es0, es0 = (x.es.take kq).map (fun p => enI p.1 p.2) := ⟨_, rfl⟩
      rw [← hes] at HXK
      have HOR : Hid (OwnItR 2 w1.heap.size wr ao kq cc es0) := by show OwnItR _ _ _ _ _ _ _; rw [hes]; exact HOR0.out
      have HOWN : Hid (∀ b, (Value.slice ao kq cc).ownBlock = some b → b < wr.heap.size) := fun b hb => by obtain ⟨vs0, hv0⟩ := HOR.out.row; exact (hv0.lt b hb).2
      have HCE : Hid (∀ W, Below w1.heap.size wr W → W.cell? ⟨b0, off + kq * 2, none⟩ = some (.int .u64 y.1) ∧ W.cell? ⟨b0, off + kq * 2 + 1, none⟩ = some (.int .i64 y.2)) := fun W hW => ⟨((hbr.trans hW).cell (p := ⟨b0, off + kq * 2, none⟩) hlb).trans e0, ((hbr.trans hW).cell (p := ⟨b0, off + kq * 2 + 1, none⟩) hlb).trans e1⟩
      have HBB : w1.heap.size ≤ wr.heap.size := hws
      clear hy hes HOR0 e0 e1
      go_upto_region 5 with fail
      clear x2
      refine wp_region_ri (tl5 x b0 off n c ag n1 c1 y ao kq cc es0 wr.heap.size w1.heap.size w.heap.size (w1.heap.size)) [3, 13, 14, 15, 16, 17, 18, 19, 20, 21, 22, 23, 24, 25, 26, 27, 28, 29, 30, 31, 32] (w1.heap.size) (fun a0 => a0.tmps.size = 44 ∧ aT a0 1 = .pointer (some ⟨w.heap.size, 0, none⟩) ∧ aT a0 4 = .int .i64 (kq : Int)) (by kernel_rfl) rfl (by kernel_rfl) rfl ⟨rfl, rfl, rfl⟩ (tl5_stb x b0 off n c ag n1 c1 y ao kq cc es0 wr.heap.size w1.heap.size w.heap.size (w1.heap.size)) ?_ ?_ ?_
      · intro k hk hk2
        match k, hk, hk2 with
        | 21, _, _ => exact HBR.out
        | 22, _, _ => exact HOR.out
        | 23, _, _ => exact rfl
        | 0, hk, _ => exact absurd hk (by show ¬ (21 ≤ 0); omega)
        | 1, hk, _ => exact absurd hk (by show ¬ (21 ≤ 1); omega)
        | 2, hk, _ => exact absurd hk (by show ¬ (21 ≤ 2); omega)
        | 3, hk, _ => exact absurd hk (by show ¬ (21 ≤ 3); omega)
        | 4, hk, _ => exact absurd hk (by show ¬ (21 ≤ 4); omega)
        | 5, hk, _ => exact absurd hk (by show ¬ (21 ≤ 5); omega)
        | 6, hk, _ => exact absurd hk (by show ¬ (21 ≤ 6); omega)
        | 7, hk, _ => exact absurd hk (by show ¬ (21 ≤ 7); omega)
        | 8, hk, _ => exact absurd hk (by show ¬ (21 ≤ 8); omega)
        | 9, hk, _ => exact absurd hk (by show ¬ (21 ≤ 9); omega)
        | 10, hk, _ => exact absurd hk (by show ¬ (21 ≤ 10); omega)
        | 11, hk, _ => exact absurd hk (by show ¬ (21 ≤ 11); omega)
        | 12, hk, _ => exact absurd hk (by show ¬ (21 ≤ 12); omega)
        | 13, hk, _ => exact absurd hk (by show ¬ (21 ≤ 13); omega)
        | 14, hk, _ => exact absurd hk (by show ¬ (21 ≤ 14); omega)
        | 15, hk, _ => exact absurd hk (by show ¬ (21 ≤ 15); omega)
        | 16, hk, _ => exact absurd hk (by show ¬ (21 ≤ 16); omega)
        | 17, hk, _ => exact absurd hk (by show ¬ (21 ≤ 17); omega)
        | 18, hk, _ => exact absurd hk (by show ¬ (21 ≤ 18); omega)
        | 19, hk, _ => exact absurd hk (by show ¬ (21 ≤ 19); omega)
        | 20, hk, _ => exact absurd hk (by show ¬ (21 ≤ 20); omega)
        | k + 24, _, hk2 => exact absurd hk2 (by show ¬ (k + 24 < 24); omega)
      · rintro a0 ⟨hz, g1, g4⟩
        refine StepsRI.cons ?_ (StepsRI.cons ?_ (StepsRI.cons ?_ (StepsRI.cons ?_ (StepsRI.cons ?_ (StepsRI.cons ?_ (StepsRI.cons ?_ (StepsRI.cons ?_ (StepsRI.cons ?_ (StepsRI.cons ?_ (StepsRI.cons ?_ (StepsRI.cons ?_ (StepsRI.cons ?_ (StepsRI.cons ?_ (StepsRI.cons ?_ (StepsRI.cons ?_ (StepsRI.cons ?_ (StepsRI.cons ?_ (StepsRI.cons ?_ (StepsRI.cons ?_ (StepsRI.cons ?_ (StepsRI.nil)))))))))))))))))))))
        · intro lQ b W hI hUN hED KQ hKQ
          have hu20 : lQ 20 = false := unT fun h => by
            have h2 := hI.cl 19 (of_decide_eq_true rfl) (hI.cl 20 (of_decide_eq_true rfl) h 19 (List.Mem.head _)) 0 (List.Mem.head _)
            rw [show lQ 0 = false from hUN] at h2
            cases h2
          have f : aT b 3 = .slice ao kq cc := hI.vot1 23 20 (of_decide_eq_true rfl) (of_decide_eq_true rfl) hu20 rfl
          exact opw_move 3 rfl (hKQ.out _ _ (hI.put 0 13 rfl rfl (by rw [hz]; decide) rfl hUN rfl HBB (tl5_stb x b0 off n c ag n1 c1 y ao kq cc es0 wr.heap.size w1.heap.size w.heap.size (w1.heap.size)) (Below.refl _ _) f))
        · intro lQ b W hI hUN hED KQ hKQ
          exact opw_field 46 1 2 rfl _ ((hI.fr.same 1 (by decide)).trans g1) _ (by kernel_rfl) (hKQ.out _ _ (hI.put 1 14 rfl rfl (by rw [hz]; decide) rfl hUN rfl HBB (tl5_stb x b0 off n c ag n1 c1 y ao kq cc es0 wr.heap.size w1.heap.size w.heap.size (w1.heap.size)) (Below.refl _ _) rfl))
        · intro lQ b W hI hUN hED KQ hKQ
          have f := hI.got 1 (of_decide_eq_true rfl) (edge hED 1 (by kernel_rfl)) rfl
          have hg := (hI.vot 21 (of_decide_eq_true rfl) (of_decide_eq_true rfl) rfl)
          have hc : W.cell? ⟨w.heap.size, 2, none⟩ = some (.slice (some ⟨b0, off, none⟩) n c) := (cell_of_row _ _ 2 _ _ (0, 0) hg).trans rfl
          exact opw_load1 44 14 rfl _ f _ (by simp [Instr.loadAt, go_sem, hc]) (hKQ.out _ _ (hI.put 2 15 rfl rfl (by rw [hz]; decide) rfl hUN rfl HBB (tl5_stb x b0 off n c ag n1 c1 y ao kq cc es0 wr.heap.size w1.heap.size w.heap.size (w1.heap.size)) (Below.refl _ _) rfl))
        · intro lQ b W hI hUN hED KQ hKQ
          exact opw_move 4 rfl (hKQ.out _ _ (hI.put 3 16 rfl rfl (by rw [hz]; decide) rfl hUN rfl HBB (tl5_stb x b0 off n c ag n1 c1 y ao kq cc es0 wr.heap.size w1.heap.size w.heap.size (w1.heap.size)) (Below.refl _ _) ((hI.fr.same 4 (by decide)).trans g4)))
        · intro lQ b W hI hUN hED KQ hKQ
          have f0 : aT b 15 = .slice (some ⟨b0, off, none⟩) n c := hI.got 2 (of_decide_eq_true rfl) (edge hED 2 (by kernel_rfl)) rfl
          have f1 : aT b 16 = .int .i64 (kq : Int) := hI.got 3 (of_decide_eq_true rfl) (edge hED 3 (by kernel_rfl)) rfl
          exact opw_indexY 44 15 16 rfl _ _ f0 f1 _ (indexTe b0 off n c kq W hkn) (hKQ.out _ _ (hI.put 4 17 rfl rfl (by rw [hz]; decide) rfl hUN rfl HBB (tl5_stb x b0 off n c ag n1 c1 y ao kq cc es0 wr.heap.size w1.heap.size w.heap.size (w1.heap.size)) (Below.refl _ _) rfl))
        · intro lQ b W hI hUN hED KQ hKQ
          have f : aT b 17 = .pointer (some ⟨b0, off + kq * 2, none⟩) := hI.got 4 (of_decide_eq_true rfl) (edge hED 4 (by kernel_rfl)) rfl
          exact opw_field 91 17 0 rfl _ f (.pointer (some ⟨b0, off + kq * 2, none⟩)) (by kernel_rfl) (hKQ.out _ _ (hI.put 5 18 rfl rfl (by rw [hz]; decide) rfl hUN rfl HBB (tl5_stb x b0 off n c ag n1 c1 y ao kq cc es0 wr.heap.size w1.heap.size w.heap.size (w1.heap.size)) (Below.refl _ _) rfl))
        · intro lQ b W hI hUN hED KQ hKQ
          have f : aT b 18 = .pointer (some ⟨b0, off + kq * 2, none⟩) := hI.got 5 (of_decide_eq_true rfl) (edge hED 5 (by kernel_rfl)) rfl
          have hc : W.cell? ⟨b0, off + kq * 2, none⟩ = some (.int .u64 y.1) := (HCE.out W hI.bel).1
          exact opw_load1 26 18 rfl _ f _ (by simp [Instr.loadAt, go_sem, hc]) (hKQ.out _ _ (hI.put 6 19 rfl rfl (by rw [hz]; decide) rfl hUN rfl HBB (tl5_stb x b0 off n c ag n1 c1 y ao kq cc es0 wr.heap.size w1.heap.size w.heap.size (w1.heap.size)) (Below.refl _ _) rfl))
        · intro lQ b W hI hUN hED KQ hKQ
          have f0 := hI.got 6 (of_decide_eq_true rfl) (edge hED 6 (by kernel_rfl)) rfl
          replace f0 : aT b 19 = .int .u64 y.1 := f0
          refine opw_call 62 #[.tmp 19] _ _ _ rfl Tryz.func62 (by kernel_rfl) rfl #[.int .u64 y.1] (by simp [ev, f0]) ?_
          refine (l1Eight_any y.1 W hu.1 hu.2).mono ?_
          rintro e W2 ⟨q1, d1, rfl, ho, hb⟩
          exact ⟨_, rfl, hKQ.out _ _ (hI.put 7 20 rfl rfl (by rw [hz]; decide) rfl hUN rfl HBB (tl5_stb x b0 off n c ag n1 c1 y ao kq cc es0 wr.heap.size w1.heap.size w.heap.size (w1.heap.size)) hb ⟨q1, d1, rfl, ho.mono (hI.bel.size)⟩)⟩
        · intro lQ b W hI hUN hED KQ hKQ
          have f0 := hI.got 7 (of_decide_eq_true rfl) (edge hED 7 (by kernel_rfl)) rfl
          obtain ⟨q1, d1, f0, o0_0⟩ := f0
          replace f0 : aT b 20 = .slice q1 8 d1 := f0
          refine opw_call 61 #[.tmp 20] _ _ _ rfl Tryz.func61 (by kernel_rfl) rfl #[.slice q1 8 d1] (by simp [ev, f0]) ?_
          refine (l9Bytes_agg q1 8 d1 (eightI y.1) W o0_0.toRow o0_0.nil (by decide)).mono ?_
          rintro e W2 ⟨q3, d3, rfl, ho, hb⟩
          exact ⟨_, rfl, hKQ.out _ _ (hI.put 8 21 rfl rfl (by rw [hz]; decide) rfl hUN rfl HBB (tl5_stb x b0 off n c ag n1 c1 y ao kq cc es0 wr.heap.size w1.heap.size w.heap.size (w1.heap.size)) hb ⟨q3, d3, rfl, ho.mono (Nat.le_succ_of_le (hI.bel.size))⟩)⟩
        · intro lQ b W hI hUN hED KQ hKQ
          exact opw_field 46 1 2 rfl _ ((hI.fr.same 1 (by decide)).trans g1) _ (by kernel_rfl) (hKQ.out _ _ (hI.put 9 22 rfl rfl (by rw [hz]; decide) rfl hUN rfl HBB (tl5_stb x b0 off n c ag n1 c1 y ao kq cc es0 wr.heap.size w1.heap.size w.heap.size (w1.heap.size)) (Below.refl _ _) rfl))
        · intro lQ b W hI hUN hED KQ hKQ
          have f := hI.got 9 (of_decide_eq_true rfl) (edge hED 9 (by kernel_rfl)) rfl
          have hg := (hI.vot 21 (of_decide_eq_true rfl) (of_decide_eq_true rfl) rfl)
          have hc : W.cell? ⟨w.heap.size, 2, none⟩ = some (.slice (some ⟨b0, off, none⟩) n c) := (cell_of_row _ _ 2 _ _ (0, 0) hg).trans rfl
          exact opw_load1 44 22 rfl _ f _ (by simp [Instr.loadAt, go_sem, hc]) (hKQ.out _ _ (hI.put 10 23 rfl rfl (by rw [hz]; decide) rfl hUN rfl HBB (tl5_stb x b0 off n c ag n1 c1 y ao kq cc es0 wr.heap.size w1.heap.size w.heap.size (w1.heap.size)) (Below.refl _ _) rfl))
        · intro lQ b W hI hUN hED KQ hKQ
          exact opw_move 4 rfl (hKQ.out _ _ (hI.put 11 24 rfl rfl (by rw [hz]; decide) rfl hUN rfl HBB (tl5_stb x b0 off n c ag n1 c1 y ao kq cc es0 wr.heap.size w1.heap.size w.heap.size (w1.heap.size)) (Below.refl _ _) ((hI.fr.same 4 (by decide)).trans g4)))
        · intro lQ b W hI hUN hED KQ hKQ
          have f0 : aT b 23 = .slice (some ⟨b0, off, none⟩) n c := hI.got 10 (of_decide_eq_true rfl) (edge hED 10 (by kernel_rfl)) rfl
          have f1 : aT b 24 = .int .i64 (kq : Int) := hI.got 11 (of_decide_eq_true rfl) (edge hED 11 (by kernel_rfl)) rfl
          exact opw_indexY 44 23 24 rfl _ _ f0 f1 _ (indexTe b0 off n c kq W hkn) (hKQ.out _ _ (hI.put 12 25 rfl rfl (by rw [hz]; decide) rfl hUN rfl HBB (tl5_stb x b0 off n c ag n1 c1 y ao kq cc es0 wr.heap.size w1.heap.size w.heap.size (w1.heap.size)) (Below.refl _ _) rfl))
        · intro lQ b W hI hUN hED KQ hKQ
          have f : aT b 25 = .pointer (some ⟨b0, off + kq * 2, none⟩) := hI.got 12 (of_decide_eq_true rfl) (edge hED 12 (by kernel_rfl)) rfl
          exact opw_field 91 25 1 rfl _ f (.pointer (some ⟨b0, off + kq * 2 + 1, none⟩)) (by kernel_rfl) (hKQ.out _ _ (hI.put 13 26 rfl rfl (by rw [hz]; decide) rfl hUN rfl HBB (tl5_stb x b0 off n c ag n1 c1 y ao kq cc es0 wr.heap.size w1.heap.size w.heap.size (w1.heap.size)) (Below.refl _ _) rfl))
        · intro lQ b W hI hUN hED KQ hKQ
          have f : aT b 26 = .pointer (some ⟨b0, off + kq * 2 + 1, none⟩) := hI.got 13 (of_decide_eq_true rfl) (edge hED 13 (by kernel_rfl)) rfl
          have hc : W.cell? ⟨b0, off + kq * 2 + 1, none⟩ = some (.int .i64 y.2) := (HCE.out W hI.bel).2
          exact opw_load1 2 26 rfl _ f _ (by simp [Instr.loadAt, go_sem, hc]) (hKQ.out _ _ (hI.put 14 27 rfl rfl (by rw [hz]; decide) rfl hUN rfl HBB (tl5_stb x b0 off n c ag n1 c1 y ao kq cc es0 wr.heap.size w1.heap.size w.heap.size (w1.heap.size)) (Below.refl _ _) rfl))
        · intro lQ b W hI hUN hED KQ hKQ
          have f0 := hI.got 14 (of_decide_eq_true rfl) (edge hED 14 (by kernel_rfl)) rfl
          replace f0 : aT b 27 = .int .i64 y.2 := f0
          refine opw_call 58 #[.tmp 27] _ _ _ rfl Tryz.func58 (by kernel_rfl) rfl #[.int .i64 y.2] (by simp [ev, f0]) ?_
          refine (l9Num_agg y.2 W).mono ?_
          rintro e W2 ⟨q2, d2, rfl, ho, hb⟩
          exact ⟨_, rfl, hKQ.out _ _ (hI.put 15 28 rfl rfl (by rw [hz]; decide) rfl hUN rfl HBB (tl5_stb x b0 off n c ag n1 c1 y ao kq cc es0 wr.heap.size w1.heap.size w.heap.size (w1.heap.size)) hb ⟨q2, d2, rfl, ho.mono (Nat.le_succ_of_le (hI.bel.size))⟩)⟩
        · intro lQ b W hI hUN hED KQ hKQ
          obtain ⟨q3, d3, f0, o0⟩ := hI.got 8 (of_decide_eq_true rfl) (edge hED 8 (by kernel_rfl)) rfl
          obtain ⟨q2, d2, f1, o1⟩ := hI.got 15 (of_decide_eq_true rfl) (edge hED 15 (by kernel_rfl)) rfl
          replace f0 : aT b 21 = .agg #[.int .i64 0, .int .i64 4, .bool false, .slice q3 8 d3, .slice none 0 0] := f0
          replace f1 : aT b 28 = .agg #[.int .i64 0, .int .i64 2, .bool false, .slice q2 (wsz y.2) d2, .slice none 0 0] := f1
          refine opw_buildSliceT _ 2 _ rfl #[(0, .agg #[.int .i64 0, .int .i64 4, .bool false, .slice q3 8 d3, .slice none 0 0]), (1, .agg #[.int .i64 0, .int .i64 2, .bool false, .slice q2 (wsz y.2) d2, .slice none 0 0])] (by simp [ev, f0, f1]) (.slice (some ⟨W.heap.size, 0, none⟩) 2 2) (W.alloc (.cells #[.int .i64 0, .int .i64 4, .bool false, .slice q3 8 d3, .slice none 0 0, .int .i64 0, .int .i64 2, .bool false, .slice q2 (wsz y.2) d2, .slice none 0 0] 117)) (by kernel_rfl) ?_
          exact hKQ.out _ _ (hI.put 16 29 rfl rfl (by rw [hz]; decide) rfl hUN rfl HBB (tl5_stb x b0 off n c ag n1 c1 y ao kq cc es0 wr.heap.size w1.heap.size w.heap.size (w1.heap.size)) ((Below.refl _ _).alloc (Nat.le_refl _) _) ⟨W.heap.size, rfl, kidG_own (hI.bel.size) o0 o1 (by decide) (by have := wsz_bd y.2; omega)⟩)
        · intro lQ b W hI hUN hED KQ hKQ
          have f0 := hI.got 16 (of_decide_eq_true rfl) (edge hED 16 (by kernel_rfl)) rfl
          obtain ⟨gr, f0, o0_0⟩ := f0
          replace f0 : aT b 29 = .slice (some ⟨gr, 0, none⟩) 2 2 := f0
          refine opw_call 56 #[.tmp 29] _ _ _ rfl Tryz.func56 (by kernel_rfl) rfl #[.slice (some ⟨gr, 0, none⟩) 2 2] (by simp [ev, f0]) ?_
          refine (l9Struct_agg (some ⟨gr, 0, none⟩) 2 2 W).mono ?_
          rintro e W2 ⟨rfl, hb⟩
          exact ⟨_, rfl, hKQ.out _ _ (hI.put 17 30 rfl rfl (by rw [hz]; decide) rfl hUN rfl HBB (tl5_stb x b0 off n c ag n1 c1 y ao kq cc es0 wr.heap.size w1.heap.size w.heap.size (w1.heap.size)) hb ⟨gr, rfl, o0_0.kept hb⟩)⟩
        · intro lQ b W hI hUN hED KQ hKQ
          obtain ⟨gr, f0, o0⟩ := hI.got 17 (of_decide_eq_true rfl) (edge hED 17 (by kernel_rfl)) rfl
          replace f0 : aT b 30 = .agg #[.int .i64 0, .int .i64 16, .bool true, .slice none 0 0, .slice (some ⟨gr, 0, none⟩) 2 2] := f0
          refine opw_buildSliceT _ 1 _ rfl #[(0, .agg #[.int .i64 0, .int .i64 16, .bool true, .slice none 0 0, .slice (some ⟨gr, 0, none⟩) 2 2])] (by simp [ev, f0]) (.slice (some ⟨W.heap.size, 0, none⟩) 1 1) (W.alloc (.cells #[.int .i64 0, .int .i64 16, .bool true, .slice none 0 0, .slice (some ⟨gr, 0, none⟩) 2 2] 117)) (by kernel_rfl) ?_
          have hbA : Below W.heap.size W (W.alloc (.cells #[.int .i64 0, .int .i64 16, .bool true, .slice none 0 0, .slice (some ⟨gr, 0, none⟩) 2 2] 117)) := (Below.refl _ _).alloc (Nat.le_refl _) _
          exact hKQ.out _ _ (hI.put 18 31 rfl rfl (by rw [hz]; decide) rfl hUN rfl HBB (tl5_stb x b0 off n c ag n1 c1 y ao kq cc es0 wr.heap.size w1.heap.size w.heap.size (w1.heap.size)) hbA ⟨W.heap.size, gr, rfl, heap_alloc_new W _, o0.kept hbA, hI.bel.size⟩)
        · intro lQ b W hI hUN hED KQ hKQ
          obtain ⟨g8, gr, f1, hg8, o1, _⟩ := hI.got 18 (of_decide_eq_true rfl) (edge hED 18 (by kernel_rfl)) rfl
          have f0 : aT b 13 = .slice ao kq cc := hI.got 0 (of_decide_eq_true rfl) (edge hED 0 (by kernel_rfl)) rfl
          have hits : OwnItR 2 w1.heap.size W ao kq cc es0 := hI.vot1 22 19 (of_decide_eq_true rfl) (of_decide_eq_true rfl) hUN rfl
          replace f1 : aT b 31 = .slice (some ⟨g8, 0, none⟩) 1 1 := f1
          obtain ⟨vs, hrow⟩ := hits.row
          have hWs := hI.bel.size
          refine wp_append_lies W (.tmp 13) (.tmp 31) 115 rfl 0 117 i0 _ 5 72 Tryz.underlying115 hi hz0 hz1 hz2 rfl (by decide) (.slice ao kq cc) kq vs f0 hrow ⟨g8, 0, none⟩ 1 1 [.int .i64 0, .int .i64 16, .bool true, .slice none 0 0, .slice (some ⟨gr, 0, none⟩) 2 2] f1 rfl (World.news_of_block hg8) (by intro u hu; simp only [List.mem_cons, List.not_mem_nil, or_false] at hu; rcases hu with rfl | rfl | rfl | rfl | rfl <;> rfl) (by decide) (by unfold maxLen; omega) (by omega) (Nat.zero_le _) _ rfl ?_
          intro gf cf w' hv hg hl hlt
          obtain ⟨S, k1, k2⟩ := o1
          have hnew : OwnItR 2 w1.heap.size w' (some ⟨gf, 0, none⟩) (kq + 1) cf (es0 ++ [enI y.1 y.2]) := hits.appended (T := S) (ab := none) (nb := 0) (cb := 0) (ak := some ⟨gr, 0, none⟩) (nk := 2) (ck := 2) ⟨⟨⟨rfl, fun j hj => absurd hj (Nat.not_lt_zero _), by simp [enI, strI, It.body]⟩, fun x hx => by cases hx⟩, fun _ => rfl, by decide, k1⟩ (fun b hb => ⟨by have := (k2 b hb).1; omega, (k2 b hb).2, fun e => by have := HOWN.out b e; have := (k2 b hb).1; omega⟩) (by omega) hrow hv hg hl (by omega)
          have hb' : Below w1.heap.size wr w' := hI.bel.grown hg (by omega) (fun kx hx => hits.2 kx hx)
          have hno : lQ 20 = true → False := fun h => by
            have h2 := hI.cl 20 (of_decide_eq_true rfl) h 19 (List.Mem.head _)
            rw [show lQ 19 = false from hUN] at h2
            cases h2
          refine hKQ.out _ _ (hI.turn 19 32 (fun j hj => by rcases List.mem_singleton.1 hj with rfl; exact edge hED 0 (by kernel_rfl)) rfl (by rw [hz]; decide) rfl hUN rfl hb' ?_ ⟨gf, cf, rfl, hnew⟩)
          intro kx hkx hne hlk hkill u hu
          match kx, hkx, hne, hkill, hu with
            | 0, _, _, _, hu => exact hu
            | 1, _, _, _, hu => exact hu
            | 2, _, _, _, hu => exact hu
            | 3, _, _, _, hu => exact hu
            | 4, _, _, _, hu => exact hu
            | 5, _, _, _, hu => exact hu
            | 6, _, _, _, hu => exact hu
            | 7, _, _, _, ⟨q1, d1, hv, q_0⟩ => exact ⟨q1, d1, hv, own_grownT q_0 hg HOWN.out⟩
            | 8, _, _, _, ⟨q3, d3, hv, q_0⟩ => exact ⟨q3, d3, hv, own_grownT q_0 hg HOWN.out⟩
            | 9, _, _, _, hu => exact hu
            | 10, _, _, _, hu => exact hu
            | 11, _, _, _, hu => exact hu
            | 12, _, _, _, hu => exact hu
            | 13, _, _, _, hu => exact hu
            | 14, _, _, _, hu => exact hu
            | 15, _, _, _, ⟨q2, d2, hv, q_0⟩ => exact ⟨q2, d2, hv, own_grownT q_0 hg HOWN.out⟩
            | 16, _, _, _, ⟨gr, hv, q_0⟩ => exact ⟨gr, hv, q_0.grown hg HOWN.out⟩
            | 17, _, _, _, ⟨gr, hv, q_0⟩ => exact ⟨gr, hv, q_0.grown hg HOWN.out⟩
            | 18, _, _, _, ⟨g8, gr, hv, q_0, q_1, q_2⟩ => exact ⟨g8, gr, hv, (hg.block _ (Array.getElem?_eq_some_iff.1 q_0).1 (fun e => by have := HOWN.out _ e.symm; omega)).trans q_0, q_1.grown hg HOWN.out, q_2⟩
            | 19, _, hne, _, _ => exact absurd rfl hne
            | 20, _, _, hkill, hu => exact (hno hlk).elim
            | 21, _, _, _, hu => exact (hg.block _ (Array.getElem?_eq_some_iff.1 hu).1 (fun e => by have := hits.2 _ e.symm; omega)).trans hu
            | 22, _, _, hkill, _ => exact absurd (hkill 19 (List.Mem.head _)) (by rw [upd_same]; decide)
            | 23, _, _, _, hu => exact hu
            | kx + 24, hkx, _, _, _ => exact absurd hkx (by show ¬ (kx + 24 < 24); omega)
        · intro lQ b W hI hUN hED KQ hKQ
          have f := hI.got 19 (of_decide_eq_true rfl) (edge hED 19 (by kernel_rfl)) rfl
          obtain ⟨gf, cf, f0, o0⟩ := f
          replace f0 : aT b 32 = .slice (some ⟨gf, 0, none⟩) (kq + 1) cf := f0
          refine opw_assign 32 rfl ?_
          rw [f0]
          exact hKQ.out _ _ (hI.putp 20 3 (fun j hj => by rcases List.mem_singleton.1 hj with rfl; exact edge hED 19 (by kernel_rfl)) rfl (by rw [hz]; decide) rfl hUN rfl HBB (tl5_stb x b0 off n c ag n1 c1 y ao kq cc es0 wr.heap.size w1.heap.size w.heap.size (w1.heap.size)) (Below.refl _ _) ⟨gf, cf, rfl, o0⟩)
      · intro b W hf hb F
        obtain ⟨gf, cf, e3, hits⟩ := F 20 (of_decide_eq_true rfl) rfl
        replace e3 : aT b 3 = _ := e3
        rw [hf.eq]
        simp only [puts, Act.put, List.setIfInBounds_toArray, List.set_cons_zero, List.set_cons_succ, e3]
        clear hf F e3
        generalize aT b = AT
        clear b
        have HO7 : Hid (OwnItR 2 w1.heap.size W (some ⟨gf, 0, none⟩) (kq + 1) cf ((x.es.take (kq + 1)).map (fun p => enI p.1 p.2))) := by show OwnItR _ _ _ _ _ _ _; rw [HXK.out]; exact hits
        have B7 : Below w1.heap.size w1 W := hbr.trans hb
        clear hits
        go_wp2
        go_roundw
        case rel => exact ⟨kq + 1, _, cf, by omega, by go_num, rfl, HO7, B7⟩
        case measure => simp [intOf]; omega
    · obtain rfl : n = kq := by omega
      have HLG : Hid (ListG wr ao n ks) := ⟨by
        have := HOR0.out
        rw [List.take_of_length_le (by rw [HLX.out]; exact Nat.le_refl _), ← HKS.out] at this
        exact this.kids.mono (fun _ _ => trivial)⟩
      have HBY : Hid (∀ (gr : Nat) (W : World), KidF W gr [numI x.v, numI x.e, lstI ks] → Calls Tryz.prog 59 #[.agg #[.int .i64 1, .int .i64 15, .bool true, .slice none 0 0, .slice (some ⟨gr, 0, none⟩) 3 3]] W fun e w' => ∃ a' c', e = .returned (.slice a' l.length c') ∧ Own W.heap.size w' a' l.length c' l ∧ Below W.heap.size W w') := fun gr W h => l2BytesF_agg 4 15 (some ⟨gr, 0, none⟩) 3 3 [numI x.v, numI x.e, lstI ks] l W h.kids HLE.out
      have HRS : Hid (w.heap.size ≤ wr.heap.size) := by show _ ≤ _; omega
      have HBX : Hid (Below w.heap.size w wr) := keepT hbb hbr
      have HBB : wr.heap.size ≤ wr.heap.size := Nat.le_refl _
      clear HOR0 HLX HKS HLE
      have hkk : ¬ ((n : Int) < (n : Int)) := by omega
      go_upto_region 6 with fail
      clear x2
      refine wp_region_ri (tl6 x ks ae n c ag n1 c1 ao cc l w.heap.size (wr.heap.size)) [2, 33, 34, 35, 36, 37, 38, 39, 40, 41, 42, 43] (wr.heap.size) (fun a0 => a0.tmps.size = 44 ∧ aT a0 1 = .pointer (some ⟨w.heap.size, 0, none⟩) ∧ aT a0 3 = .slice ao n cc) (by kernel_rfl) rfl (by kernel_rfl) rfl ⟨rfl, rfl, rfl⟩ (tl6_stb x ks ae n c ag n1 c1 ao cc l w.heap.size (wr.heap.size)) ?_ ?_ ?_
      · intro k hk hk2
        match k, hk, hk2 with
        | 12, _, _ => exact HBR.out
        | 0, hk, _ => exact absurd hk (by show ¬ (12 ≤ 0); omega)
        | 1, hk, _ => exact absurd hk (by show ¬ (12 ≤ 1); omega)
        | 2, hk, _ => exact absurd hk (by show ¬ (12 ≤ 2); omega)
        | 3, hk, _ => exact absurd hk (by show ¬ (12 ≤ 3); omega)
        | 4, hk, _ => exact absurd hk (by show ¬ (12 ≤ 4); omega)
        | 5, hk, _ => exact absurd hk (by show ¬ (12 ≤ 5); omega)
        | 6, hk, _ => exact absurd hk (by show ¬ (12 ≤ 6); omega)
        | 7, hk, _ => exact absurd hk (by show ¬ (12 ≤ 7); omega)
        | 8, hk, _ => exact absurd hk (by show ¬ (12 ≤ 8); omega)
        | 9, hk, _ => exact absurd hk (by show ¬ (12 ≤ 9); omega)
        | 10, hk, _ => exact absurd hk (by show ¬ (12 ≤ 10); omega)
        | 11, hk, _ => exact absurd hk (by show ¬ (12 ≤ 11); omega)
        | k + 13, _, hk2 => exact absurd hk2 (by show ¬ (k + 13 < 13); omega)
      · rintro a0 ⟨hz, g1, g3⟩
        refine StepsRI.cons ?_ (StepsRI.cons ?_ (StepsRI.cons ?_ (StepsRI.cons ?_ (StepsRI.cons ?_ (StepsRI.cons ?_ (StepsRI.cons ?_ (StepsRI.cons ?_ (StepsRI.cons ?_ (StepsRI.cons ?_ (StepsRI.cons ?_ (StepsRI.cons ?_ (StepsRI.nil))))))))))))
        · intro lQ b W hI hUN hED KQ hKQ
          exact opw_field 46 1 0 rfl _ ((hI.fr.same 1 (by decide)).trans g1) _ (by kernel_rfl) (hKQ.out _ _ (hI.put 0 33 rfl rfl (by rw [hz]; decide) rfl hUN rfl HBB (tl6_stb x ks ae n c ag n1 c1 ao cc l w.heap.size (wr.heap.size)) (Below.refl _ _) rfl))
        · intro lQ b W hI hUN hED KQ hKQ
          have f := hI.got 0 (of_decide_eq_true rfl) (edge hED 0 (by kernel_rfl)) rfl
          have hg := (hI.vot 12 (of_decide_eq_true rfl) (of_decide_eq_true rfl) rfl)
          have hc : W.cell? ⟨w.heap.size, 0, none⟩ = some (.int .i64 x.v) := (cell_of_row _ _ 0 _ _ (0, 0) hg).trans rfl
          exact opw_load1 2 33 rfl _ f _ (by simp [Instr.loadAt, go_sem, hc]) (hKQ.out _ _ (hI.put 1 34 rfl rfl (by rw [hz]; decide) rfl hUN rfl HBB (tl6_stb x ks ae n c ag n1 c1 ao cc l w.heap.size (wr.heap.size)) (Below.refl _ _) rfl))
        · intro lQ b W hI hUN hED KQ hKQ
          have f0 := hI.got 1 (of_decide_eq_true rfl) (edge hED 1 (by kernel_rfl)) rfl
          replace f0 : aT b 34 = .int .i64 x.v := f0
          refine opw_call 58 #[.tmp 34] _ _ _ rfl Tryz.func58 (by kernel_rfl) rfl #[.int .i64 x.v] (by simp [ev, f0]) ?_
          refine (l9Num_agg x.v W).mono ?_
          rintro e W2 ⟨q1, d1, rfl, ho, hb⟩
          exact ⟨_, rfl, hKQ.out _ _ (hI.put 2 35 rfl rfl (by rw [hz]; decide) rfl hUN rfl HBB (tl6_stb x ks ae n c ag n1 c1 ao cc l w.heap.size (wr.heap.size)) hb ⟨q1, d1, rfl, ho.mono (Nat.le_succ_of_le hI.bel.size)⟩)⟩
        · intro lQ b W hI hUN hED KQ hKQ
          exact opw_field 46 1 1 rfl _ ((hI.fr.same 1 (by decide)).trans g1) _ (by kernel_rfl) (hKQ.out _ _ (hI.put 3 36 rfl rfl (by rw [hz]; decide) rfl hUN rfl HBB (tl6_stb x ks ae n c ag n1 c1 ao cc l w.heap.size (wr.heap.size)) (Below.refl _ _) rfl))
        · intro lQ b W hI hUN hED KQ hKQ
          have f := hI.got 3 (of_decide_eq_true rfl) (edge hED 3 (by kernel_rfl)) rfl
          have hg := (hI.vot 12 (of_decide_eq_true rfl) (of_decide_eq_true rfl) rfl)
          have hc : W.cell? ⟨w.heap.size, 1, none⟩ = some (.int .i64 x.e) := (cell_of_row _ _ 1 _ _ (0, 0) hg).trans rfl
          exact opw_load1 2 36 rfl _ f _ (by simp [Instr.loadAt, go_sem, hc]) (hKQ.out _ _ (hI.put 4 37 rfl rfl (by rw [hz]; decide) rfl hUN rfl HBB (tl6_stb x ks ae n c ag n1 c1 ao cc l w.heap.size (wr.heap.size)) (Below.refl _ _) rfl))
        · intro lQ b W hI hUN hED KQ hKQ
          have f0 := hI.got 4 (of_decide_eq_true rfl) (edge hED 4 (by kernel_rfl)) rfl
          replace f0 : aT b 37 = .int .i64 x.e := f0
          refine opw_call 58 #[.tmp 37] _ _ _ rfl Tryz.func58 (by kernel_rfl) rfl #[.int .i64 x.e] (by simp [ev, f0]) ?_
          refine (l9Num_agg x.e W).mono ?_
          rintro e W2 ⟨q2, d2, rfl, ho, hb⟩
          exact ⟨_, rfl, hKQ.out _ _ (hI.put 5 38 rfl rfl (by rw [hz]; decide) rfl hUN rfl HBB (tl6_stb x ks ae n c ag n1 c1 ao cc l w.heap.size (wr.heap.size)) hb ⟨q2, d2, rfl, ho.mono (Nat.le_succ_of_le hI.bel.size)⟩)⟩
        · intro lQ b W hI hUN hED KQ hKQ
          exact opw_move 3 rfl (hKQ.out _ _ (hI.put 6 39 rfl rfl (by rw [hz]; decide) rfl hUN rfl HBB (tl6_stb x ks ae n c ag n1 c1 ao cc l w.heap.size (wr.heap.size)) (Below.refl _ _) ((hI.fr.same 3 (by decide)).trans g3)))
        · intro lQ b W hI hUN hED KQ hKQ
          have f0 := hI.got 6 (of_decide_eq_true rfl) (edge hED 6 (by kernel_rfl)) rfl
          replace f0 : aT b 39 = .slice ao n cc := f0
          refine opw_call 57 #[.tmp 39] _ _ _ rfl Tryz.func57 (by kernel_rfl) rfl #[.slice ao n cc] (by simp [ev, f0]) ?_
          refine (l9List_agg ao n cc W).mono ?_
          rintro e W2 ⟨rfl, hb⟩
          exact ⟨_, rfl, hKQ.out _ _ (hI.put 7 40 rfl rfl (by rw [hz]; decide) rfl hUN rfl HBB (tl6_stb x ks ae n c ag n1 c1 ao cc l w.heap.size (wr.heap.size)) hb rfl)⟩
        · intro lQ b W hI hUN hED KQ hKQ
          obtain ⟨q1, d1, f0, o0⟩ := hI.got 2 (of_decide_eq_true rfl) (edge hED 2 (by kernel_rfl)) rfl
          obtain ⟨q2, d2, f1, o1⟩ := hI.got 5 (of_decide_eq_true rfl) (edge hED 5 (by kernel_rfl)) rfl
          have f2 : aT b 40 = .agg #[.int .i64 0, .int .i64 17, .bool true, .slice none 0 0, .slice ao n cc] := hI.got 7 (of_decide_eq_true rfl) (edge hED 7 (by kernel_rfl)) rfl
          replace f0 : aT b 35 = .agg #[.int .i64 0, .int .i64 2, .bool false, .slice q1 (wsz x.v) d1, .slice none 0 0] := f0
          replace f1 : aT b 38 = .agg #[.int .i64 0, .int .i64 2, .bool false, .slice q2 (wsz x.e) d2, .slice none 0 0] := f1
          refine opw_buildSliceT _ 3 _ rfl #[(0, .agg #[.int .i64 0, .int .i64 2, .bool false, .slice q1 (wsz x.v) d1, .slice none 0 0]), (1, .agg #[.int .i64 0, .int .i64 2, .bool false, .slice q2 (wsz x.e) d2, .slice none 0 0]), (2, .agg #[.int .i64 0, .int .i64 17, .bool true, .slice none 0 0, .slice ao n cc])] (by simp [ev, f0, f1, f2]) (.slice (some ⟨W.heap.size, 0, none⟩) 3 3) (W.alloc (.cells #[.int .i64 0, .int .i64 2, .bool false, .slice q1 (wsz x.v) d1, .slice none 0 0, .int .i64 0, .int .i64 2, .bool false, .slice q2 (wsz x.e) d2, .slice none 0 0, .int .i64 0, .int .i64 17, .bool true, .slice none 0 0, .slice ao n cc] 117)) (by kernel_rfl) ?_
          exact hKQ.out _ _ (hI.put 8 41 rfl rfl (by rw [hz]; decide) rfl hUN rfl HBB (tl6_stb x ks ae n c ag n1 c1 ao cc l w.heap.size (wr.heap.size)) ((Below.refl _ _).alloc (Nat.le_refl _) _) ⟨W.heap.size, rfl, kidF_own3 o0 o1 (HLG.out.kept hI.bel) (by have := wsz_bd x.v; omega) (by have := wsz_bd x.e; omega)⟩)
        · intro lQ b W hI hUN hED KQ hKQ
          have f2 := hI.got 8 (of_decide_eq_true rfl) (edge hED 8 (by kernel_rfl)) rfl
          obtain ⟨gr, f2, o2_0⟩ := f2
          replace f2 : aT b 41 = .slice (some ⟨gr, 0, none⟩) 3 3 := f2
          refine opw_call 60 #[.const (.int .i64 1), .const (.int .i64 15), .tmp 41] _ _ _ rfl Tryz.func60 (by kernel_rfl) rfl #[.int .i64 1, .int .i64 15, .slice (some ⟨gr, 0, none⟩) 3 3] (by simp [ev, evc, f2]) ?_
          refine (l2BoxC_agg 1 15 (some ⟨gr, 0, none⟩) 3 3 W).mono ?_
          rintro e W2 ⟨rfl, hb⟩
          exact ⟨_, rfl, hKQ.out _ _ (hI.put 9 42 rfl rfl (by rw [hz]; decide) rfl hUN rfl HBB (tl6_stb x ks ae n c ag n1 c1 ao cc l w.heap.size (wr.heap.size)) hb ⟨gr, rfl, o2_0.kept hb⟩)⟩
        · intro lQ b W hI hUN hED KQ hKQ
          obtain ⟨gr, f0, o0⟩ := hI.got 9 (of_decide_eq_true rfl) (edge hED 9 (by kernel_rfl)) rfl
          replace f0 : aT b 42 = .agg #[.int .i64 1, .int .i64 15, .bool true, .slice none 0 0, .slice (some ⟨gr, 0, none⟩) 3 3] := f0
          refine opw_call 59 #[.tmp 42] _ _ _ rfl Tryz.func59 (by kernel_rfl) rfl #[.agg #[.int .i64 1, .int .i64 15, .bool true, .slice none 0 0, .slice (some ⟨gr, 0, none⟩) 3 3]] (by simp [ev, f0]) ?_
          refine (HBY.out gr W o0).mono ?_
          rintro r W2 ⟨a4, c4, rfl, ho, hb⟩
          exact ⟨_, rfl, hKQ.out _ _ (hI.put 10 43 rfl rfl (by rw [hz]; decide) rfl hUN rfl HBB (tl6_stb x ks ae n c ag n1 c1 ao cc l w.heap.size (wr.heap.size)) hb ⟨a4, c4, rfl, ho.mono hI.bel.size⟩)⟩
        · intro lQ b W hI hUN hED KQ hKQ
          have f := hI.got 10 (of_decide_eq_true rfl) (edge hED 10 (by kernel_rfl)) rfl
          exact opw_assign 43 rfl (hKQ.out _ _ (hI.put 11 2 rfl rfl (by rw [hz]; decide) rfl hUN rfl HBB (tl6_stb x ks ae n c ag n1 c1 ao cc l w.heap.size (wr.heap.size)) (Below.refl _ _) f))
      · intro b W hf hb F
        obtain ⟨a4, c4, e2, ho⟩ := F 11 (of_decide_eq_true rfl) rfl
        replace e2 : aT b 2 = _ := e2
        rw [hf.eq]
        simp only [puts, Act.put, List.setIfInBounds_toArray, List.set_cons_zero, List.set_cons_succ, e2]
        clear hf F e2
        generalize aT b = AT
        clear b
        have HO : Hid (Own w.heap.size W a4 l.length c4 l) := ho.mono HRS.out
        have hbW : Below w.heap.size w W := keepT HBX.out hb
        clear ho
        go_wp2
        go_ret
        exact ⟨a4, c4, rfl, HO.out, hbW⟩

end Go.Proofs.YtglpbgebcpijaaaGreat

