import Derived.Test.YtpnhhhhmonbajaaGreatMGa
import Derived.Test.YtpnhhhhmonbajaaGreatMRJ
import Derived.Test.YtpnhhhhmonbajaaGreatEM2
import Derived.Deep.AppendLies
set_option linter.unusedVariables false
namespace Go.Proofs.YtpnhhhhmonbajaaGreat
open Go.RowKit

theorem opw_storeX {P : Program} {Q : Exit → Act → World → Prop} {o : Oper} {a : Act} {w : World} {K : Act → World → Prop} (ty : TypeId) (x y : Nat) (ho : o.op = .store ty (.tmp x) (.tmp y)) (ad : Addr) (v : Value) (hx : aT a x = .pointer (some ad)) (hy : aT a y = v) (w' : World)
    (hr : (Instr.storeAt ty (.pointer (some ad)) v).run P w = .ok () w') (h : K (a.put o.dst undef) w') : o.wp P a w K Q := by
  have hx' : a.eval (.tmp x) = .pointer (some ad) := hx
  have hy' : a.eval (.tmp y) = v := hy
  unfold Oper.wp execOp
  simp only [ho, hx', hy', Sem.run_bind, hr, Result.andThen_ok, Sem.run_pure]
  exact h
theorem unX {b : Bool} (h : b = true → False) : b = false := by
  cases b with
  | false => rfl
  | true => exact (h rfl).elim
theorem cellsX4 {W : World} {g : Nat} {x y z u : Value} {t : TypeId} (h : W.heap[g]? = some (.cells #[x, y, z, u] t (0, 0))) : W.cell? ⟨g, 0, none⟩ = some x ∧ W.cell? ⟨g, 1, none⟩ = some y ∧ W.cell? ⟨g, 2, none⟩ = some z ∧ W.cell? ⟨g, 3, none⟩ = some u :=
  ⟨(cell_of_row W g 0 _ t (0, 0) h).trans rfl, (cell_of_row W g 1 _ t (0, 0) h).trans rfl, (cell_of_row W g 2 _ t (0, 0) h).trans rfl, (cell_of_row W g 3 _ t (0, 0) h).trans rfl⟩
theorem frozenX4 {W : World} {g : Nat} {cs : Array Value} {t : TypeId} (h : W.heap[g]? = some (.cells cs t (0, 0))) : W.frozen? ⟨g, 0, none⟩ = false ∧ W.frozen? ⟨g, 1, none⟩ = false ∧ W.frozen? ⟨g, 2, none⟩ = false ∧ W.frozen? ⟨g, 3, none⟩ = false :=
  ⟨frozen_of_row W _ 0 _ t h, frozen_of_row W _ 1 _ t h, frozen_of_row W _ 2 _ t h, frozen_of_row W _ 3 _ t h⟩
/-- The bytes and the tree that the two calls made. -/
def OwnBR (R n : Nat) (sg : List Int) (v : Value) (w : World) (U : Nat → Prop) : Prop := ∃ a2 c2, v = .slice a2 n c2 ∧ OwnBX U w a2 n c2 sg ∧ ∀ b, U b → R ≤ b ∧ b < w.heap.size
def OwnTR (R d nk : Nat) (ov : List ItT) (v : Value) (w : World) (V : Nat → Prop) : Prop := ∃ a3 c3, v = .slice a3 nk c3 ∧ OwnKidsX d V w a3 nk c3 ov ∧ ∀ b, V b → R ≤ b ∧ b < w.heap.size
theorem OwnBR.kept {R n : Nat} {sg : List Int} {v : Value} {w w' : World} {U : Nat → Prop} (h : OwnBR R n sg v w U) (hb : Below w.heap.size w w') : OwnBR R n sg v w' U := by
  obtain ⟨a2, c2, e, h1, h2⟩ := h
  exact ⟨a2, c2, e, h1.touch (P := fun _ => False) (fun _ _ h => h) (TouchX.of_below hb), fun b hb' => ⟨(h2 b hb').1, Nat.lt_of_lt_of_le (h2 b hb').2 hb.size⟩⟩
theorem OwnTR.kept {R d nk : Nat} {ov : List ItT} {v : Value} {w w' : World} {V : Nat → Prop} (h : OwnTR R d nk ov v w V) (hb : Below w.heap.size w w') : OwnTR R d nk ov v w' V := by
  obtain ⟨a2, c2, e, h1, h2⟩ := h
  exact ⟨a2, c2, e, h1.kept hb, fun b hb' => ⟨(h2 b hb').1, Nat.lt_of_lt_of_le (h2 b hb').2 hb.size⟩⟩
theorem OwnBR.touch {R n G : Nat} {sg : List Int} {v : Value} {w w' : World} {U : Nat → Prop} (h : OwnBR R n sg v w U) (hG : G < R) (ht : Touch G (G + 1) w w') : OwnBR R n sg v w' U := by
  obtain ⟨a2, c2, e, h1, h2⟩ := h
  exact ⟨a2, c2, e, h1.touch (fun b hb e => by have := h2 b hb; omega) ht.toX, fun b hb' => ⟨(h2 b hb').1, Nat.lt_of_lt_of_le (h2 b hb').2 ht.size⟩⟩
theorem OwnTR.touch {R d nk G : Nat} {ov : List ItT} {v : Value} {w w' : World} {V : Nat → Prop} (h : OwnTR R d nk ov v w V) (hG : G < R) (ht : Touch G (G + 1) w w') : OwnTR R d nk ov v w' V := by
  obtain ⟨a2, c2, e, h1, h2⟩ := h
  exact ⟨a2, c2, e, ownKids_movesX d _ _ _ _ _ _ _ _ h1 (fun b hb e => by have := h2 b hb; omega) ht.toX, fun b hb' => ⟨(h2 b hb').1, Nat.lt_of_lt_of_le (h2 b hb').2 ht.size⟩⟩

/-- What is known of the region's slots. -/
def cgS (x : ItT) (d : Nat) (a1 : Option Addr) (n c : Nat) (ak : Option Addr) (nk ck : Nat) (G R : Nat) : RSpec where
  m := 10
  n := 10
  slots := [3, 4, 5, 6, 7, 8, 9, 100007, 10, 100009]
  kills := [[], [], [], [], [], [], [], [], [], []]
  pres := [[], [], [1], [], [], [4], [], [], [], []]
  fact := fun k v w => match k with
    | 0 => v = .pointer (some ⟨G, 2, none⟩)
    | 1 => v = .slice a1 n c
    | 2 => ∃ U, OwnBR R n x.sg v w U
    | 3 => v = .pointer (some ⟨G, 3, none⟩)
    | 4 => v = .slice ak nk ck
    | 5 => ∃ V, OwnTR R d nk x.over v w V
    | 6 => v = .pointer (some ⟨G, 2, none⟩)
    | 7 => True
    | 8 => v = .pointer (some ⟨G, 3, none⟩)
    | _ => True
theorem cgS_stb (x : ItT) (d : Nat) (a1 : Option Addr) (n c : Nat) (ak : Option Addr) (nk ck : Nat) (G R : Nat) (k : Nat) (hk : k < 10) : StB ((cgS x d a1 n c ak nk ck G R).fact k) := by
  match k, hk with
  | 0, _ => exact fun _ _ _ h _ => h
  | 1, _ => exact fun _ _ _ h _ => h
  | 2, _ => exact fun _ _ _ ⟨U, h⟩ hb => ⟨U, h.kept hb⟩
  | 3, _ => exact fun _ _ _ h _ => h
  | 4, _ => exact fun _ _ _ h _ => h
  | 5, _ => exact fun _ _ _ ⟨U, h⟩ hb => ⟨U, h.kept hb⟩
  | 6, _ => exact fun _ _ _ h _ => h
  | 7, _ => exact fun _ _ _ h _ => h
  | 8, _ => exact fun _ _ _ h _ => h
  | 9, _ => exact fun _ _ _ h _ => h
  | k + 10, hk => omega
theorem cgS_st (x : ItT) (d : Nat) (a1 : Option Addr) (n c : Nat) (ak : Option Addr) (nk ck : Nat) (G R : Nat) (hG : G < R) {W W2 : World} (ht : Touch G (G + 1) W W2) (k : Nat) (hk : k < 10) (v : Value) (hf : (cgS x d a1 n c ak nk ck G R).fact k v W) : (cgS x d a1 n c ak nk ck G R).fact k v W2 := by
  match k, hk, hf with
  | 0, _, h => exact h
  | 1, _, h => exact h
  | 2, _, h => exact ⟨h.choose, h.choose_spec.touch hG ht⟩
  | 3, _, h => exact h
  | 4, _, h => exact h
  | 5, _, h => exact ⟨h.choose, h.choose_spec.touch hG ht⟩
  | 6, _, h => exact h
  | 7, _, h => exact h
  | 8, _, h => exact h
  | 9, _, h => exact h
  | k + 10, hk, _ => omega
/-- The two apart from one another, and the boxes. -/
structure CgJ (x : ItT) (d : Nat) (a1 : Option Addr) (n c : Nat) (ak : Option Addr) (nk ck : Nat) (G R : Nat) (l : Nat → Bool) (a : Act) (w : World) : Prop where
  two : l 2 = true → l 5 = true → ∃ U V, OwnBR R n x.sg (aT a 5) w U ∧ OwnTR R d nk x.over (aT a 8) w V ∧ ∀ b, U b → ¬ V b
  box : w.heap[G]? = some (.cells #[.int .u64 x.ky, .int .i64 x.at2, if l 7 then aT a 5 else .slice a1 n c, if l 9 then aT a 8 else .slice ak nk ck] 47 (0, 0))
  res : w.heap[G + 1]? = some (.cells #[.int .u64 0, .int .i64 0, .slice none 0 0, .slice none 0 0] 47 (0, 0))
  e7 : l 7 = true → l 2 = true
  e9 : l 9 = true → l 5 = true
theorem CgJ.put {x : ItT} {d : Nat} {a1 : Option Addr} {n c : Nat} {ak : Option Addr} {nk ck : Nat} {G R : Nat} {l : Nat → Bool} {a : Act} {w w' : World} (h : CgJ x d a1 n c ak nk ck G R l a w) (k t : Nat) (v : Value) (hk : k ≠ 2 ∧ k ≠ 5 ∧ k ≠ 7 ∧ k ≠ 9) (ht : t ≠ 5 ∧ t ≠ 8) (hb : Below w.heap.size w w') : CgJ x d a1 n c ak nk ck G R (upd l k) (a.put (some t) v) w' := by
  refine ⟨fun h2 h5 => ?_, ?_, below_kept h.res hb, fun e => ?_, fun e => ?_⟩
  · rw [upd_ne hk.1.symm] at h2
    rw [upd_ne hk.2.1.symm] at h5
    obtain ⟨U, V, x1, x2, x3⟩ := h.two h2 h5
    rw [aT_put_ne ht.1, aT_put_ne ht.2]
    exact ⟨U, V, x1.kept hb, x2.kept hb, x3⟩
  · rw [upd_ne hk.2.2.1.symm, upd_ne hk.2.2.2.symm, aT_put_ne ht.1, aT_put_ne ht.2]
    exact below_kept h.box hb
  · rw [upd_ne hk.2.2.1.symm] at e
    exact upd_mono (h.e7 e)
  · rw [upd_ne hk.2.2.2.symm] at e
    exact upd_mono (h.e9 e)

set_option maxRecDepth 10000 in
set_option maxHeartbeats 4000000 in
theorem cloneSigner_of (d : Nat) (EACH : ∀ (a : Option Addr) (n c : Nat) (xs : List ItT) (w : World), KidsT d w a n xs → wtST d xs ≤ 1048576 →
      Calls Tryz.prog 26 #[.slice a n c, .func (Fn.func 27) #[] #[]] w fun e w' => (∃ v, e = .returned v ∧ OwnTR w.heap.size d n xs v w' (fun b => w.heap.size ≤ b ∧ b < w'.heap.size)) ∧ Below w.heap.size w w')
    (x : ItT) (a1 : Option Addr) (n c : Nat) (ak : Option Addr) (nk ck : Nat) (w : World) (hr : Row w a1 n x.sg) (hc : a1 = none → c = 0) (hn : n ≤ 1048576) (hk : KidsT d w ak nk x.over) (hwt : wtST d x.over ≤ 1048576) :
    Calls Tryz.prog 27 #[itvT x a1 n c ak nk ck] w fun e w' => ∃ a2 c2 a3 c3 U V, e = .returned (itvT x a2 n c2 a3 nk c3) ∧ OwnBX U w' a2 n c2 x.sg ∧ OwnKidsX d V w' a3 nk c3 x.over ∧ (∀ b, U b → w.heap.size + 2 ≤ b ∧ b < w'.heap.size) ∧ (∀ b, V b → w.heap.size + 2 ≤ b ∧ b < w'.heap.size) ∧ (∀ b, U b → ¬ V b) ∧ Below w.heap.size w w' := by
  obtain ⟨w1, hw1⟩ : ∃ w1, w1 = (w.alloc (.cells #[.int .u64 x.ky, .int .i64 x.at2, .slice a1 n c, .slice ak nk ck] 47)).alloc (.cells #[.int .u64 0, .int .i64 0, .slice none 0 0, .slice none 0 0] 47) := ⟨_, rfl⟩
  have hbb : Below w.heap.size w w1 := by rw [hw1]; exact ((Below.refl _ _).alloc (Nat.le_refl _) _).alloc (by simp) _
  have HB1 : Hid (w1.heap[w.heap.size]? = some (.cells #[.int .u64 x.ky, .int .i64 x.at2, .slice a1 n c, .slice ak nk ck] 47 (0, 0)) ∧ w1.heap[w.heap.size + 1]? = some (.cells #[.int .u64 0, .int .i64 0, .slice none 0 0, .slice none 0 0] 47 (0, 0))) := by show _ ∧ _; rw [hw1]; exact two_blocksT w _ _
  have hs1 : w1.heap.size = w.heap.size + 2 := by rw [hw1]; simp
  have HRK : Hid (∀ W, Below w.heap.size w1 W → Row W a1 n x.sg ∧ KidsT d W ak nk x.over) := fun W hW => ⟨hr.kept (hbb.trans hW), hk.kept (hbb.trans hW)⟩
  have HW : Hid (_ = _) := hw1
  clear hw1 hr hk
  have HBB : w.heap.size ≤ w1.heap.size := by omega
  have hGR : w.heap.size < w1.heap.size := by omega
  unfold itvT
  go_enter Tryz.func27, Tryz.ntmps27
  go_upto_region 1 with fail
  rw [← HW.out]
  clear HW
  refine wp_region_gj (fun a0 l a w2 => RI (cgS x d a1 n c ak nk ck w.heap.size w1.heap.size) [3, 4, 5, 6, 7, 8, 9, 10] w.heap.size w1 a0 l a w2 ∧ CgJ x d a1 n c ak nk ck w.heap.size w1.heap.size l a w2 ∧ w1.heap.size ≤ w2.heap.size) (fun a0 => a0.tmps.size = 12 ∧ aT a0 1 = .pointer (some ⟨w.heap.size, 0, none⟩)) (by kernel_rfl) (by kernel_rfl) ⟨rfl, rfl⟩ ?_ ?_ ?_
  · intro a0 _ l hl0 hl1
    have h2 := hl0 2 (by decide)
    have h7 := hl0 7 (by decide)
    have h9 := hl0 9 (by decide)
    refine ⟨ri_start (Below.refl _ _).drew (fun k hl => ?_) hl1 rfl (fun k h1 h2 => absurd h1 (Nat.not_le.2 h2)), ⟨(fun e => by rw [h2] at e; cases e), ?_, HB1.out.2, (fun e => by rw [h7] at e; cases e), (fun e => by rw [h9] at e; cases e)⟩, Nat.le_refl _⟩
    · by_cases hk : k < 10
      · rw [hl0 k hk] at hl; cases hl
      · exact Nat.not_lt.1 hk
    · rw [h7, h9]
      exact HB1.out.1
  · rintro a0 ⟨hz, g1⟩
    refine StepsG.cons ?_ (StepsG.cons ?_ (StepsG.cons ?_ (StepsG.cons ?_ (StepsG.cons ?_ (StepsG.cons ?_ (StepsG.cons ?_ (StepsG.cons ?_ (StepsG.cons ?_ (StepsG.cons ?_ (StepsG.nil))))))))))
    · rintro lQ b W ⟨hI, hJ, hS⟩ hUN hED KQ hKQ
      exact opw_field 47 1 2 rfl _ ((hI.fr.same 1 (by decide)).trans g1) _ (by kernel_rfl) (hKQ.out _ _ ⟨hI.put 0 3 rfl rfl (by rw [hz]; decide) rfl hUN rfl HBB (cgS_stb x d a1 n c ak nk ck w.heap.size w1.heap.size) (Below.refl _ _) rfl, hJ.put 0 3 _ (by decide) (by decide) (Below.refl _ _), hS⟩)
    · rintro lQ b W ⟨hI, hJ, hS⟩ hUN hED KQ hKQ
      have f : aT b 3 = .pointer (some ⟨w.heap.size, 2, none⟩) := hI.got 0 (of_decide_eq_true rfl) (edge hED 0 (by kernel_rfl)) rfl
      have h7 : lQ 7 = false := unX (fun h => by
        have h1 := hI.cl 2 (of_decide_eq_true rfl) (hJ.e7 h) 1 (List.Mem.head _)
        rw [show lQ 1 = false from hUN] at h1
        cases h1)
      have hg := hJ.box
      rw [h7] at hg
      have hc : W.cell? ⟨w.heap.size, 2, none⟩ = some (.slice a1 n c) := (cell_of_row _ _ 2 _ _ (0, 0) hg).trans rfl
      exact opw_load1 22 3 rfl _ f _ (by simp [Instr.loadAt, go_sem, hc]) (hKQ.out _ _ ⟨hI.put 1 4 rfl rfl (by rw [hz]; decide) rfl hUN rfl HBB (cgS_stb x d a1 n c ak nk ck w.heap.size w1.heap.size) (Below.refl _ _) rfl, hJ.put 1 4 _ (by decide) (by decide) (Below.refl _ _), hS⟩)
    · rintro lQ b W ⟨hI, hJ, hS⟩ hUN hED KQ hKQ
      have f0 : aT b 4 = .slice a1 n c := hI.got 1 (of_decide_eq_true rfl) (edge hED 1 (by kernel_rfl)) rfl
      refine opw_call 25 #[.tmp 4] _ _ _ rfl Tryz.func25 (by kernel_rfl) rfl #[.slice a1 n c] (by simp [ev, f0]) ?_
      refine (clone_any a1 n c x.sg W (HRK.out W hI.bel).1 hc hn).mono ?_
      rintro e W2 ⟨a2, c2, rfl, ho, hb⟩
      have hbr : OwnBR w1.heap.size n x.sg (.slice a2 n c2) W2 (fun b => W.heap.size ≤ b ∧ b < W2.heap.size) := ⟨a2, c2, rfl, ⟨ho.mono (Nat.zero_le _), fun k hk => ho.row.lt k hk⟩, fun b hb => ⟨Nat.le_trans hS hb.1, hb.2⟩⟩
      have h7 : lQ 7 = false := unX (fun h => by
        have h1 := hJ.e7 h
        rw [show lQ 2 = false from hUN] at h1
        cases h1)
      refine ⟨_, rfl, hKQ.out _ _ ⟨hI.putq 2 5 (fun j hj => by rcases List.mem_singleton.1 hj with rfl; exact edge hED 1 (by kernel_rfl)) rfl (by rw [hz]; decide) rfl hUN rfl HBB (cgS_stb x d a1 n c ak nk ck w.heap.size w1.heap.size) hb ⟨_, hbr⟩, ⟨fun _ h5 => by
          rw [upd_ne (by decide)] at h5
          obtain ⟨V, hV⟩ := hI.got 5 (of_decide_eq_true rfl) h5 rfl
          obtain ⟨_, _, _, _, hVb⟩ := id hV
          rw [aT_put_eq (by rw [hI.fr.size, hz]; decide), aT_put_ne (by decide)]
          exact ⟨_, V, hbr, hV.kept hb, fun z hu hv => by have := (hVb z hv).2; have := hu.1; omega⟩, ?_, below_kept hJ.res hb, fun _ => upd_same _ _, fun h => upd_mono (hJ.e9 (by rw [upd_ne (by decide)] at h; exact h))⟩, Nat.le_trans hS hb.size⟩⟩
      have hx := below_kept hJ.box hb
      rw [h7] at hx
      rw [upd_ne (by decide), upd_ne (by decide), h7, aT_put_ne (show (5 : Nat) ≠ 8 by decide)]
      exact hx
    · rintro lQ b W ⟨hI, hJ, hS⟩ hUN hED KQ hKQ
      exact opw_field 47 1 3 rfl _ ((hI.fr.same 1 (by decide)).trans g1) _ (by kernel_rfl) (hKQ.out _ _ ⟨hI.put 3 6 rfl rfl (by rw [hz]; decide) rfl hUN rfl HBB (cgS_stb x d a1 n c ak nk ck w.heap.size w1.heap.size) (Below.refl _ _) rfl, hJ.put 3 6 _ (by decide) (by decide) (Below.refl _ _), hS⟩)
    · rintro lQ b W ⟨hI, hJ, hS⟩ hUN hED KQ hKQ
      have f : aT b 6 = .pointer (some ⟨w.heap.size, 3, none⟩) := hI.got 3 (of_decide_eq_true rfl) (edge hED 3 (by kernel_rfl)) rfl
      have h7 : lQ 9 = false := unX (fun h => by
        have h1 := hI.cl 5 (of_decide_eq_true rfl) (hJ.e9 h) 4 (List.Mem.head _)
        rw [show lQ 4 = false from hUN] at h1
        cases h1)
      have hg := hJ.box
      rw [h7] at hg
      have hc : W.cell? ⟨w.heap.size, 3, none⟩ = some (.slice ak nk ck) := (cell_of_row _ _ 3 _ _ (0, 0) hg).trans rfl
      exact opw_load1 30 6 rfl _ f _ (by simp [Instr.loadAt, go_sem, hc]) (hKQ.out _ _ ⟨hI.put 4 7 rfl rfl (by rw [hz]; decide) rfl hUN rfl HBB (cgS_stb x d a1 n c ak nk ck w.heap.size w1.heap.size) (Below.refl _ _) rfl, hJ.put 4 7 _ (by decide) (by decide) (Below.refl _ _), hS⟩)
    · rintro lQ b W ⟨hI, hJ, hS⟩ hUN hED KQ hKQ
      have f0 : aT b 7 = .slice ak nk ck := hI.got 4 (of_decide_eq_true rfl) (edge hED 4 (by kernel_rfl)) rfl
      refine opw_call 26 #[.tmp 7, .func 27] _ _ _ rfl Tryz.func26 (by kernel_rfl) rfl #[.slice ak nk ck, .func (Fn.func 27) #[] #[]] (by simp [ev, f0]; rfl) ?_
      refine (EACH ak nk ck x.over W (HRK.out W hI.bel).2 hwt).mono ?_
      rintro e W2 ⟨⟨v, rfl, ho⟩, hb⟩
      have hbr : OwnTR w1.heap.size d nk x.over v W2 (fun b => W.heap.size ≤ b ∧ b < W2.heap.size) := by
        obtain ⟨a3, c3, e3, h3, _⟩ := ho
        exact ⟨a3, c3, e3, h3, fun b hb => ⟨Nat.le_trans hS hb.1, hb.2⟩⟩
      have h7 : lQ 9 = false := unX (fun h => by
        have h1 := hJ.e9 h
        rw [show lQ 5 = false from hUN] at h1
        cases h1)
      refine ⟨_, rfl, hKQ.out _ _ ⟨hI.putq 5 8 (fun j hj => by rcases List.mem_singleton.1 hj with rfl; exact edge hED 4 (by kernel_rfl)) rfl (by rw [hz]; decide) rfl hUN rfl HBB (cgS_stb x d a1 n c ak nk ck w.heap.size w1.heap.size) hb ⟨_, hbr⟩, ⟨fun h2 _ => by
          rw [upd_ne (by decide)] at h2
          obtain ⟨U, hU⟩ := hI.got 2 (of_decide_eq_true rfl) h2 rfl
          obtain ⟨_, _, _, _, hUb⟩ := id hU
          rw [aT_put_eq (by rw [hI.fr.size, hz]; decide), aT_put_ne (by decide)]
          exact ⟨U, _, hU.kept hb, hbr, fun z hu hv => by have := (hUb z hu).2; have := hv.1; omega⟩, ?_, below_kept hJ.res hb, fun h => upd_mono (hJ.e7 (by rw [upd_ne (by decide)] at h; exact h)), fun _ => upd_same _ _⟩, Nat.le_trans hS hb.size⟩⟩
      have hx := below_kept hJ.box hb
      rw [h7] at hx
      rw [upd_ne (by decide), upd_ne (by decide), h7, aT_put_ne (show (8 : Nat) ≠ 5 by decide)]
      exact hx
    · rintro lQ b W ⟨hI, hJ, hS⟩ hUN hED KQ hKQ
      exact opw_field 47 1 2 rfl _ ((hI.fr.same 1 (by decide)).trans g1) _ (by kernel_rfl) (hKQ.out _ _ ⟨hI.put 6 9 rfl rfl (by rw [hz]; decide) rfl hUN rfl HBB (cgS_stb x d a1 n c ak nk ck w.heap.size w1.heap.size) (Below.refl _ _) rfl, hJ.put 6 9 _ (by decide) (by decide) (Below.refl _ _), hS⟩)
    · rintro lQ b W ⟨hI, hJ, hS⟩ hUN hED KQ hKQ
      have fp : aT b 9 = .pointer (some ⟨w.heap.size, 2, none⟩) := hI.got 6 (of_decide_eq_true rfl) (edge hED 6 (by kernel_rfl)) rfl
      have fu := hI.got 2 (of_decide_eq_true rfl) (edge hED 2 (by kernel_rfl)) rfl
      have hgb := hJ.box
      rw [show lQ 7 = false from hUN] at hgb
      have hcc : W.cell? ⟨w.heap.size, 2, none⟩ = some (.slice a1 n c) := (cell_of_row _ _ 2 _ _ (0, 0) hgb).trans rfl
      have hfz := frozen_of_row W _ 2 _ _ hgb
      obtain ⟨p, q, f⟩ : ∃ p q, aT b 5 = .slice p n q := by
        obtain ⟨_, p, q, e, _⟩ := fu
        exact ⟨p, q, e⟩
      refine opw_storeX 22 9 5 rfl ⟨w.heap.size, 2, none⟩ _ fp f (W.setCell ⟨w.heap.size, 2, none⟩ (.slice p n q)) (by simp [Instr.storeAt, go_sem, hcc, hfz]) ?_
      have ht : Touch w.heap.size (w.heap.size + 1) W (W.setCell ⟨w.heap.size, 2, none⟩ (.slice p n q)) := touch_setT _ _ _ _ (Nat.le_refl _) (Nat.lt_succ_self _)
      refine hKQ.out _ _ ⟨hI.store 7 (fun j hj => by cases hj) (hI.bel.trans (ht.below (Nat.le_refl _) (Nat.le_trans HBB hI.bel.size))) (fun k hk _ _ v hf => cgS_st x d a1 n c ak nk ck w.heap.size w1.heap.size hGR ht k hk v hf) trivial, ⟨fun h2 h5 => ?_, ?_, (ht.block _ (Array.getElem?_eq_some_iff.1 hJ.res).1 (by omega)).trans hJ.res, fun h => ?_, fun h => ?_⟩, Nat.le_trans hS ht.size⟩
      · rw [upd_ne (by decide)] at h2 h5
        obtain ⟨U, V, x1, x2, x3⟩ := hJ.two h2 h5
        exact ⟨U, V, x1.touch hGR ht, x2.touch hGR ht, x3⟩
      · refine (heap_setCell_same W _ 2 _ _ _ hgb).trans ?_
        rw [upd_same, upd_ne (by decide)]
        show some (Obj.cells #[.int .u64 x.ky, .int .i64 x.at2, .slice p n q, if lQ 9 then aT b 8 else .slice ak nk ck] _ _) = some (Obj.cells #[.int .u64 x.ky, .int .i64 x.at2, if true = true then aT (b.put none undef) 5 else .slice a1 n c, if lQ 9 = true then aT (b.put none undef) 8 else .slice ak nk ck] _ _)
        rw [if_pos rfl, show aT (b.put none undef) 5 = _ from f]
        rfl
      · exact upd_mono (edge hED 2 (by kernel_rfl))
      · exact upd_mono (hJ.e9 (by rw [upd_ne (by decide)] at h; exact h))
    · rintro lQ b W ⟨hI, hJ, hS⟩ hUN hED KQ hKQ
      exact opw_field 47 1 3 rfl _ ((hI.fr.same 1 (by decide)).trans g1) _ (by kernel_rfl) (hKQ.out _ _ ⟨hI.put 8 10 rfl rfl (by rw [hz]; decide) rfl hUN rfl HBB (cgS_stb x d a1 n c ak nk ck w.heap.size w1.heap.size) (Below.refl _ _) rfl, hJ.put 8 10 _ (by decide) (by decide) (Below.refl _ _), hS⟩)
    · rintro lQ b W ⟨hI, hJ, hS⟩ hUN hED KQ hKQ
      have fp : aT b 10 = .pointer (some ⟨w.heap.size, 3, none⟩) := hI.got 8 (of_decide_eq_true rfl) (edge hED 8 (by kernel_rfl)) rfl
      have fu := hI.got 5 (of_decide_eq_true rfl) (edge hED 5 (by kernel_rfl)) rfl
      have hgb := hJ.box
      rw [show lQ 9 = false from hUN] at hgb
      have hcc : W.cell? ⟨w.heap.size, 3, none⟩ = some (.slice ak nk ck) := (cell_of_row _ _ 3 _ _ (0, 0) hgb).trans rfl
      have hfz := frozen_of_row W _ 3 _ _ hgb
      obtain ⟨p, q, f⟩ : ∃ p q, aT b 8 = .slice p nk q := by
        obtain ⟨_, p, q, e, _⟩ := fu
        exact ⟨p, q, e⟩
      refine opw_storeX 30 10 8 rfl ⟨w.heap.size, 3, none⟩ _ fp f (W.setCell ⟨w.heap.size, 3, none⟩ (.slice p nk q)) (by simp [Instr.storeAt, go_sem, hcc, hfz]) ?_
      have ht : Touch w.heap.size (w.heap.size + 1) W (W.setCell ⟨w.heap.size, 3, none⟩ (.slice p nk q)) := touch_setT _ _ _ _ (Nat.le_refl _) (Nat.lt_succ_self _)
      refine hKQ.out _ _ ⟨hI.store 9 (fun j hj => by cases hj) (hI.bel.trans (ht.below (Nat.le_refl _) (Nat.le_trans HBB hI.bel.size))) (fun k hk _ _ v hf => cgS_st x d a1 n c ak nk ck w.heap.size w1.heap.size hGR ht k hk v hf) trivial, ⟨fun h2 h5 => ?_, ?_, (ht.block _ (Array.getElem?_eq_some_iff.1 hJ.res).1 (by omega)).trans hJ.res, fun h => ?_, fun h => ?_⟩, Nat.le_trans hS ht.size⟩
      · rw [upd_ne (by decide)] at h2 h5
        obtain ⟨U, V, x1, x2, x3⟩ := hJ.two h2 h5
        exact ⟨U, V, x1.touch hGR ht, x2.touch hGR ht, x3⟩
      · refine (heap_setCell_same W _ 3 _ _ _ hgb).trans ?_
        rw [upd_same, upd_ne (by decide)]
        show some (Obj.cells #[.int .u64 x.ky, .int .i64 x.at2, if lQ 7 then aT b 5 else .slice a1 n c, .slice p nk q] _ _) = some (Obj.cells #[.int .u64 x.ky, .int .i64 x.at2, if lQ 7 = true then aT (b.put none undef) 5 else .slice a1 n c, if true = true then aT (b.put none undef) 8 else .slice ak nk ck] _ _)
        rw [if_pos rfl, show aT (b.put none undef) 8 = _ from f]
        rfl
      · exact upd_mono (hJ.e7 (by rw [upd_ne (by decide)] at h; exact h))
      · exact upd_mono (edge hED 5 (by kernel_rfl))
  · rintro l b W ⟨hI, hJ, hS⟩ hall
    obtain ⟨U, V, ⟨a2, c2, e5, hU, bU⟩, ⟨a3, c3, e8, hV, bV⟩, hUV⟩ := hJ.two (hall 2) (hall 5)
    have hbx := hJ.box
    rw [hall 7, hall 9, if_pos rfl, if_pos rfl, e5, e8] at hbx
    have hrs := hJ.res
    have hbW := hI.bel
    rw [hI.fr.eq]
    simp only [puts, Act.put, List.setIfInBounds_toArray, List.set_cons_zero, List.set_cons_succ]
    generalize aT b = AT
    clear hI hJ hall HB1 HRK EACH e5 e8
    obtain ⟨x0, x1, x2, x3⟩ := cellsX4 hbx
    obtain ⟨y0, y1, y2, y3⟩ := cellsX4 hrs
    obtain ⟨f0, f1, f2, f3⟩ := frozenX4 hrs
    go_wp2
    try simp only [Exit.inBlock, Exit.then]
    have q1 := heap_setCell_same _ (w.heap.size + 1) 0 _ _ (.int .u64 x.ky) hrs
    have q2 := heap_setCell_same _ (w.heap.size + 1) 1 _ _ (.int .i64 x.at2) q1
    have q3 := heap_setCell_same _ (w.heap.size + 1) 2 _ _ (.slice a2 n c2) q2
    have q4 := heap_setCell_same _ (w.heap.size + 1) 3 _ _ (.slice a3 nk c3) q3
    have tt : Touch (w.heap.size + 1) (w.heap.size + 1 + 1) W ((((W.setCell ⟨w.heap.size + 1, 0, none⟩ (.int .u64 x.ky)).setCell ⟨w.heap.size + 1, 1, none⟩ (.int .i64 x.at2)).setCell ⟨w.heap.size + 1, 2, none⟩ (.slice a2 n c2)).setCell ⟨w.heap.size + 1, 3, none⟩ (.slice a3 nk c3)) :=
      (((touch_setT _ _ _ _ (by omega) (by omega)).trans (touch_setT _ _ _ _ (by omega) (by omega))).trans (touch_setT _ _ _ _ (by omega) (by omega))).trans (touch_setT _ _ _ _ (by omega) (by omega))
    refine bodyPost_ret (results_itemT rfl _ (w.heap.size + 1) rfl _ _ _ _ _ q4) rfl ⟨a2, c2, a3, c3, U, V, rfl, hU.touch (fun z hz' e => by have := bU z hz'; omega) tt.toX, ownKids_movesX d _ _ _ _ _ _ _ _ hV (fun z hz' e => by have := bV z hz'; omega) tt.toX, fun z hz' => ?_, fun z hz' => ?_, hUV, (hbb.trans hbW).trans (tt.below (by omega) (hbb.trans hbW).size)⟩
    · have := bU z hz'
      have := tt.size
      omega
    · have := bV z hz'
      have := tt.size
      omega

end Go.Proofs.YtpnhhhhmonbajaaGreat

set_option linter.unusedVariables false
namespace Go.Proofs.YtpnhhhhmonbajaaGreat
open Go.RowKit

theorem cellsX_new (w : World) (vs : List Value) (t : TypeId) : ∀ j u, vs[j]? = some u → (w.alloc (.cells vs.toArray t)).cell? ((⟨w.heap.size, 0, none⟩ : Addr).add j) = some u := by
  intro j u hj
  rw [Addr.add_lit, Nat.zero_add, cell_of_row _ w.heap.size j _ t (0, 0) (heap_alloc_new w _)]
  simpa using hj

def EachS (d : Nat) : Prop := ∀ (a : Option Addr) (n c : Nat) (xs : List ItT) (w : World), KidsT d w a n xs → wtST d xs ≤ 1048576 →
      Calls Tryz.prog 26 #[.slice a n c, .func (Fn.func 27) #[] #[]] w fun e w' => (∃ v, e = .returned v ∧ OwnTR w.heap.size d n xs v w' (fun b => w.heap.size ≤ b ∧ b < w'.heap.size)) ∧ Below w.heap.size w w'

set_option maxRecDepth 10000 in
set_option maxHeartbeats 4000000 in
theorem each_next (d : Nat) (ih : EachS d) : EachS (d + 1) := by
  intro a n c xs w hk hwt
  obtain ⟨i0, hi, hz0, hz1, hz2⟩ := info_parts Tryz.infoItem
  have HK : Hid (KidsT (d + 1) w a n xs) := hk
  have HLX : Hid (xs.length = n) := hk.1
  have HWT : Hid (n + wtPT d xs n ≤ 1048576) := by show _ ≤ _; rw [wtS_succT, hk.1] at hwt; exact hwt
  have hn : n ≤ 1048576 := by have := HWT.out; omega
  clear hk hwt
  go_enter Tryz.func26, Tryz.ntmps26
  go_wp2
  go_loopw [5, 10] (fun o i wr => ∃ (k : Nat) (ao : Option Addr) (cc : Nat), k ≤ n ∧ i = .int .i64 k ∧ o = .slice ao k cc ∧ Hid (OwnKidsX (d + 1) (fun b => w.heap.size ≤ b ∧ b < wr.heap.size) wr ao k cc (xs.take k)) ∧ Below w.heap.size w wr) (fun _ i _ => n - (intOf i).toNat)
  case atStart => exact ⟨0, none, 0, Nat.zero_le _, rfl, rfl, ownKidsX_none _ _ _, Below.refl _ _⟩
  case round =>
    obtain ⟨k, ao, cc, hk, rfl, rfl, HO, hbr⟩ := hrel
    have hws := hbr.size
    by_cases hlt : k < n
    · obtain ⟨b, off, rfl, hlb, ab1, nb1, cb1, ak1, nk1, ck1, c0, c1, c3, c4, hr1, hn1, hm1, hu1, hk1⟩ := HK.out.2.2 k hlt
      obtain ⟨y, hy⟩ : ∃ y, y = xs.getD k default := ⟨_, rfl⟩
      rw [← hy] at c0 c1 hr1 hu1 hk1
      have HXK : Hid (xs.take (k + 1) = xs.take k ++ [y]) := by
        show _ = _
        have hkl : k < xs.length := by rw [HLX.out]; exact hlt
        rw [List.take_add_one, hy]
        simp [hkl]
      have hnx := wtP_nextT d xs k (by rw [HLX.out]; exact hlt)
      have hle := wtP_leT d xs (k + 1)
      have hwy : nb1 + wtST d y.over ≤ 1048576 := by
        have h3 := HWT.out
        rw [HLX.out] at hle
        rw [← hy, hr1.len] at hnx
        omega
      have cc4 : ∀ j, wr.cell? ⟨b, j, none⟩ = w.cell? ⟨b, j, none⟩ := fun j => hbr.cell (p := ⟨b, j, none⟩) hlb
      rw [← cc4] at c0 c1 c3 c4
      have hkni : (k : Int) < (n : Int) := by omega
      have hbw : b < wr.heap.size := by omega
      have HR1 : Hid (Row wr ab1 nb1 y.sg) := hr1.kept hbr
      have HK1 : Hid (KidsT d wr ak1 nk1 y.over) := hk1.kept hbr
      have HUY : Hid (U64 y.ky) := hu1
      have hnl := hn1.1
      clear hy hr1 hk1 hu1 hn1 hnx hle cc4
      go_wp2_with fail
      have hbz : Below wr.heap.size wr (wr.alloc (.cells #[.int .u64 y.ky, .int .i64 y.at2, .slice ab1 nb1 cb1, .slice ak1 nk1 ck1] 47)) := (Below.refl _ _).alloc (Nat.le_refl _) _
      refine (cloneSigner_of d ih y ab1 nb1 cb1 ak1 nk1 ck1 _ (HR1.out.kept hbz) hnl (by omega) (HK1.out.kept hbz) (by omega)).mono ?_
      rintro e w2 ⟨a2, c2, a3, cc3, U, V, rfl, hU, hV, bU, bV, hUV, hb2⟩
      have hsb : (wr.alloc (.cells #[.int .u64 y.ky, .int .i64 y.at2, .slice ab1 nb1 cb1, .slice ak1 nk1 ck1] 47)).heap.size = wr.heap.size + 1 := by simp
      rw [hsb] at bU bV
      have hb2r : Below wr.heap.size wr w2 := hbz.trans (hb2.mono hbz.size)
      have B2 : Below w.heap.size w w2 := hbr.trans (hb2r.mono hws)
      have hw2 := hb2r.size
      have hal : Below w2.heap.size w2 (w2.alloc (.cells #[.int .u64 y.ky, .int .i64 y.at2, .slice a2 nb1 c2, .slice a3 nk1 cc3] 47)) := (Below.refl _ _).alloc (Nat.le_refl _) _
      have HB3 : Hid (Below w.heap.size w (w2.alloc (.cells #[.int .u64 y.ky, .int .i64 y.at2, .slice a2 nb1 c2, .slice a3 nk1 cc3] 47))) := B2.trans (hal.mono B2.size)
      have HQ3 : Hid (OwnKidsX (d + 1) (fun b => w.heap.size ≤ b ∧ b < wr.heap.size) (w2.alloc (.cells #[.int .u64 y.ky, .int .i64 y.at2, .slice a2 nb1 c2, .slice a3 nk1 cc3] 47)) ao k cc (xs.take k)) := (HO.out.kept hb2r).kept hal
      have HU3 : Hid (OwnBX U (w2.alloc (.cells #[.int .u64 y.ky, .int .i64 y.at2, .slice a2 nb1 c2, .slice a3 nk1 cc3] 47)) a2 nb1 c2 y.sg) := hU.touch (P := fun _ => False) (fun _ _ h => h) (TouchX.of_below hal)
      have HV3 : Hid (OwnKidsX d V (w2.alloc (.cells #[.int .u64 y.ky, .int .i64 y.at2, .slice a2 nb1 c2, .slice a3 nk1 cc3] 47)) a3 nk1 cc3 y.over) := hV.kept hal
      obtain ⟨vs, hrow⟩ := HQ3.out.2.2.1
      have HROW : Hid (_) := hrow
      have HS3 : Hid (∀ j, (Value.slice ao k cc).ownBlock = some j → w.heap.size ≤ j ∧ j < wr.heap.size) := HQ3.out.2.2.2.1
      have HAPP : Hid (∀ g7 c7 w7, w7.ownsRow 0 47 4 (.slice (some ⟨g7, 0, none⟩) (k + 1) c7) (k + 1) (vs ++ [.int .u64 y.ky, .int .i64 y.at2, .slice a2 nb1 c2, .slice a3 nk1 cc3]) → (w2.alloc (.cells #[.int .u64 y.ky, .int .i64 y.at2, .slice a2 nb1 c2, .slice a3 nk1 cc3] 47)).grownBy w7 (Value.slice ao k cc).ownBlock → ((Value.slice ao k cc).ownBlock = some g7 ∨ g7 = w2.heap.size + 1) → g7 < w7.heap.size → OwnKidsX (d + 1) (fun b => w.heap.size ≤ b ∧ b < w7.heap.size) w7 (some ⟨g7, 0, none⟩) (k + 1) c7 (xs.take (k + 1))) := by
        intro g7 c7 w7 hv7 hg7 hl7 hlt7
        have hs7 := hg7.size
        have hsz3 : (w2.alloc (.cells #[.int .u64 y.ky, .int .i64 y.at2, .slice a2 nb1 c2, .slice a3 nk1 cc3] 47)).heap.size = w2.heap.size + 1 := by simp
        rw [HXK.out]
        exact OwnKidsX.appended HQ3.out HU3.out HV3.out HUY.out (fun z h1 h2 => by have := bU z h1; have := h2.2; omega) (fun z h1 h2 => by have := bV z h1; have := h2.2; omega) hUV (fun z h1 => by have := h1.2; omega) (fun z h1 => by have := bU z h1; omega) (fun z h1 => by have := bV z h1; omega) HROW.out hv7 hg7 (by rw [hsz3]; exact hl7) (by omega) (fun z h1 => ⟨h1.1, by have := h1.2; omega⟩) (fun z h1 => by have := bU z h1; exact ⟨by omega, by omega⟩) (fun z h1 => by have := bV z h1; exact ⟨by omega, by omega⟩) ⟨by
          rcases hl7 with hl7 | hl7
          · exact (HS3.out g7 hl7).1
          · omega, hlt7⟩
      clear c0 c1 c3 c4 hrow HO HR1 HK1 hU hV hUV hb2 hb2r B2 hal hbz hsb bU bV
      unfold itvT
      go_wp2_with (at_builtin; refine wpList_append_lies _ rfl (.tmp 14) (.tmp 18) 30 rfl 0 47 i0 _ 4 64 Tryz.underlying30 hi hz0 hz1 hz2 rfl (by decide) _ k vs rfl HROW.out ⟨w2.heap.size, 0, none⟩ 1 1 [.int .u64 y.ky, .int .i64 y.at2, .slice a2 nb1 c2, .slice a3 nk1 cc3] rfl rfl (cellsX_new w2 _ _) (by intro u hu; simp only [List.mem_cons, List.not_mem_nil, or_false] at hu; rcases hu with rfl | rfl | rfl | rfl <;> rfl) (by decide) (by unfold maxLen; omega) (by omega) (Nat.zero_le _) (w2.heap.size + 1) (by simp) ?_; intro g7 c7 w7 hv7 hg7 hl7 hlt7; have hbq : Below w.heap.size w w7 := HB3.out.grown hg7 HB3.out.size (fun j hj => (HS3.out j hj).1); have hs7 := hg7.size; have HN : Hid (OwnKidsX (d + 1) (fun b => w.heap.size ≤ b ∧ b < w7.heap.size) w7 (some ⟨g7, 0, none⟩) (k + 1) c7 (xs.take (k + 1))) := (HAPP.out g7 c7 w7 hv7 hg7 hl7 hlt7); clear hv7 hg7 hl7 hs7)
      go_roundw
      case rel => exact ⟨k + 1, _, c7, by omega, by go_num, rfl, HN, hbq⟩
      case measure => simp [intOf]; omega
    · obtain rfl : k = n := by omega
      have HX : Hid (xs.take k = xs) := by show _ = _; rw [List.take_of_length_le (by rw [HLX.out]; exact Nat.le_refl _)]
      go_wp2
      go_ret
      refine ⟨⟨_, rfl, ao, cc, rfl, ?_, fun z hz => hz⟩, hbr⟩
      have := HO.out
      rw [HX.out] at this
      exact this

theorem each_all (d : Nat) : EachS d := by
  induction d with
  | zero => intro a n c xs w h; exact h.elim
  | succ d ih => exact each_next d ih

end Go.Proofs.YtpnhhhhmonbajaaGreat

set_option linter.unusedVariables false
namespace Go.Proofs.YtpnhhhhmonbajaaGreat
open Go.RowKit

def CopyS (d : Nat) : Prop := ∀ (a : Option Addr) (n c : Nat) (xs : List ItT) (w : World), KidsT d w a n xs → wtST d xs ≤ 1048576 →
      Calls Tryz.prog 41 #[.slice a n c] w fun e w' => (∃ v, e = .returned v ∧ OwnTR w.heap.size d n xs v w' (fun b => w.heap.size ≤ b ∧ b < w'.heap.size)) ∧ Below w.heap.size w w'

set_option maxRecDepth 10000 in
set_option maxHeartbeats 4000000 in
theorem copyS_next (d : Nat) (ih : CopyS d) : CopyS (d + 1) := by
  intro a n c xs w hk hwt
  obtain ⟨i0, hi, hz0, hz1, hz2⟩ := info_parts Tryz.infoItem
  obtain ⟨j0, ji, jz0, jz1, jz2⟩ := info_parts Tryz.info5
  have HK : Hid (KidsT (d + 1) w a n xs) := hk
  have HLX : Hid (xs.length = n) := hk.1
  have HWT : Hid (n + wtPT d xs n ≤ 1048576) := by show _ ≤ _; rw [wtS_succT, hk.1] at hwt; exact hwt
  have hn : n ≤ 1048576 := by have := HWT.out; omega
  clear hk hwt
  go_enter Tryz.func41, Tryz.ntmps41
  go_wp2
  go_loopw [3, 4] (fun o i wr => ∃ (k : Nat) (ao : Option Addr) (cc : Nat), k ≤ n ∧ i = .int .i64 k ∧ o = .slice ao k cc ∧ Hid (OwnKidsX (d + 1) (fun b => w.heap.size ≤ b ∧ b < wr.heap.size) wr ao k cc (xs.take k)) ∧ Below w.heap.size w wr) (fun _ i _ => n - (intOf i).toNat)
  case atStart => exact ⟨0, _, 0, Nat.zero_le _, rfl, rfl, ownKidsX_empty d w ⟨Nat.le_refl _, by simp⟩, (Below.refl _ _).alloc (Nat.le_refl _) _⟩
  case round =>
    obtain ⟨k, ao, cc, hk, rfl, rfl, HO, hbr⟩ := hrel
    have hws := hbr.size
    by_cases hlt : k < n
    · obtain ⟨b, off, rfl, hlb, ab1, nb1, cb1, ak1, nk1, ck1, c0, c1, c3, c4x, hr1, hn1, hm1, hu1, hk1⟩ := HK.out.2.2 k hlt
      obtain ⟨y, hy⟩ : ∃ y, y = xs.getD k default := ⟨_, rfl⟩
      rw [← hy] at c0 c1 hr1 hu1 hk1
      have HXK : Hid (xs.take (k + 1) = xs.take k ++ [y]) := by
        show _ = _
        have hkl : k < xs.length := by rw [HLX.out]; exact hlt
        rw [List.take_add_one, hy]
        simp [hkl]
      have hnx := wtP_nextT d xs k (by rw [HLX.out]; exact hlt)
      have hle := wtP_leT d xs (k + 1)
      have hwy : nb1 + wtST d y.over ≤ 1048576 := by
        have h3 := HWT.out
        rw [HLX.out] at hle
        rw [← hy, hr1.len] at hnx
        omega
      have cc4 : ∀ j, wr.cell? ⟨b, j, none⟩ = w.cell? ⟨b, j, none⟩ := fun j => hbr.cell (p := ⟨b, j, none⟩) hlb
      rw [← cc4] at c0 c1 c3 c4x
      have hkni : (k : Int) < (n : Int) := by omega
      have hbw : b < wr.heap.size := by omega
      have HK1 : Hid (KidsT d wr ak1 nk1 y.over) := hk1.kept hbr
      have HUY : Hid (U64 y.ky) := hu1
      have hnl := hn1.1
      obtain ⟨wy, hwy⟩ : ∃ wy, wy = wr.alloc (.cells #[.int .u64 y.ky, .int .i64 y.at2, .slice ab1 nb1 cb1, .slice ak1 nk1 ck1] 47) := ⟨_, rfl⟩
      have hby : Below wr.heap.size wr wy := by rw [hwy]; exact (Below.refl _ _).alloc (Nat.le_refl _) _
      have hyb : wy.heap[wr.heap.size]? = some (.cells #[.int .u64 y.ky, .int .i64 y.at2, .slice ab1 nb1 cb1, .slice ak1 nk1 ck1] 47 (0, 0)) := by rw [hwy]; exact heap_alloc_new _ _
      have hys : wy.heap.size = wr.heap.size + 1 := by rw [hwy]; simp
      have HRY : Hid (Row (wy.alloc (.cells #[] 5)) ab1 nb1 y.sg) := (((hr1.kept hbr).kept hby)).kept ((Below.refl _ _).alloc (Nat.le_refl _) _)
      have HWY : Hid (_ = _) := hwy
      have HE : Hid (Own wy.heap.size (wy.alloc (.cells #[] 5)) (some ⟨wr.heap.size + 1, 0, none⟩) 0 0 []) := by show Own _ _ _ _ _ _; rw [← hys]; exact own_zeroE _ _ _ rfl (Nat.le_refl _)
      have HYB : Hid (wy.heap[wr.heap.size]? = some (.cells #[.int .u64 y.ky, .int .i64 y.at2, .slice ab1 nb1 cb1, .slice ak1 nk1 ck1] 47 (0, 0))) := hyb
      have hbE : Below wy.heap.size wy (wy.alloc (.cells #[] 5)) := (Below.refl _ _).alloc (Nat.le_refl _) _
      have HBY : Hid (Below wr.heap.size wr wy) := hby
      obtain ⟨x0, x1, x2, x3⟩ := cellsX4 (below_kept hyb hbE)
      clear hy hr1 hk1 hu1 hn1 hnx hle cc4 hwy hyb hby
      go_upto_region 6 with fail
      rw [← HWY.out]
      clear HWY c0 c1 c3 c4x
      go_upto_region 7 with (at_builtin; go_loud ((refine wpList_append_row _ rfl _ _ 22 rfl wy.heap.size j0 Tryz.underlying22 ji jz0 jz1 jz2 _ _ _ rfl HE.out.row ab1 nb1 cb1 y.sg rfl HRY.out hnl (by omega) hbE.size ?_); intro v4 w4 hv4 hg4; obtain ⟨a4, c4, rfl, ho4⟩ := own_appended (xs := []) (ys := y.sg) hv4 HE.out.byte HRY.out.byte; have hb4 : Below wy.heap.size wy w4 := below_appended hbE hbE.size HE.out.row hg4; have HO4 : Hid (Own wy.heap.size w4 a4 nb1 c4 y.sg) := (by show Own _ _ _ _ _ _; simpa using ho4); have H4 : Hid (w4.heap[wr.heap.size]? = some (.cells #[.int .u64 y.ky, .int .i64 y.at2, .slice ab1 nb1 cb1, .slice ak1 nk1 ck1] 47 (0, 0))) := below_kept HYB.out hb4; clear hv4 hg4 ho4 x0 x1 x2 x3; obtain ⟨x0, x1, x2, x3⟩ := cellsX4 H4.out; obtain ⟨f0, f1, f2, f3⟩ := frozenX4 H4.out))
      obtain ⟨w5, hw5⟩ : ∃ w5, w5 = w4.setCell ⟨wr.heap.size, 2, none⟩ (.slice a4 nb1 c4) := ⟨_, rfl⟩
      have H5 : Hid (w5.heap[wr.heap.size]? = some (.cells #[.int .u64 y.ky, .int .i64 y.at2, .slice a4 nb1 c4, .slice ak1 nk1 ck1] 47 (0, 0))) := by show _ = _; rw [hw5]; exact heap_setCell_same w4 _ 2 _ _ _ H4.out
      have ht5 : Touch wr.heap.size (wr.heap.size + 1) w4 w5 := by rw [hw5]; exact touch_setT _ _ _ _ (Nat.le_refl _) (Nat.lt_succ_self _)
      have ho5 : Own wy.heap.size w5 a4 nb1 c4 y.sg := ⟨ownsRow_box HO4.out.row H4.out (by decide) ht5, HO4.out.byte⟩
      have hb4r : Below wr.heap.size wr w4 := HBY.out.trans (hb4.mono HBY.out.size)
      have hb5r : Below wr.heap.size wr w5 := hb4r.trans (ht5.below (Nat.le_refl _) hb4r.size)
      have hs5 := hb5r.size
      have HB5 : Hid (Below wr.heap.size wr w5) := hb5r
      have HU5 : Hid (OwnBX (fun z => wy.heap.size ≤ z ∧ z < w5.heap.size) w5 a4 nb1 c4 y.sg) := ⟨ho5.mono (Nat.zero_le _), fun z hz => ho5.row.lt z hz⟩
      have HW5 : Hid (_ = _) := hw5
      clear hw5 H4 HO4 HRY HE HBY HYB hbE hb4 hb4r ht5 ho5
      rw [← HW5.out]
      clear HW5 x0 x1 x2 x3 f0 f1 f2 f3
      obtain ⟨x0, x1, x2, x3⟩ := cellsX4 H5.out
      go_wp2_with fail
      refine (ih ak1 nk1 ck1 y.over w5 (HK1.out.kept hb5r) (by omega)).mono ?_
      rintro e w6 ⟨⟨v, rfl, a3, cc3, rfl, hV, bV0⟩, hb6⟩
      have h6 := below_kept H5.out hb6
      obtain ⟨w2, hw2e⟩ : ∃ w2, w2 = w6.setCell ⟨wr.heap.size, 3, none⟩ (.slice a3 nk1 cc3) := ⟨_, rfl⟩
      have H7 : Hid (w2.heap[wr.heap.size]? = some (.cells #[.int .u64 y.ky, .int .i64 y.at2, .slice a4 nb1 c4, .slice a3 nk1 cc3] 47 (0, 0))) := by show _ = _; rw [hw2e]; exact heap_setCell_same w6 _ 3 _ _ _ h6
      have ht7 : Touch wr.heap.size (wr.heap.size + 1) w6 w2 := by rw [hw2e]; exact touch_setT _ _ _ _ (Nat.le_refl _) (Nat.lt_succ_self _)
      have hs2 : w2.heap.size = w6.heap.size := by rw [hw2e]; simp
      have hs6 := hb6.size
      have hb6r : Below wr.heap.size wr w6 := HB5.out.trans (hb6.mono hs5)
      have hb2r : Below wr.heap.size wr w2 := hb6r.trans (ht7.below (Nat.le_refl _) hb6r.size)
      have hlt5 : wr.heap.size < w5.heap.size := (Array.getElem?_eq_some_iff.1 H5.out).1
      have hU7 : OwnBX (fun z => wy.heap.size ≤ z ∧ z < w5.heap.size) w2 a4 nb1 c4 y.sg := (HU5.out.touch (P := fun _ => False) (fun _ _ h => h) (TouchX.of_below hb6)).touch (fun z hz e => by have := hz.1; omega) ht7.toX
      have hV7 : OwnKidsX d (fun z => w5.heap.size ≤ z ∧ z < w6.heap.size) w2 a3 nk1 cc3 y.over := ownKids_movesX d _ _ _ _ _ _ _ _ hV (fun z hz e => by have := hz.1; omega) ht7.toX
      have bU : ∀ z, (wy.heap.size ≤ z ∧ z < w5.heap.size) → wr.heap.size + 1 ≤ z ∧ z < w2.heap.size := fun z hz => ⟨by omega, by omega⟩
      have bV : ∀ z, (w5.heap.size ≤ z ∧ z < w6.heap.size) → wr.heap.size + 1 ≤ z ∧ z < w2.heap.size := fun z hz => ⟨by omega, by omega⟩
      have hUV : ∀ z, (wy.heap.size ≤ z ∧ z < w5.heap.size) → ¬ (w5.heap.size ≤ z ∧ z < w6.heap.size) := fun z hz h2 => by omega
      obtain ⟨U, hUe⟩ : ∃ U : Nat → Prop, U = (fun z => wy.heap.size ≤ z ∧ z < w5.heap.size) := ⟨_, rfl⟩
      obtain ⟨V, hVe⟩ : ∃ V : Nat → Prop, V = (fun z => w5.heap.size ≤ z ∧ z < w6.heap.size) := ⟨_, rfl⟩
      replace bU : ∀ z, U z → wr.heap.size + 1 ≤ z ∧ z < w2.heap.size := by rw [hUe]; exact bU
      replace bV : ∀ z, V z → wr.heap.size + 1 ≤ z ∧ z < w2.heap.size := by rw [hVe]; exact bV
      replace hUV : ∀ z, U z → ¬ V z := by rw [hUe, hVe]; exact hUV
      replace hU7 : OwnBX U w2 a4 nb1 c4 y.sg := by rw [hUe]; exact hU7
      replace hV7 : OwnKidsX d V w2 a3 nk1 cc3 y.over := by rw [hVe]; exact hV7
      have B2 : Below w.heap.size w w2 := hbr.trans (hb2r.mono hws)
      have hw2 := hb2r.size
      have hal : Below w2.heap.size w2 (w2.alloc (.cells #[.int .u64 y.ky, .int .i64 y.at2, .slice a4 nb1 c4, .slice a3 nk1 cc3] 47)) := (Below.refl _ _).alloc (Nat.le_refl _) _
      have HB3 : Hid (Below w.heap.size w (w2.alloc (.cells #[.int .u64 y.ky, .int .i64 y.at2, .slice a4 nb1 c4, .slice a3 nk1 cc3] 47))) := B2.trans (hal.mono B2.size)
      have HQ3 : Hid (OwnKidsX (d + 1) (fun b => w.heap.size ≤ b ∧ b < wr.heap.size) (w2.alloc (.cells #[.int .u64 y.ky, .int .i64 y.at2, .slice a4 nb1 c4, .slice a3 nk1 cc3] 47)) ao k cc (xs.take k)) := (ownKids_movesX (d + 1) _ (fun _ => False) _ _ _ _ _ _ HO.out (fun _ _ h => h) (TouchX.of_below hb2r)).kept hal
      have HU3 : Hid (OwnBX U (w2.alloc (.cells #[.int .u64 y.ky, .int .i64 y.at2, .slice a4 nb1 c4, .slice a3 nk1 cc3] 47)) a4 nb1 c4 y.sg) := hU7.touch (P := fun _ => False) (fun _ _ h => h) (TouchX.of_below hal)
      have HV3 : Hid (OwnKidsX d V (w2.alloc (.cells #[.int .u64 y.ky, .int .i64 y.at2, .slice a4 nb1 c4, .slice a3 nk1 cc3] 47)) a3 nk1 cc3 y.over) := hV7.kept hal
      obtain ⟨vs, hrow⟩ := HQ3.out.2.2.1
      have HROW : Hid (_) := hrow
      have HS3 : Hid (∀ j, (Value.slice ao k cc).ownBlock = some j → w.heap.size ≤ j ∧ j < wr.heap.size) := HQ3.out.2.2.2.1
      have HAPP : Hid (∀ g7 c7 w7, w7.ownsRow 0 47 4 (.slice (some ⟨g7, 0, none⟩) (k + 1) c7) (k + 1) (vs ++ [.int .u64 y.ky, .int .i64 y.at2, .slice a4 nb1 c4, .slice a3 nk1 cc3]) → (w2.alloc (.cells #[.int .u64 y.ky, .int .i64 y.at2, .slice a4 nb1 c4, .slice a3 nk1 cc3] 47)).grownBy w7 (Value.slice ao k cc).ownBlock → ((Value.slice ao k cc).ownBlock = some g7 ∨ g7 = w2.heap.size + 1) → g7 < w7.heap.size → OwnKidsX (d + 1) (fun b => w.heap.size ≤ b ∧ b < w7.heap.size) w7 (some ⟨g7, 0, none⟩) (k + 1) c7 (xs.take (k + 1))) := by
        intro g7 c7 w7 hv7 hg7 hl7 hlt7
        have hs7 := hg7.size
        have hsz3 : (w2.alloc (.cells #[.int .u64 y.ky, .int .i64 y.at2, .slice a4 nb1 c4, .slice a3 nk1 cc3] 47)).heap.size = w2.heap.size + 1 := by simp
        rw [HXK.out]
        exact OwnKidsX.appended HQ3.out HU3.out HV3.out HUY.out (fun z h1 h2 => by have := bU z h1; have := h2.2; omega) (fun z h1 h2 => by have := bV z h1; have := h2.2; omega) hUV (fun z h1 => by have := h1.2; omega) (fun z h1 => by have := bU z h1; omega) (fun z h1 => by have := bV z h1; omega) HROW.out hv7 hg7 (by rw [hsz3]; exact hl7) (by omega) (fun z h1 => ⟨h1.1, by have := h1.2; omega⟩) (fun z h1 => by have := bU z h1; exact ⟨by omega, by omega⟩) (fun z h1 => by have := bV z h1; exact ⟨by omega, by omega⟩) ⟨by
          rcases hl7 with hl7 | hl7
          · exact (HS3.out g7 hl7).1
          · omega, hlt7⟩
      have HW7 : Hid (_ = _) := hw2e
      clear x0 x1 x2 x3
      obtain ⟨x0, x1, x2, x3⟩ := cellsX4 h6
      obtain ⟨f0, f1, f2, f3⟩ := frozenX4 h6
      clear hrow HO HK1 hU7 hV7 hV hUV hb2r B2 hal bU bV bV0 hw2e h6 ht7 hb6r hb6 HB5 HU5 H5 hUe hVe hs2
      go_upto_region 8 with fail
      rw [← HW7.out]
      clear HW7 x0 x1 x2 x3 f0 f1 f2 f3
      obtain ⟨x0, x1, x2, x3⟩ := cellsX4 H7.out
      go_wp2_with (at_builtin; refine wpList_append_lies _ rfl (.tmp 26) (.tmp 28) 30 rfl 0 47 i0 _ 4 64 Tryz.underlying30 hi hz0 hz1 hz2 rfl (by decide) _ k vs rfl HROW.out ⟨w2.heap.size, 0, none⟩ 1 1 [.int .u64 y.ky, .int .i64 y.at2, .slice a4 nb1 c4, .slice a3 nk1 cc3] rfl rfl (cellsX_new w2 _ _) (by intro u hu; simp only [List.mem_cons, List.not_mem_nil, or_false] at hu; rcases hu with rfl | rfl | rfl | rfl <;> rfl) (by decide) (by unfold maxLen; omega) (by omega) (Nat.zero_le _) (w2.heap.size + 1) (by simp) ?_; intro g7 c7 w7 hv7 hg7 hl7 hlt7; have hbq : Below w.heap.size w w7 := HB3.out.grown hg7 HB3.out.size (fun j hj => (HS3.out j hj).1); have hs7 := hg7.size; have HN : Hid (OwnKidsX (d + 1) (fun b => w.heap.size ≤ b ∧ b < w7.heap.size) w7 (some ⟨g7, 0, none⟩) (k + 1) c7 (xs.take (k + 1))) := (HAPP.out g7 c7 w7 hv7 hg7 hl7 hlt7); clear hv7 hg7 hl7 hs7)
      go_roundw
      case rel => exact ⟨k + 1, _, c7, by omega, by go_num, rfl, HN, hbq⟩
      case measure => simp [intOf]; omega
    · obtain rfl : k = n := by omega
      have HX : Hid (xs.take k = xs) := by show _ = _; rw [List.take_of_length_le (by rw [HLX.out]; exact Nat.le_refl _)]
      go_wp2
      go_ret
      refine ⟨⟨_, rfl, ao, cc, rfl, ?_, fun z hz => hz⟩, hbr⟩
      have := HO.out
      rw [HX.out] at this
      exact this

theorem copyS_all (d : Nat) : CopyS d := by
  induction d with
  | zero => intro a n c xs w h; exact h.elim
  | succ d ih => exact copyS_next d ih

end Go.Proofs.YtpnhhhhmonbajaaGreat

