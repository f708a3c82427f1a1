import Derived.Test.YtbfjkmlmnhphoaaDoorRK
import Derived.Test.YtbfjkmlmnhphoaaDoorTA4
import Derived.Test.YtbfjkmlmnhphoaaDoorTA5
set_option linter.unusedVariables false
namespace Go.Proofs.YtbfjkmlmnhphoaaDoor
open Go.RowKit

theorem opw_store1 {P : Program} {Q : Exit → Act → World → Prop} {o : Oper} {a : Act} {w : World} {K : Act → World → Prop} (ty : TypeId) (x y : Nat) (ho : o.op = .store ty (.tmp x) (.tmp y)) (ad : Addr) (v : Value) (hx : aT a x = .pointer (some ad)) (hy : aT a y = v) (w' : World)
    (hr : (Instr.storeAt ty (.pointer (some ad)) v).run P w = .ok () w') (h : K (a.put o.dst undef) w') : o.wp P a w K Q := by
  have hx' : a.eval (.tmp x) = .pointer (some ad) := hx
  have hy' : a.eval (.tmp y) = v := hy
  unfold Oper.wp execOp
  simp only [ho, hx', hy', Sem.run_bind, hr, Result.andThen_ok, Sem.run_pure]
  exact h
theorem evf (a : Act) (n : Nat) : a.eval (.func n) = .func (Fn.func n) #[] #[] := rfl
theorem RI.storel {S : RSpec} {D : List Nat} {B : Nat} {w0 : World} {a0 : Act} {l : Nat → Bool} {a : Act} {w : World} (h : RI S D B w0 a0 l a w) (i : Nat) {w' : World} (hpre : ∀ j ∈ S.pre i, l j = true)
    (hb : Below B w0 w') (hst : ∀ k, k < S.n → k ≠ i → l k = true → (∀ j ∈ S.kill k, l j = false) → i ∉ S.kill k → ∀ v, S.fact k v w → S.fact k v w') (hf : S.fact i (aT a (S.slot i)) w') : RI S D B w0 a0 (upd l i) (a.put none undef) w' := by
  refine ⟨h.fr, hb, fun k hk => upd_mono (h.vt k hk), fun k hk hl j hj => ?_, fun k hk hl hkill => ?_⟩
  · by_cases e : k = i
    · subst e
      exact upd_mono (hpre j hj)
    · rw [upd_ne e] at hl
      exact upd_mono (h.cl k hk hl j hj)
  · by_cases e : k = i
    · subst e
      exact hf
    · rw [upd_ne e] at hl
      refine hst k hk e hl (fun j hj => of_upd (hkill j hj)) (fun hm => ?_) _ (h.fact k hk hl (fun j hj => of_upd (hkill j hj)))
      have := hkill i hm
      rw [upd_same] at this
      cases this

end Go.Proofs.YtbfjkmlmnhphoaaDoor

set_option linter.unusedVariables false
namespace Go.Proofs.YtbfjkmlmnhphoaaDoor
open Go.RowKit

/-- What is known of a region (RJ). -/
def ls8 (a : Option Addr) (n c : Nat) (xs : List CP) (ai : Option Addr) (ni ci : Nat) (is : List PT) (ser now : Int) (G B : Nat) : RSpec where
  m := 9
  n := 10
  slots := [24, 25, 26, 27, 28, 29, 30, 10, 10, 100009]
  kills := [[], [6], [], [6], [], [], [], [8], [], []]
  pres := [[], [], [], [], [], [], [], [], [7, 6], []]
  fact := fun k v w => match k with
    | 0 => v = .slice a n c
    | 1 => ∃ a1, v = .slice a1 n n ∧ Cls w a1 n xs
    | 2 => v = .agg #[.slice ai ni ci]
    | 3 => ∃ a2, v = .agg #[.slice a2 ni ni] ∧ Pts w a2 ni is
    | 4 => v = .int .i64 ser
    | 5 => v = .int .i64 now
    | 6 => v = .agg #[.int .i64 (stdV xs is ser now).1, .int .i64 (stdV xs is ser now).2.1, .int .i64 (stdV xs is ser now).2.2]
    | 7 => ∃ gb7, v = .pointer (some ⟨gb7, 0, none⟩) ∧ w.heap[gb7]? = some (.cells #[.int .i64 0, .int .i64 0, .int .i64 0] 48 (0, 0)) ∧ B ≤ gb7
    | 8 => ∃ gs8, v = .pointer (some ⟨gs8, 0, none⟩) ∧ w.heap[gs8]? = some (.cells #[.int .i64 (stdV xs is ser now).1, .int .i64 (stdV xs is ser now).2.1, .int .i64 (stdV xs is ser now).2.2] 48 (0, 0)) ∧ B ≤ gs8
    | _ => w.heap[G]? = some (.cells #[.slice ai ni ci] 24 (0, 0))
set_option linter.unusedVariables false in
theorem ls8_stb (a : Option Addr) (n c : Nat) (xs : List CP) (ai : Option Addr) (ni ci : Nat) (is : List PT) (ser now : Int) (G B : Nat) (k : Nat) (hk : k < 10) : StB ((ls8 a n c xs ai ni ci is ser now G (B)).fact k) := by
  match k, hk with
  | 0, _ => exact fun _ _ _ h _ => h
  | 1, _ => exact fun _ _ _ ⟨a1, hv, q_0⟩ hb => ⟨a1, hv, q_0.kept hb⟩
  | 2, _ => exact fun _ _ _ h _ => h
  | 3, _ => exact fun _ _ _ ⟨a2, hv, q_0⟩ hb => ⟨a2, hv, q_0.kept hb⟩
  | 4, _ => exact fun _ _ _ h _ => h
  | 5, _ => exact fun _ _ _ h _ => h
  | 6, _ => exact fun _ _ _ h _ => h
  | 7, _ => exact fun _ _ _ ⟨gb7, hv, q_0, q_1⟩ hb => ⟨gb7, hv, below_kept q_0 hb, q_1⟩
  | 8, _ => exact fun _ _ _ ⟨gs8, hv, q_0, q_1⟩ hb => ⟨gs8, hv, below_kept q_0 hb, q_1⟩
  | 9, _ => exact fun _ _ _ q_0 hb => below_kept q_0 hb
  | k + 10, hk => omega
set_option linter.unusedVariables false in
theorem ls8_st8 (a : Option Addr) (n c : Nat) (xs : List CP) (ai : Option Addr) (ni ci : Nat) (is : List PT) (ser now : Int) (G B : Nat) {W W2 : World} {g : Nat} {cs : Array Value} {fr : Nat × Nat} (hg : W.heap[g]? = some (.cells cs 48 fr)) (ht : Touch (g) (g + 1) W W2) (hge : B ≤ g) {lq : Nat → Bool} (hcl : ∀ k, k < 10 → lq k = true → ∀ j ∈ (ls8 a n c xs ai ni ci is ser now G (B)).pre k, lq j = true) (hun : lq 8 = false) (hpr : ∀ j ∈ (ls8 a n c xs ai ni ci is ser now G (B)).pre 8, lq j = true) (k : Nat) (hk : k < 10) (hne : k ≠ 8) (hl : lq k = true) (hks : ∀ j ∈ (ls8 a n c xs ai ni ci is ser now G (B)).kill k, lq j = false) (hkill : 8 ∉ (ls8 a n c xs ai ni ci is ser now G (B)).kill k) (v : Value) (hfact : (ls8 a n c xs ai ni ci is ser now G (B)).fact k v W) : (ls8 a n c xs ai ni ci is ser now G (B)).fact k v W2 := by
  match k, hk, hne, hl, hks, hkill, hfact with
  | 0, _, _, _, _, _, hq => exact hq
  | 1, _, _, _, hks, _, _ => exact absurd (hpr 6 (List.Mem.tail _ (List.Mem.head _))) (by rw [hks 6 (List.Mem.head _)]; decide)
  | 2, _, _, _, _, _, hq => exact hq
  | 3, _, _, _, hks, _, _ => exact absurd (hpr 6 (List.Mem.tail _ (List.Mem.head _))) (by rw [hks 6 (List.Mem.head _)]; decide)
  | 4, _, _, _, _, _, hq => exact hq
  | 5, _, _, _, _, _, hq => exact hq
  | 6, _, _, _, _, _, hq => exact hq
  | 7, _, _, _, _, hkill, _ => exact absurd (List.Mem.head _) hkill
  | 8, _, hne, _, _, _, _ => exact absurd rfl hne
  | 9, _, _, _, _, _, q_0 => exact box_box q_0 hg (by decide) ht
  | k + 10, hk, _, _, _, _, _ => omega

set_option maxRecDepth 10000 in
set_option maxHeartbeats 4000000 in
theorem lawStanding_walk (a : Option Addr) (n c : Nat) (xs : List CP) (ai : Option Addr) (ni ci : Nat) (is : List PT) (ser now : Int) (w : World) (htab : Lib.TabIs Tryd.prog w "internal/strconv.uint64pow10" .u64 Lib.pow10Tab) (h : Cls w a n xs) (hsb : ∀ k, k < n → -9223372036854775808 ≤ (xs.getD k default).scope ∧ (xs.getD k default).scope ≤ 9223372036854775807) (hi : Pts w ai ni is) :
    Calls Tryd.prog 6 #[.slice a n c, nmv ai ni ci, .int .i64 ser, .int .i64 now] w fun e w' => e = .returned (.bool true) ∧ Below w.heap.size w w' := by
  have HK : Hid (Cls w a n xs) := h
  have HI : Hid (Pts w ai ni is) := hi
  have HSB : Hid (∀ k, k < n → -9223372036854775808 ≤ (xs.getD k default).scope ∧ (xs.getD k default).scope ≤ 9223372036854775807) := hsb
  have HTB : Hid (∀ W, Below w.heap.size w W → Lib.TabIs Tryd.prog W "internal/strconv.uint64pow10" .u64 Lib.pow10Tab) := fun W hW => Lib.tabBelow_of_tabIs htab W hW
  have hbl : Below w.heap.size w (w.alloc (.cells #[.slice ai ni ci] 24)) := (Below.refl _ _).alloc (Nat.le_refl _) _
  have N0 : Hid ((w.alloc (.cells #[.slice ai ni ci] 24)).heap[w.heap.size]? = some (.cells #[.slice ai ni ci] 24 (0, 0))) := heap_alloc_new w _
  have l0 : w.heap.size < (w.alloc (.cells #[.slice ai ni ci] 24)).heap.size := (Array.getElem?_eq_some_iff.1 N0.out).1
  have SZ := szCrlS_any a n c xs 1048576 _ (h.kept hbl) (by decide) (by decide)
  clear h hi hsb htab
  unfold nmv
  go_enter Tryd.func6, Tryd.ntmps6
  go_wp2_with fail
  refine SZ.mono ?_
  rintro e w1 ⟨r, rfl, hr, hb1⟩
  have B1 : Hid (Below w.heap.size w w1) := hbl.trans (hb1.mono hbl.size)
  have N1 : Hid (w1.heap[w.heap.size]? = some (.cells #[.slice ai ni ci] 24 (0, 0))) := (hb1.block _ l0).trans N0.out
  have l1 : w.heap.size < w1.heap.size := (Array.getElem?_eq_some_iff.1 N1.out).1
  clear hb1 hbl N0 l0 SZ
  by_cases hneg : r < 0
  · clear hr
    go_wp2
    go_ret
    exact ⟨rfl, B1.out⟩
  have hr0 : 0 ≤ r ∧ r ≤ 1048576 := by omega
  have HR : Hid (n ≤ 1048576 ∧ ∀ k, k < n → ClOk (xs.getD k default)) := by rcases hr with h | h; exact absurd h hneg; exact h.2.2
  have HZ : Hid (∀ k, k < n → ClOk (xs.getD k default)) := HR.out.2
  have q0 : w1.cell? ⟨w.heap.size, 0, none⟩ = some (.slice ai ni ci) := (cell_of_row _ _ 0 _ 24 (0, 0) N1.out).trans rfl
  clear hr
  go_wp2_with fail
  refine (szName_any ai ni ci is r _ (HI.out.kept B1.out) hr0.1 hr0.2).mono ?_
  rintro e w2 ⟨r2, rfl, hr2, hb2⟩
  have B2 : Hid (Below w.heap.size w w2) := B1.out.trans (hb2.mono B1.out.size)
  have N2 : Hid (w2.heap[w.heap.size]? = some (.cells #[.slice ai ni ci] 24 (0, 0))) := (hb2.block _ l1).trans N1.out
  have l2 : w.heap.size < w2.heap.size := (Array.getElem?_eq_some_iff.1 N2.out).1
  clear hb2 B1 N1 l1 q0
  by_cases hneg2 : r2 < 0
  · clear hr2
    go_wp2
    go_ret
    exact ⟨rfl, B2.out⟩
  have HR2 : Hid (ni ≤ 1048576 ∧ ∀ k, k < ni → (is.getD k default).val.size ≤ 1048576) := by rcases hr2 with h | h; exact absurd h hneg2; exact h.2.2
  clear hr2
  have HTO : Hid (∀ W, Below w.heap.size w W → Calls Tryd.prog 21 #[.slice a n c] W fun e w' => ∃ a1, e = .returned (.slice a1 n n) ∧ Cls w' a1 n xs ∧ Below W.heap.size W w') := fun W hW => (toCrlS_k a n c xs W (HK.out.kept hW) HR.out.1 HR.out.2).mono fun e w' ⟨a1, h1, h2, h3⟩ => ⟨a1, h1, h2.now, h3⟩
  have HTM : Hid (∀ W, Below w.heap.size w W → Calls Tryd.prog 22 #[.agg #[.slice ai ni ci]] W fun e w' => ∃ a1, e = .returned (.agg #[.slice a1 ni ni]) ∧ Pts w' a1 ni is ∧ Below W.heap.size W w') := fun W hW => toName_any ai ni ci is W (HI.out.kept hW) HR2.out.1
  have HTC : Hid (∀ W, Below w2.heap.size w2 W → Calls Tryd.prog 21 #[.slice a n c] W fun e w' => ∃ a1, e = .returned (.slice a1 n n) ∧ Cls w' a1 n xs ∧ Below W.heap.size W w') := fun W hW => HTO.out W (B2.out.trans (hW.mono B2.out.size))
  have HTN : Hid (∀ W, Below w2.heap.size w2 W → Calls Tryd.prog 22 #[.agg #[.slice ai ni ci]] W fun e w' => ∃ a1, e = .returned (.agg #[.slice a1 ni ni]) ∧ Pts w' a1 ni is ∧ Below W.heap.size W w') := fun W hW => HTM.out W (B2.out.trans (hW.mono B2.out.size))
  have HSP : Hid (∀ W a1 a2, Cls W a1 n xs → Pts W a2 ni is → Calls Tryd.prog 20 #[.slice a1 n n, .agg #[.slice a2 ni ni], .int .i64 ser, .int .i64 now] W fun e w' => e = .returned (.agg #[.int .i64 (stdV xs is ser now).1, .int .i64 (stdV xs is ser now).2.1, .int .i64 (stdV xs is ser now).2.2]) ∧ Below W.heap.size W w') := fun W a1 a2 h1 h2 => specStanding_any a1 n n xs a2 ni ni is ser now W h1 HR.out.2 h2 HR2.out.2
  have HIM : Hid (∀ W a1 a2, Below w.heap.size w W → Cls W a1 n xs → Pts W a2 ni is → Calls Tryd.prog 23 #[.slice a1 n n, .agg #[.slice a2 ni ni], .int .i64 ser, .int .i64 now] W fun e w' => e = .returned (.agg #[.int .i64 (stdV xs is ser now).1, .int .i64 (stdV xs is ser now).2.1, .int .i64 (stdV xs is ser now).2.2]) ∧ Below W.heap.size W w') := fun W a1 a2 hW h1 h2 => implStanding_any a1 n n xs a2 ni ni is ser now W (HTB.out W hW) h1 HR.out.2 HSB.out h2 HR2.out.2
  have HBB : w2.heap.size ≤ w2.heap.size := Nat.le_refl _
  clear HSB HTB
  go_upto_region 8 with fail
  refine wp_region_ri (ls8 a n c xs ai ni ci is ser now w.heap.size (w2.heap.size)) [10, 24, 25, 26, 27, 28, 29, 30] (w2.heap.size) (fun a0 => a0.tmps.size = 54 ∧ aT a0 0 = .slice a n c ∧ aT a0 2 = .int .i64 ser ∧ aT a0 3 = .int .i64 now ∧ aT a0 5 = .pointer (some ⟨w.heap.size, 0, none⟩)) (by kernel_rfl) rfl (by kernel_rfl) rfl ⟨rfl, rfl, rfl, rfl, rfl⟩ (ls8_stb a n c xs ai ni ci is ser now w.heap.size (w2.heap.size)) ?_ ?_ ?_
  · intro k hk hk2
    match k, hk, hk2 with
    | 9, _, _ => exact N2.out
    | 0, hk, _ => exact absurd hk (by show ¬ (9 ≤ 0); omega)
    | 1, hk, _ => exact absurd hk (by show ¬ (9 ≤ 1); omega)
    | 2, hk, _ => exact absurd hk (by show ¬ (9 ≤ 2); omega)
    | 3, hk, _ => exact absurd hk (by show ¬ (9 ≤ 3); omega)
    | 4, hk, _ => exact absurd hk (by show ¬ (9 ≤ 4); omega)
    | 5, hk, _ => exact absurd hk (by show ¬ (9 ≤ 5); omega)
    | 6, hk, _ => exact absurd hk (by show ¬ (9 ≤ 6); omega)
    | 7, hk, _ => exact absurd hk (by show ¬ (9 ≤ 7); omega)
    | 8, hk, _ => exact absurd hk (by show ¬ (9 ≤ 8); omega)
    | k + 10, _, hk2 => exact absurd hk2 (by show ¬ (k + 10 < 10); omega)
  · rintro a0 ⟨hz, g0, g2, g3, g5⟩
    refine StepsRI.cons ?_ (StepsRI.cons ?_ (StepsRI.cons ?_ (StepsRI.cons ?_ (StepsRI.cons ?_ (StepsRI.cons ?_ (StepsRI.cons ?_ (StepsRI.cons ?_ (StepsRI.cons ?_ (StepsRI.nil)))))))))
    · intro lQ b W hI hUN hED KQ hKQ
      exact opw_move 0 rfl (hKQ.out _ _ (hI.put 0 24 rfl rfl (by rw [hz]; decide) rfl hUN rfl HBB (ls8_stb a n c xs ai ni ci is ser now w.heap.size (w2.heap.size)) (Below.refl _ _) ((hI.fr.same 0 (by decide)).trans g0)))
    · intro lQ b W hI hUN hED KQ hKQ
      have f0 := hI.got 0 (of_decide_eq_true rfl) (edge hED 0 (by kernel_rfl)) rfl
      replace f0 : aT b 24 = .slice a n c := f0
      refine opw_call 21 #[.tmp 24] _ _ _ rfl Tryd.func21 (by kernel_rfl) rfl #[.slice a n c] (by simp [ev, f0]) ?_
      refine (HTC.out W hI.bel).mono ?_
      rintro e W2 ⟨a1, rfl, hk, hb⟩
      exact ⟨_, rfl, hKQ.out _ _ (hI.put 1 25 rfl rfl (by rw [hz]; decide) rfl hUN rfl HBB (ls8_stb a n c xs ai ni ci is ser now w.heap.size (w2.heap.size)) hb ⟨a1, rfl, hk⟩)⟩
    · intro lQ b W hI hUN hED KQ hKQ
      have hg := (hI.vot 9 (of_decide_eq_true rfl) (of_decide_eq_true rfl) rfl)
      refine wp_load_row 24 _ rfl (w.heap.size) ((hI.fr.same 5 (by decide)).trans g5) 24 #[.slice ai ni ci] (0, 0) _ hg Tryd.underlying24 rfl (by kernel_rfl) ?_
      exact hKQ.out _ _ (hI.put 2 26 rfl rfl (by rw [hz]; decide) rfl hUN rfl HBB (ls8_stb a n c xs ai ni ci is ser now w.heap.size (w2.heap.size)) (Below.refl _ _) rfl)
    · intro lQ b W hI hUN hED KQ hKQ
      have f0 := hI.got 2 (of_decide_eq_true rfl) (edge hED 2 (by kernel_rfl)) rfl
      replace f0 : aT b 26 = .agg #[.slice ai ni ci] := f0
      refine opw_call 22 #[.tmp 26] _ _ _ rfl Tryd.func22 (by kernel_rfl) rfl #[.agg #[.slice ai ni ci]] (by simp [ev, f0]) ?_
      refine (HTN.out W hI.bel).mono ?_
      rintro e W2 ⟨a2, rfl, hk, hb⟩
      exact ⟨_, rfl, hKQ.out _ _ (hI.put 3 27 rfl rfl (by rw [hz]; decide) rfl hUN rfl HBB (ls8_stb a n c xs ai ni ci is ser now w.heap.size (w2.heap.size)) hb ⟨a2, rfl, hk⟩)⟩
    · intro lQ b W hI hUN hED KQ hKQ
      exact opw_move 2 rfl (hKQ.out _ _ (hI.put 4 28 rfl rfl (by rw [hz]; decide) rfl hUN rfl HBB (ls8_stb a n c xs ai ni ci is ser now w.heap.size (w2.heap.size)) (Below.refl _ _) ((hI.fr.same 2 (by decide)).trans g2)))
    · intro lQ b W hI hUN hED KQ hKQ
      exact opw_move 3 rfl (hKQ.out _ _ (hI.put 5 29 rfl rfl (by rw [hz]; decide) rfl hUN rfl HBB (ls8_stb a n c xs ai ni ci is ser now w.heap.size (w2.heap.size)) (Below.refl _ _) ((hI.fr.same 3 (by decide)).trans g3)))
    · intro lQ b W hI hUN hED KQ hKQ
      have f0 := hI.got1 1 6 (of_decide_eq_true rfl) (edge hED 1 (by kernel_rfl)) hUN rfl
      obtain ⟨a1, f0, o0_0⟩ := f0
      replace f0 : aT b 25 = .slice a1 n n := f0
      have f1 := hI.got1 3 6 (of_decide_eq_true rfl) (edge hED 3 (by kernel_rfl)) hUN rfl
      obtain ⟨a2, f1, o1_0⟩ := f1
      replace f1 : aT b 27 = .agg #[.slice a2 ni ni] := f1
      have f2 := hI.got 4 (of_decide_eq_true rfl) (edge hED 4 (by kernel_rfl)) rfl
      replace f2 : aT b 28 = .int .i64 ser := f2
      have f3 := hI.got 5 (of_decide_eq_true rfl) (edge hED 5 (by kernel_rfl)) rfl
      replace f3 : aT b 29 = .int .i64 now := f3
      refine opw_call 20 #[.tmp 25, .tmp 27, .tmp 28, .tmp 29] _ _ _ rfl Tryd.func20 (by kernel_rfl) rfl #[.slice a1 n n, .agg #[.slice a2 ni ni], .int .i64 ser, .int .i64 now] (by simp [ev, f0, f1, f2, f3]) ?_
      refine (HSP.out W a1 a2 o0_0 o1_0).mono ?_
      rintro e W2 ⟨rfl, hb⟩
      exact ⟨_, rfl, hKQ.out _ _ (hI.put 6 30 rfl rfl (by rw [hz]; decide) rfl hUN rfl HBB (ls8_stb a n c xs ai ni ci is ser now w.heap.size (w2.heap.size)) hb rfl)⟩
    · intro lQ b W hI hUN hED KQ hKQ
      refine opw_value (w' := W.alloc (.cells #[.int .i64 0, .int .i64 0, .int .i64 0] 48)) (.pointer (some ⟨W.heap.size, 0, none⟩)) (by kernel_rfl) ?_
      exact hKQ.out _ _ (hI.put 7 10 rfl rfl (by rw [hz]; decide) rfl hUN rfl HBB (ls8_stb a n c xs ai ni ci is ser now w.heap.size (w2.heap.size)) ((Below.refl _ _).alloc (Nat.le_refl _) _) ⟨W.heap.size, rfl, heap_alloc_new W _, Nat.le_trans HBB hI.bel.size⟩)
    · intro lQ b W hI hUN hED KQ hKQ
      obtain ⟨g, fb, hgb, hge⟩ := hI.got1 7 8 (of_decide_eq_true rfl) (edge hED 7 (by kernel_rfl)) hUN rfl
      have f := hI.got 6 (of_decide_eq_true rfl) (edge hED 6 (by kernel_rfl)) rfl
      refine wp_store_row 48 _ _ rfl g #[.int .i64 (stdV xs is ser now).1, .int .i64 (stdV xs is ser now).2.1, .int .i64 (stdV xs is ser now).2.2] fb f 48 _ hgb (by kernel_rfl) rfl (by simp [Value.oneCell']) ?_
      have ht := setRow_touch W g #[.int .i64 (stdV xs is ser now).1, .int .i64 (stdV xs is ser now).2.1, .int .i64 (stdV xs is ser now).2.2]
      exact hKQ.out _ _ (hI.storel 8 (fun j hj => by
          rcases List.mem_cons.1 hj with rfl | hj
          · exact edge hED 7 (by kernel_rfl)
          rcases List.mem_singleton.1 hj with rfl
          exact edge hED 6 (by kernel_rfl)) (hI.bel.trans (ht.below hge (Nat.le_trans HBB hI.bel.size))) (ls8_st8 a n c xs ai ni ci is ser now w.heap.size (w2.heap.size) hgb ht hge hI.cl hUN (fun j hj => by
          rcases List.mem_cons.1 hj with rfl | hj
          · exact edge hED 7 (by kernel_rfl)
          rcases List.mem_singleton.1 hj with rfl
          exact edge hED 6 (by kernel_rfl))) ⟨g, fb, (setRow_heap W g _ _ _ _ hgb), hge⟩)
  · intro b W hf hb F
    obtain ⟨gb, e10, hX, hXge⟩ := F 8 (of_decide_eq_true rfl) rfl
    replace e10 : aT b 10 = _ := e10
    rw [hf.eq]
    simp only [puts, Act.put, List.setIfInBounds_toArray, List.set_cons_zero, List.set_cons_succ, e10]
    clear hf F e10
    generalize aT b = AT
    clear b
    obtain ⟨w3, hw3⟩ : ∃ w3, w3 = W := ⟨_, rfl⟩
    subst hw3
    have X3 : Hid (w3.heap[gb]? = some (.cells #[.int .i64 (stdV xs is ser now).1, .int .i64 (stdV xs is ser now).2.1, .int .i64 (stdV xs is ser now).2.2] 48 (0, 0))) := hX
    have B3 : Hid (Below w.heap.size w w3) := B2.out.trans (hb.mono B2.out.size)
    have N3 : Hid (w3.heap[w.heap.size]? = some (.cells #[.slice ai ni ci] 24 (0, 0))) := (hb.block _ l2).trans N2.out
    have l3 : w.heap.size < w3.heap.size := (Array.getElem?_eq_some_iff.1 N3.out).1
    have lg3 : gb < w3.heap.size := (Array.getElem?_eq_some_iff.1 hX).1
    clear hX hb N2 B2 l2 HSP HTC HTN
    go_wp2_with fail
    refine (HTO.out _ B3.out).mono ?_
    rintro e w4 ⟨x1, rfl, hk4, hb4⟩
    have B4 : Hid (Below w.heap.size w w4) := B3.out.trans (hb4.mono B3.out.size)
    have X4 : Hid (w4.heap[gb]? = some (.cells #[.int .i64 (stdV xs is ser now).1, .int .i64 (stdV xs is ser now).2.1, .int .i64 (stdV xs is ser now).2.2] 48 (0, 0))) := (hb4.block _ lg3).trans X3.out
    have N4 : Hid (w4.heap[w.heap.size]? = some (.cells #[.slice ai ni ci] 24 (0, 0))) := (hb4.block _ l3).trans N3.out
    have K4 : Hid (Cls w4 x1 n xs) := hk4
    have l4 := hb4.size
    have q0 : w4.cell? ⟨w.heap.size, 0, none⟩ = some (.slice ai ni ci) := (cell_of_row _ _ 0 _ 24 (0, 0) N4.out).trans rfl
    clear hk4 hb4 X3 N3
    go_wp2_with fail
    refine (HTM.out _ B4.out).mono ?_
    rintro e w5 ⟨x2, rfl, hk5, hb5⟩
    obtain ⟨w6, hw6⟩ : ∃ w6, w6 = w5.alloc (.cells #[.slice x2 ni ni] 33) := ⟨_, rfl⟩
    have hb56 : Below w5.heap.size w5 w6 := by rw [hw6]; exact (Below.refl _ _).alloc (Nat.le_refl _) _
    have hb46 : Below w4.heap.size w4 w6 := hb5.trans (hb56.mono hb5.size)
    have I6 : Hid (w6.heap[w5.heap.size]? = some (.cells #[.slice x2 ni ni] 33 (0, 0))) := by show _ = _; rw [hw6]; exact heap_alloc_new w5 _
    have B6 : Hid (Below w.heap.size w w6) := B4.out.trans (hb46.mono B4.out.size)
    have X6 : Hid (w6.heap[gb]? = some (.cells #[.int .i64 (stdV xs is ser now).1, .int .i64 (stdV xs is ser now).2.1, .int .i64 (stdV xs is ser now).2.2] 48 (0, 0))) := (hb46.block _ (by omega)).trans X4.out
    have N6 : Hid (w6.heap[w.heap.size]? = some (.cells #[.slice ai ni ci] 24 (0, 0))) := (hb46.block _ (by omega)).trans N4.out
    have K6 : Hid (Cls w6 x1 n xs) := K4.out.kept hb46
    have M6 : Hid (Pts w6 x2 ni is) := hk5.kept hb56
    have hs45 := hb5.size
    have hs46 := hb46.size
    have HW6 : Hid (_ = _) := hw6
    clear hk5 hb5 hb56 hb46 X4 N4 K4 hw6 q0
    go_upto_region 11 with fail
    rw [← HW6.out]
    clear HW6
    have q0 : w6.cell? ⟨w5.heap.size, 0, none⟩ = some (.slice x2 ni ni) := (cell_of_row _ _ 0 _ 33 (0, 0) I6.out).trans rfl
    go_wp2_with fail
    refine (HIM.out w6 x1 x2 B6.out K6.out M6.out).mono ?_
    rintro e w7 ⟨rfl, hb7⟩
    obtain ⟨w8, hw8⟩ : ∃ w8, w8 = w7.alloc (.cells #[.int .i64 (stdV xs is ser now).1, .int .i64 (stdV xs is ser now).2.1, .int .i64 (stdV xs is ser now).2.2] 48) := ⟨_, rfl⟩
    have hb78 : Below w7.heap.size w7 w8 := by rw [hw8]; exact (Below.refl _ _).alloc (Nat.le_refl _) _
    have hb68 : Below w6.heap.size w6 w8 := hb7.trans (hb78.mono hb7.size)
    have J8 : Hid (w8.heap[w7.heap.size]? = some (.cells #[.int .i64 (stdV xs is ser now).1, .int .i64 (stdV xs is ser now).2.1, .int .i64 (stdV xs is ser now).2.2] 48 (0, 0))) := by show _ = _; rw [hw8]; exact heap_alloc_new w7 _
    have B8 : Hid (Below w.heap.size w w8) := B6.out.trans (hb68.mono B6.out.size)
    have l56 : w5.heap.size < w6.heap.size := (Array.getElem?_eq_some_iff.1 I6.out).1
    have X8 : Hid (w8.heap[gb]? = some (.cells #[.int .i64 (stdV xs is ser now).1, .int .i64 (stdV xs is ser now).2.1, .int .i64 (stdV xs is ser now).2.2] 48 (0, 0))) := (hb68.block _ (by omega)).trans X6.out
    have N8 : Hid (w8.heap[w.heap.size]? = some (.cells #[.slice ai ni ci] 24 (0, 0))) := (hb68.block _ (by omega)).trans N6.out
    have I8 : Hid (w8.heap[w5.heap.size]? = some (.cells #[.slice x2 ni ni] 33 (0, 0))) := (hb68.block _ l56).trans I6.out
    have K8 : Hid (Cls w8 x1 n xs) := K6.out.kept hb68
    have M8 : Hid (Pts w8 x2 ni is) := M6.out.kept hb68
    have hs68 := hb68.size
    have l78 : w7.heap.size < w8.heap.size := (Array.getElem?_eq_some_iff.1 J8.out).1
    have HW8 : Hid (_ = _) := hw8
    clear hb7 hb78 hb68 X6 N6 I6 K6 M6 hw8 q0
    go_upto_region 12 with fail
    rw [← HW8.out]
    clear HW8
    have j0 : w8.cell? ⟨w7.heap.size, 0, none⟩ = some (.int .i64 (stdV xs is ser now).1) := (cell_of_row _ _ 0 _ 48 (0, 0) J8.out).trans rfl
    have j1 : w8.cell? ⟨w7.heap.size, 1, none⟩ = some (.int .i64 (stdV xs is ser now).2.1) := (cell_of_row _ _ 1 _ 48 (0, 0) J8.out).trans rfl
    have j2 : w8.cell? ⟨w7.heap.size, 2, none⟩ = some (.int .i64 (stdV xs is ser now).2.2) := (cell_of_row _ _ 2 _ 48 (0, 0) J8.out).trans rfl
    have x0_ : w8.cell? ⟨gb, 0, none⟩ = some (.int .i64 (stdV xs is ser now).1) := (cell_of_row _ _ 0 _ 48 (0, 0) X8.out).trans rfl
    have x1_ : w8.cell? ⟨gb, 1, none⟩ = some (.int .i64 (stdV xs is ser now).2.1) := (cell_of_row _ _ 1 _ 48 (0, 0) X8.out).trans rfl
    have x2_ : w8.cell? ⟨gb, 2, none⟩ = some (.int .i64 (stdV xs is ser now).2.2) := (cell_of_row _ _ 2 _ 48 (0, 0) X8.out).trans rfl
    go_wp2_with fail
    refine (eqStand_same (stdV xs is ser now) _).mono ?_
    rintro e w9 ⟨rfl, hb9⟩
    have B9 : Hid (Below w.heap.size w w9) := B8.out.trans (hb9.mono B8.out.size)
    have N9 : Hid (w9.heap[w.heap.size]? = some (.cells #[.slice ai ni ci] 24 (0, 0))) := (hb9.block _ (by omega)).trans N8.out
    have I9 : Hid (w9.heap[w5.heap.size]? = some (.cells #[.slice x2 ni ni] 33 (0, 0))) := (hb9.block _ (by omega)).trans I8.out
    have K9 : Hid (Cls w9 x1 n xs) := K8.out.kept hb9
    have M9 : Hid (Pts w9 x2 ni is) := M8.out.kept hb9
    have hs89 := hb9.size
    clear hb9 N8 I8 K8 M8 j0 j1 j2 x0_ x1_ x2_
    go_wp2_with fail
    refine (HTO.out _ B9.out).mono ?_
    rintro e w10 ⟨t1, rfl, hk10, hb10⟩
    have B10 : Hid (Below w.heap.size w w10) := B9.out.trans (hb10.mono B9.out.size)
    have N10 : Hid (w10.heap[w.heap.size]? = some (.cells #[.slice ai ni ci] 24 (0, 0))) := (hb10.block _ (by omega)).trans N9.out
    have I10 : Hid (w10.heap[w5.heap.size]? = some (.cells #[.slice x2 ni ni] 33 (0, 0))) := (hb10.block _ (by omega)).trans I9.out
    have K10 : Hid (Cls w10 x1 n xs) := K9.out.kept hb10
    have M10 : Hid (Pts w10 x2 ni is) := M9.out.kept hb10
    have hs910 := hb10.size
    have KT : Hid (Cls w10 t1 n xs) := hk10
    clear hk10 hb10 N9 I9 K9 M9
    go_wp2_with fail
    refine (eqCrlS_same x1 t1 n n n xs _ K10.out KT.out HZ.out).mono ?_
    rintro e w11 ⟨rfl, hb11⟩
    have B11 : Hid (Below w.heap.size w w11) := B10.out.trans (hb11.mono B10.out.size)
    have N11 : w11.heap[w.heap.size]? = some (.cells #[.slice ai ni ci] 24 (0, 0)) := (hb11.block _ (by omega)).trans N10.out
    have I11 : w11.heap[w5.heap.size]? = some (.cells #[.slice x2 ni ni] 33 (0, 0)) := (hb11.block _ (by omega)).trans I10.out
    have M11 : Hid (Pts w11 x2 ni is) := M10.out.kept hb11
    have n0 : w11.cell? ⟨w.heap.size, 0, none⟩ = some (.slice ai ni ci) := (cell_of_row _ _ 0 _ 24 (0, 0) N11).trans rfl
    have m0 : w11.cell? ⟨w5.heap.size, 0, none⟩ = some (.slice x2 ni ni) := (cell_of_row _ _ 0 _ 33 (0, 0) I11).trans rfl
    have hs1011 := hb11.size
    have MD : Hid (Pts w11.drew x2 ni is) := M11.out.kept (Below.refl _ _).drew
    have ND : ∀ w', Below w11.drew.heap.size w11.drew w' → w'.cell? ⟨w5.heap.size, 0, none⟩ = some (.slice x2 ni ni) := fun w' hw' => (cell_of_row _ _ 0 _ 33 (0, 0) ((hw'.block _ (by simp; omega)).trans I11)).trans rfl
    have HND : Hid _ := ND
    have HTD := HTM.out w11.drew B11.out.drew
    have HTDh : Hid _ := HTD
    have EQ : ∀ (t2 : Option Addr) (w7 : World), Below w11.drew.heap.size w11.drew w7 → Pts w7 t2 ni is → Hid (Calls Tryd.prog 26 #[.agg #[.slice x2 ni ni], .agg #[.slice t2 ni ni]] w7 fun e w' => e = .returned (.bool true) ∧ Below w7.heap.size w7 w') := fun t2 w7 h7 r7 => eqName_same x2 t2 ni ni ni is w7 (MD.out.kept h7) r7
    clear hb11 N11 I11 N10 I10 K10 M10 KT ND HTD
    go_wp2_with fail
    go_region_with (first
      | (go_at_call 22; refine Calls.mono HTDh.out ?_; rintro e w12 ⟨t2, rfl, ok12, hb12⟩; have m1 := HND.out w12 hb12)
      | (go_at_call 26; refine Calls.mono (EQ t2 w12 hb12 ok12).out ?_; rintro e w13 ⟨rfl, hb13⟩))
    all_goals
      have B13 : Hid (Below w.heap.size w w13) := (B11.out.drew.trans (hb12.mono (by have := B11.out.size; simpa using this))).trans (hb13.mono (by have := B11.out.size; have := hb12.size; simp at this; omega))
      go_wp2
      go_ret
      exact ⟨rfl, B13.out⟩

end Go.Proofs.YtbfjkmlmnhphoaaDoor

