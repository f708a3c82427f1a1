import Derived.Test.YtbfjkmlmnhphoaaDoorCO3
import Derived.Test.YtbfjkmlmnhphoaaDoorRK
import Derived.DeepKeys4
set_option linter.unusedVariables false
namespace Go.Proofs.YtbfjkmlmnhphoaaDoor
open Go.RowKit Go.Maps

/-- What is known of a region (RJ). -/
def ko1 (an : Option Addr) (nn cn : Nat) (y : GP) (G B : Nat) : RSpec where
  m := 7
  n := 9
  slots := [3, 4, 5, 6, 7, 8, 100006, 100007, 100008]
  kills := [[], [], [], [], [], [], [], [], [6]]
  pres := [[], [], [], [], [], [], [], [], []]
  fact := fun k v w => match k with
    | 0 => v = .pointer (some ⟨G, 0, none⟩)
    | 1 => v = .agg #[.slice an nn cn]
    | 2 => v = .string (ftS y.parts)
    | 3 => v = .pointer (some ⟨G, 1, none⟩)
    | 4 => v = .int .i64 y.ser
    | 5 => v = .agg #[.string (ftS y.parts), .int .i64 y.ser]
    | 6 => w.heap[(G + 1)]? = some (.cells #[.string (ftS y.parts), .int .i64 y.ser] 99 (0, 0))
    | 7 => w.heap[G]? = some (.cells #[.slice an nn cn, .int .i64 y.ser, .int .i64 y.tm, .int .i64 y.rs] 63 (0, 0))
    | _ => w.heap[(G + 1)]? = some (.cells #[.string { data := #[] }, .int .i64 0] 99 (0, 0))
set_option linter.unusedVariables false in
theorem ko1_stb (an : Option Addr) (nn cn : Nat) (y : GP) (G B : Nat) (k : Nat) (hk : k < 9) : StB ((ko1 an nn cn y G (B)).fact k) := by
  match k, hk with
  | 0, _ => exact fun _ _ _ h _ => h
  | 1, _ => exact fun _ _ _ h _ => h
  | 2, _ => exact fun _ _ _ h _ => h
  | 3, _ => exact fun _ _ _ h _ => h
  | 4, _ => exact fun _ _ _ h _ => h
  | 5, _ => exact fun _ _ _ h _ => h
  | 6, _ => exact fun _ _ _ q_0 hb => below_kept q_0 hb
  | 7, _ => exact fun _ _ _ q_0 hb => below_kept q_0 hb
  | 8, _ => exact fun _ _ _ q_0 hb => below_kept q_0 hb
  | k + 9, hk => omega
set_option linter.unusedVariables false in
theorem ko1_st6 (an : Option Addr) (nn cn : Nat) (y : GP) (G B : Nat) {W W2 : World} {cs : Array Value} {fr : Nat × Nat} (hg : W.heap[(G + 1)]? = some (.cells cs 99 fr)) (ht : Touch ((G + 1)) ((G + 1) + 1) W W2) (k : Nat) (hk : k < 9) (hne : k ≠ 6) (hkill : 6 ∉ (ko1 an nn cn y G (B)).kill k) (v : Value) (hfact : (ko1 an nn cn y G (B)).fact k v W) : (ko1 an nn cn y G (B)).fact k v W2 := by
  match k, hk, hne, hkill, hfact with
  | 0, _, _, _, hq => exact hq
  | 1, _, _, _, hq => exact hq
  | 2, _, _, _, hq => exact hq
  | 3, _, _, _, hq => exact hq
  | 4, _, _, _, hq => exact hq
  | 5, _, _, _, hq => exact hq
  | 6, _, hne, _, _ => exact absurd rfl hne
  | 7, _, _, _, q_0 => exact box_box q_0 hg (by decide) ht
  | 8, _, _, hkill, _ => exact absurd (List.Mem.head _) hkill
  | k + 9, hk, _, _, _ => omega

set_option maxRecDepth 10000 in
set_option maxHeartbeats 4000000 in
theorem goneKey_any (an : Option Addr) (nn cn : Nat) (y : GP) (w : World) (htab : Lib.TabIs Tryd.prog w "internal/strconv.uint64pow10" .u64 Lib.pow10Tab) (h : Pts w an nn y.parts) (hp : nameP y.parts) :
    Calls Tryd.prog 76 #[gov an nn cn y] w fun e w' => e = .returned (.agg #[.string (ftS y.parts), .int .i64 y.ser]) ∧ Below w.heap.size w w' := by
  unfold gov
  obtain ⟨W0, hW0⟩ : ∃ W0, W0 = (w.alloc (.cells #[.slice an nn cn, .int .i64 y.ser, .int .i64 y.tm, .int .i64 y.rs] 63)).alloc (.cells #[.string { data := #[] }, .int .i64 0] 99) := ⟨_, rfl⟩
  have hB0 : Below w.heap.size w W0 := by rw [hW0]; exact two_below _ _ _
  have b0 := two_blocks w (.cells #[.slice an nn cn, .int .i64 y.ser, .int .i64 y.tm, .int .i64 y.rs] 63) (.cells #[.string { data := #[] }, .int .i64 0] 99)
  rw [← hW0] at b0
  have HFT : Hid (∀ W, Below w.heap.size W0 W → Calls Tryd.prog 93 #[.agg #[.slice an nn cn]] W fun e w' => e = .returned (.string (ftS y.parts)) ∧ Below W.heap.size W w') := fun W hW => foldedText_any an nn cn y.parts W (Lib.tabBelow_of_tabIs htab W (hB0.trans hW)) (h.kept (hB0.trans hW)) hp
  have HW : Hid (_ = _) := hW0
  have HBB : w.heap.size ≤ W0.heap.size := hB0.size
  clear hW0 htab h hp
  go_enter Tryd.func76, Tryd.ntmps76
  go_upto_region 1 with fail
  rw [← HW.out]
  clear HW
  refine wp_region_ri (ko1 an nn cn y w.heap.size (w.heap.size)) [3, 4, 5, 6, 7, 8] (w.heap.size) (fun a0 => a0.tmps.size = 9 ∧ aT a0 1 = .pointer (some ⟨w.heap.size, 0, none⟩) ∧ aT a0 2 = .pointer (some ⟨(w.heap.size + 1), 0, none⟩)) (by kernel_rfl) rfl (by kernel_rfl) rfl ⟨rfl, rfl, rfl⟩ (ko1_stb an nn cn y w.heap.size (w.heap.size)) ?_ ?_ ?_
  · intro k hk hk2
    match k, hk, hk2 with
    | 7, _, _ => exact b0.1
    | 8, _, _ => exact b0.2
    | 0, hk, _ => exact absurd hk (by show ¬ (7 ≤ 0); omega)
    | 1, hk, _ => exact absurd hk (by show ¬ (7 ≤ 1); omega)
    | 2, hk, _ => exact absurd hk (by show ¬ (7 ≤ 2); omega)
    | 3, hk, _ => exact absurd hk (by show ¬ (7 ≤ 3); omega)
    | 4, hk, _ => exact absurd hk (by show ¬ (7 ≤ 4); omega)
    | 5, hk, _ => exact absurd hk (by show ¬ (7 ≤ 5); omega)
    | 6, hk, _ => exact absurd hk (by show ¬ (7 ≤ 6); omega)
    | k + 9, _, hk2 => exact absurd hk2 (by show ¬ (k + 9 < 9); omega)
  · rintro a0 ⟨hz, g1, g2⟩
    refine StepsRI.cons ?_ (StepsRI.cons ?_ (StepsRI.cons ?_ (StepsRI.cons ?_ (StepsRI.cons ?_ (StepsRI.cons ?_ (StepsRI.cons ?_ (StepsRI.nil)))))))
    · intro lQ b W hI hUN hED KQ hKQ
      exact opw_field 63 1 0 rfl _ ((hI.fr.same 1 (by decide)).trans g1) _ (by kernel_rfl) (hKQ.out _ _ (hI.put 0 3 rfl rfl (by rw [hz]; decide) rfl hUN rfl HBB (ko1_stb an nn cn y w.heap.size (w.heap.size)) (Below.refl _ _) rfl))
    · intro lQ b W hI hUN hED KQ hKQ
      have f : aT b 3 = .pointer (some ⟨w.heap.size, 0, none⟩) := hI.got 0 (of_decide_eq_true rfl) (edge hED 0 (by kernel_rfl)) rfl
      have hg := hI.vot 7 (of_decide_eq_true rfl) (of_decide_eq_true rfl) rfl
      have hc : W.cell? ⟨w.heap.size, 0, none⟩ = some (.slice an nn cn) := (cell_of_row _ _ 0 _ _ (0, 0) hg).trans rfl
      exact opw_load1 33 3 rfl _ f (.agg #[.slice an nn cn]) (by simp [Instr.loadAt, go_sem, hc]) (hKQ.out _ _ (hI.put 1 4 rfl rfl (by rw [hz]; decide) rfl hUN rfl HBB (ko1_stb an nn cn y w.heap.size (w.heap.size)) (Below.refl _ _) rfl))
    · intro lQ b W hI hUN hED KQ hKQ
      have f0 := hI.got 1 (of_decide_eq_true rfl) (edge hED 1 (by kernel_rfl)) rfl
      replace f0 : aT b 4 = .agg #[.slice an nn cn] := f0
      refine opw_call 93 #[.tmp 4] _ _ _ rfl Tryd.func93 (by kernel_rfl) rfl #[.agg #[.slice an nn cn]] (by simp [ev, f0]) ?_
      refine (HFT.out W hI.bel).mono ?_
      rintro e W2 ⟨rfl, hb⟩
      exact ⟨_, rfl, hKQ.out _ _ (hI.put 2 5 rfl rfl (by rw [hz]; decide) rfl hUN rfl HBB (ko1_stb an nn cn y w.heap.size (w.heap.size)) hb rfl)⟩
    · intro lQ b W hI hUN hED KQ hKQ
      exact opw_field 63 1 1 rfl _ ((hI.fr.same 1 (by decide)).trans g1) _ (by kernel_rfl) (hKQ.out _ _ (hI.put 3 6 rfl rfl (by rw [hz]; decide) rfl hUN rfl HBB (ko1_stb an nn cn y w.heap.size (w.heap.size)) (Below.refl _ _) rfl))
    · intro lQ b W hI hUN hED KQ hKQ
      have f := hI.got 3 (of_decide_eq_true rfl) (edge hED 3 (by kernel_rfl)) rfl
      have hg := (hI.vot 7 (of_decide_eq_true rfl) (of_decide_eq_true rfl) rfl)
      have hc : W.cell? ⟨w.heap.size, 1, none⟩ = some (.int .i64 y.ser) := (cell_of_row _ _ 1 _ _ (0, 0) hg).trans rfl
      exact opw_load1 2 6 rfl _ f _ (by simp [Instr.loadAt, go_sem, hc]) (hKQ.out _ _ (hI.put 4 7 rfl rfl (by rw [hz]; decide) rfl hUN rfl HBB (ko1_stb an nn cn y w.heap.size (w.heap.size)) (Below.refl _ _) rfl))
    · intro lQ b W hI hUN hED KQ hKQ
      have f0 := hI.got 2 (of_decide_eq_true rfl) (edge hED 2 (by kernel_rfl)) rfl
      replace f0 : aT b 5 = .string (ftS y.parts) := f0
      have f1 := hI.got 4 (of_decide_eq_true rfl) (edge hED 4 (by kernel_rfl)) rfl
      replace f1 : aT b 7 = .int .i64 y.ser := f1
      refine opw_build 99 _ rfl #[(0, .string (ftS y.parts)), (1, .int .i64 y.ser)] (by simp [ev, f0, f1]) (.agg #[.string (ftS y.parts), .int .i64 y.ser]) (by kernel_rfl) ?_
      exact hKQ.out _ _ (hI.put 5 8 rfl rfl (by rw [hz]; decide) rfl hUN rfl HBB (ko1_stb an nn cn y w.heap.size (w.heap.size)) (Below.refl _ _) rfl)
    · intro lQ b W hI hUN hED KQ hKQ
      have hgb := (hI.vot1 8 6 (of_decide_eq_true rfl) (of_decide_eq_true rfl) hUN rfl)
      have fb := ((hI.fr.same 2 (by decide)).trans g2)
      have f := hI.got 5 (of_decide_eq_true rfl) (edge hED 5 (by kernel_rfl)) rfl
      refine wp_store_row 99 _ _ rfl ((w.heap.size + 1)) #[.string (ftS y.parts), .int .i64 y.ser] fb f 99 _ hgb (by kernel_rfl) rfl (by simp [Value.oneCell']) ?_
      have ht := setRow_touch W ((w.heap.size + 1)) #[.string (ftS y.parts), .int .i64 y.ser]
      exact hKQ.out _ _ (hI.store 6 (fun j hj => by cases hj) (hI.bel.trans (ht.below (by first | exact HGE2 | omega) (Nat.le_trans HBB hI.bel.size))) (ko1_st6 an nn cn y w.heap.size (w.heap.size) hgb ht) (setRow_heap W ((w.heap.size + 1)) _ _ _ _ hgb))
  · intro b W hf hb F
    have hk := F 6 (of_decide_eq_true rfl) rfl
    rw [hf.eq]
    simp only [puts, Act.put, List.setIfInBounds_toArray, List.set_cons_zero, List.set_cons_succ]
    clear hf F
    have hK : W.heap[w.heap.size + 1]? = some (.cells #[.string (ftS y.parts), .int .i64 y.ser] 99 (0, 0)) := hk
    have HK : Hid (_ = _) := hK
    clear hk hK
    go_wp2
    exact bodyPost_ret (results_cell_row (by rfl) _ _ (w.heap.size + 1) _ _ (0, 0) _ rfl HK.out Tryd.underlying99 rfl (by kernel_rfl)) rfl ⟨rfl, hB0.trans hb⟩

end Go.Proofs.YtbfjkmlmnhphoaaDoor
