import Derived.Test.YtbfjkmlmnhphoaaDoorGMJ1AP0
import Derived.Test.YtbfjkmlmnhphoaaDoorGGC1GC2
set_option linter.unusedVariables false
namespace Go.Proofs.YtbfjkmlmnhphoaaDoor
open Go.RowKit Go.Sort Go.Maps

/-- What is known of a region (RJ). -/
def wc7 (an : Option Addr) (nn cn : Nat) (z : GP) (mq : Nat) (D : DataW Value) (G go B : Nat) : RSpec where
  m := 5
  n := 7
  slots := [28, 29, 30, 31, 100004, 100005, 100006]
  kills := [[], [], [], [], [], [], [4]]
  pres := [[], [], [], [], [], [], []]
  fact := fun k v w => match k with
    | 0 => v = .map (some G)
    | 1 => v = .agg #[.slice an nn cn, .int .i64 z.ser, .int .i64 z.tm, .int .i64 z.rs]
    | 2 => v = .agg #[.string (ftS z.parts), .int .i64 z.ser]
    | 3 => v = .agg #[.slice an nn cn, .int .i64 z.ser, .int .i64 z.tm, .int .i64 z.rs]
    | 4 => MpV G (mq + 1) (D.put (.string (kb z)) (.held (.agg #[.slice an nn cn, .int .i64 z.ser, .int .i64 z.tm, .int .i64 z.rs]))) w
    | 5 => w.heap[go]? = some (.cells #[.slice an nn cn, .int .i64 z.ser, .int .i64 z.tm, .int .i64 z.rs] 63 (0, 0))
    | _ => MpV G mq D w
set_option linter.unusedVariables false in
theorem wc7_stb (an : Option Addr) (nn cn : Nat) (z : GP) (mq : Nat) (D : DataW Value) (G go B : Nat) (k : Nat) (hk : k < 7) : StB ((wc7 an nn cn z mq D G go (B)).fact k) := by
  match k, hk with
  | 0, _ => exact fun _ _ _ h _ => h
  | 1, _ => exact fun _ _ _ h _ => h
  | 2, _ => exact fun _ _ _ h _ => h
  | 3, _ => exact fun _ _ _ h _ => h
  | 4, _ => exact fun _ _ _ q_0 hb => q_0.kept hb
  | 5, _ => exact fun _ _ _ q_0 hb => below_kept q_0 hb
  | 6, _ => exact fun _ _ _ q_0 hb => q_0.kept hb
  | k + 7, hk => omega

set_option maxRecDepth 10000 in
set_option maxHeartbeats 8000000 in
theorem withChanges_any (a : Option Addr) (n c : Nat) (xs : List GP) (b : Option Addr) (m d : Nat) (ys : List GP) (w0 w : World) (hb0 : Below w0.heap.size w0 w) (htab : Lib.TabIs Tryd.prog w "internal/strconv.uint64pow10" .u64 Lib.pow10Tab) (h : GnsR w0 a n c xs) (h' : GnsR w0 b m d ys) (hn : n ≤ 1000) (hm : m ≤ 1000) (hp : ∀ k, k < n → kOk (xs.getD k default)) (hq : ∀ k, k < m → kOk (ys.getD k default))
    (hx : ∀ i k, i < n → k < i → kb (xs.getD k default) ≠ kb (xs.getD i default)) (hy : ∀ i k, i < m → k < i → kb (ys.getD k default) ≠ kb (ys.getD i default)) (hr : ∀ k, k < n → (xs.getD k default).rs ≠ 7) :
    Calls Tryd.prog 56 #[.slice a n c, .slice b m d] w fun e w' => ∃ p k f, e = .returned (.slice p k f) ∧ (∃ sl, GsO w0 w.heap.size w' p k f (apl xs ys) sl) ∧ Below w.heap.size w w' := by
  obtain ⟨i0, hi, hz0, hz1, hz2⟩ := info_parts Tryd.infoGone
  have HB0 : Hid (Below w0.heap.size w0 w) := hb0
  have HA : Hid (GnsR w0 a n c xs) := h
  have HB : Hid (GnsR w0 b m d ys) := h'
  have HLN : Hid (xs.length = n ∧ ys.length = m) := ⟨h.gns.len, h'.gns.len⟩
  have HPX : Hid (∀ k, k < n → kOk (xs.getD k default)) := hp
  have HQ : Hid (∀ k, k < m → kOk (ys.getD k default)) := hq
  have HDX : Hid (∀ i k, i < n → k < i → kb (xs.getD k default) ≠ kb (xs.getD i default)) := hx
  have HDY : Hid (∀ i k, i < m → k < i → kb (ys.getD k default) ≠ kb (ys.getD i default)) := hy
  have HRS : Hid (∀ k, k < n → (xs.getD k default).rs ≠ 7) := hr
  have HK2 : Hid (∀ k, k < n + m → kOk ((xs ++ ys).getD k default)) := fun k hk => by
    by_cases h1 : k < n
    · rw [getD_left (by rw [h.gns.len]; exact h1)]; exact hp k h1
    · have e : k = xs.length + (k - n) := by rw [h.gns.len]; omega
      rw [e, getD_right]; exact hq _ (by omega)
  have HT : Hid (∀ W, Below w.heap.size w W → Lib.TabIs Tryd.prog W "internal/strconv.uint64pow10" .u64 Lib.pow10Tab) := fun W hW => Lib.tabBelow_of_tabIs htab W hW
  clear hb0 h h' hp hq hx hy hr htab
  go_enter Tryd.func56, Tryd.ntmps56
  go_wp2_with fail
  refine (byKeyV_any a n c xs w (HT.out _ (Below.refl _ _)) (HA.out.gns.kept HB0.out) hn (fun k hk => HPX.out k hk)).mono ?_
  rintro e w1 ⟨rfl, hmp, hb1⟩
  have HM0 : Hid (∃ D t, t ≤ n + 0 ∧ MpV w.heap.size t D w1 ∧ MpF w0 D (f1 xs n ys 0)) := ⟨_, n, by omega, hmp, mpF_of HB0.out HA.out.gns HPX.out HA.out.caps⟩
  have HB1 : Hid (Below w.heap.size w w1) := hb1
  clear hmp hb1
  go_wp2_with fail
  go_loopw [18] (fun i wr => ∃ k : Nat, k ≤ m ∧ i = .int .i64 k ∧ Hid (∃ D t, t ≤ n + k ∧ MpV w.heap.size t D wr ∧ MpF w0 D (f1 xs n ys k)) ∧ Below w.heap.size w wr) (fun i _ => m - (intOf i).toNat)
  case atStart => exact ⟨0, Nat.zero_le _, rfl, HM0.out, HB1.out⟩
  case round =>
    obtain ⟨wo, hwo⟩ : ∃ wo, wo = wr := ⟨_, rfl⟩
    subst hwo
    obtain ⟨k, hk, rfl, HM, hbr⟩ := hrel
    by_cases hkn : k < m
    · obtain ⟨b1, off1, an, nn, cn, rfl, hl1, hc1, hp1⟩ := HB.out.gns.get k hkn
      obtain ⟨hnl, hn1⟩ := HB.out.caps k hkn b1 off1 an nn cn rfl hc1.c0
      have hpk := HQ.out k hkn
      obtain ⟨z, hz⟩ : ∃ z, z = ys.getD k default := ⟨_, rfl⟩
      have HF1 : Hid (f1 xs n ys (k + 1) = (f1 xs n ys k).set (kb z) (if z.rs = 7 then none else some z)) := by show _ = _; rw [hz]; rfl
      rw [← hz] at hc1 hp1 hpk
      have hb0w : Below w0.heap.size w0 wo := HB0.out.trans (hbr.mono HB0.out.size)
      obtain ⟨d0, d1, d2, d3⟩ := hc1.of (w' := wo) (fun i => hb0w.cell (p := ⟨b1, i, none⟩) hl1)
      obtain ⟨D, mq, hmq, hmp, hpf⟩ := HM.out
      obtain ⟨W1, hW1⟩ : ∃ W1, W1 = wo.alloc (.cells #[.slice an nn cn, .int .i64 z.ser, .int .i64 z.tm, .int .i64 z.rs] 63) := ⟨_, rfl⟩
      have hbW : Below wo.heap.size wo W1 := by rw [hW1]; exact (Below.refl _ _).alloc (Nat.le_refl _) _
      have HE1 : Hid (W1.heap[wo.heap.size]? = some (.cells #[.slice an nn cn, .int .i64 z.ser, .int .i64 z.tm, .int .i64 z.rs] 63 (0, 0))) := by show _ = _; rw [hW1]; exact heap_alloc_new wo _
      have hB1 : Below w.heap.size w W1 := hbr.trans (hbW.mono hbr.size)
      have hml := World.ownsMap.lt hmp
      have HM1 : Hid (MpV w.heap.size mq D W1) := hmp.kept hbW
      have HPT : Hid (Pts w0 an nn z.parts) := hp1
      have HKO : Hid (∀ W, Below w.heap.size W1 W → Calls Tryd.prog 76 #[.agg #[.slice an nn cn, .int .i64 z.ser, .int .i64 z.tm, .int .i64 z.rs]] W fun e w' => e = .returned (.agg #[.string (ftS z.parts), .int .i64 z.ser]) ∧ Below W.heap.size W w') := fun W hW => goneKey_any an nn cn z W (HT.out W (hB1.trans hW)) (hp1.kept (HB0.out.trans ((hB1.trans hW).mono HB0.out.size))) hpk.1
      have HKZ : Hid (kOk z) := hpk
      have HKI : Hid (Go.keyOf Tryd.prog 99 (.agg #[.string (ftS z.parts), .int .i64 z.ser]) = some (.string (kb z))) := hpk.at
      have HMM : mq < maxLen := by unfold maxLen; omega
      have HBB : w.heap.size ≤ W1.heap.size := hB1.size
      have hkni : (k : Int) < (m : Int) := by omega
      have HP : Hid (MpF w0 D (f1 xs n ys k)) := hpf
      have HNL : Hid (an = none → cn = 0) := hnl
      have HW1 : Hid (_ = _) := hW1
      clear hW1 hc1 hp1 hz hbW hpk HM hmp hpf hnl hb0w
      go_upto_region 5 with fail
      rw [← HW1.out]
      clear HW1 d0 d1 d2 d3
      have e3 : W1.cell? ⟨wo.heap.size, 3, none⟩ = some (.int .i64 z.rs) := (cell_of_row _ _ 3 _ _ (0, 0) HE1.out).trans rfl
      by_cases h7 : z.rs = 7
      · have HPF : Hid (MpF w0 (D.del (.string (kb z))) (f1 xs n ys (k + 1))) := by
          show MpF _ _ _
          rw [HF1.out, if_pos h7]
          exact HP.out.del _
        have t7 : (z.rs == 7) = true := by simp [h7]
        have t8 : decide (z.rs = 7) = true := by simp [h7]
        clear HP HF1
        have H7 : Hid (z.rs = 7) := h7
        clear h7
        have e0 : W1.cell? ⟨wo.heap.size, 0, none⟩ = some (.slice an nn cn) := (cell_of_row _ _ 0 _ _ (0, 0) HE1.out).trans rfl
        have e1 : W1.cell? ⟨wo.heap.size, 1, none⟩ = some (.int .i64 z.ser) := (cell_of_row _ _ 1 _ _ (0, 0) HE1.out).trans rfl
        have e2 : W1.cell? ⟨wo.heap.size, 2, none⟩ = some (.int .i64 z.tm) := (cell_of_row _ _ 2 _ _ (0, 0) HE1.out).trans rfl
        go_wp2_with fail
        refine (HKO.out W1 (Below.refl _ _)).mono ?_
        rintro e w3 ⟨rfl, hb3⟩
        have HM3 : Hid (MpV w.heap.size mq D w3) := HM1.out.kept hb3
        have hB3 : Below w.heap.size w w3 := hB1.trans (hb3.mono hB1.size)
        clear hb3 e0 e1 e2 e3 HE1 HKO HM1
        go_wp2_with (at_delete; go_loud (refine wpList_delete_own _ rfl _ _ 95 99 rfl 63 kLaw Tryd.underlying95 RV w.heap.size mq _ rfl (HM3.out) _ _ rfl HKI.out ?_; intro w8 hm8 ht8))
        have HM8 : Hid (∃ D t, t ≤ n + (k + 1) ∧ MpV w.heap.size t D w8 ∧ MpF w0 D (f1 xs n ys (k + 1))) := ⟨_, mq, by omega, hm8, HPF.out⟩
        have HB8 : Below w.heap.size w w8 := hB3.grown ht8.grown hB3.size (fun kx hx => by cases hx; exact Nat.le_refl _)
        clear hm8 ht8 HM3 hB3
        go_roundw
        case rel => exact ⟨k + 1, by omega, by go_num, HM8.out, HB8⟩
        case measure => simp [intOf]; omega
      · have HPF : Hid (MpF w0 (D.put (.string (kb z)) (.held (.agg #[.slice an nn cn, .int .i64 z.ser, .int .i64 z.tm, .int .i64 z.rs]))) (f1 xs n ys (k + 1))) := by
          show MpF _ _ _
          rw [HF1.out, if_neg h7]
          exact HP.out.put HKZ.out HPT.out HNL.out hn1
        have t7 : (z.rs == 7) = false := by simp [h7]
        have t8 : decide (z.rs = 7) = false := by simp [h7]
        clear HP HF1
        go_upto_region 7 with fail
        clear e3
        refine wp_region_ri (wc7 an nn cn z mq D w.heap.size wo.heap.size (w.heap.size)) [28, 29, 30, 31] (w.heap.size) (fun a0 => a0.tmps.size = 59 ∧ aT a0 5 = .map (some w.heap.size) ∧ aT a0 7 = .pointer (some ⟨wo.heap.size, 0, none⟩)) (by kernel_rfl) rfl (by kernel_rfl) rfl ⟨rfl, rfl, rfl⟩ (wc7_stb an nn cn z mq D w.heap.size wo.heap.size (w.heap.size)) ?_ ?_ ?_
        · intro k hk hk2
          match k, hk, hk2 with
          | 5, _, _ => exact HE1.out
          | 6, _, _ => exact HM1.out
          | 0, hk, _ => exact absurd hk (by show ¬ (5 ≤ 0); omega)
          | 1, hk, _ => exact absurd hk (by show ¬ (5 ≤ 1); omega)
          | 2, hk, _ => exact absurd hk (by show ¬ (5 ≤ 2); omega)
          | 3, hk, _ => exact absurd hk (by show ¬ (5 ≤ 3); omega)
          | 4, hk, _ => exact absurd hk (by show ¬ (5 ≤ 4); omega)
          | k + 7, _, hk2 => exact absurd hk2 (by show ¬ (k + 7 < 7); omega)
        · rintro a0 ⟨hz, g5, g7⟩
          refine StepsRI.cons ?_ (StepsRI.cons ?_ (StepsRI.cons ?_ (StepsRI.cons ?_ (StepsRI.cons ?_ (StepsRI.nil)))))
          · intro lQ b W hI hUN hED KQ hKQ
            exact opw_move 5 rfl (hKQ.out _ _ (hI.put 0 28 rfl rfl (by rw [hz]; decide) rfl hUN rfl HBB (wc7_stb an nn cn z mq D w.heap.size wo.heap.size (w.heap.size)) (Below.refl _ _) ((hI.fr.same 5 (by decide)).trans g5)))
          · intro lQ b W hI hUN hED KQ hKQ
            have hg := (hI.vot 5 (of_decide_eq_true rfl) (of_decide_eq_true rfl) rfl)
            refine wp_load_row 63 _ rfl (wo.heap.size) ((hI.fr.same 7 (by decide)).trans g7) 63 #[.slice an nn cn, .int .i64 z.ser, .int .i64 z.tm, .int .i64 z.rs] (0, 0) _ hg Tryd.underlying63 rfl (by kernel_rfl) ?_
            exact hKQ.out _ _ (hI.put 1 29 rfl rfl (by rw [hz]; decide) rfl hUN rfl HBB (wc7_stb an nn cn z mq D w.heap.size wo.heap.size (w.heap.size)) (Below.refl _ _) rfl)
          · intro lQ b W hI hUN hED KQ hKQ
            have f0 := hI.got 1 (of_decide_eq_true rfl) (edge hED 1 (by kernel_rfl)) rfl
            replace f0 : aT b 29 = .agg #[.slice an nn cn, .int .i64 z.ser, .int .i64 z.tm, .int .i64 z.rs] := f0
            refine opw_call 76 #[.tmp 29] _ _ _ rfl Tryd.func76 (by kernel_rfl) rfl #[.agg #[.slice an nn cn, .int .i64 z.ser, .int .i64 z.tm, .int .i64 z.rs]] (by simp [ev, f0]) ?_
            refine (HKO.out W hI.bel).mono ?_
            rintro e W2 ⟨rfl, hb⟩
            exact ⟨_, rfl, hKQ.out _ _ (hI.put 2 30 rfl rfl (by rw [hz]; decide) rfl hUN rfl HBB (wc7_stb an nn cn z mq D w.heap.size wo.heap.size (w.heap.size)) hb rfl)⟩
          · intro lQ b W hI hUN hED KQ hKQ
            have hg := (hI.vot 5 (of_decide_eq_true rfl) (of_decide_eq_true rfl) rfl)
            refine wp_load_row 63 _ rfl (wo.heap.size) ((hI.fr.same 7 (by decide)).trans g7) 63 #[.slice an nn cn, .int .i64 z.ser, .int .i64 z.tm, .int .i64 z.rs] (0, 0) _ hg Tryd.underlying63 rfl (by kernel_rfl) ?_
            exact hKQ.out _ _ (hI.put 3 31 rfl rfl (by rw [hz]; decide) rfl hUN rfl HBB (wc7_stb an nn cn z mq D w.heap.size wo.heap.size (w.heap.size)) (Below.refl _ _) rfl)
          · intro lQ b W hI hUN hED KQ hKQ
            have f0 : aT b 28 = .map (some w.heap.size) := hI.got 0 (of_decide_eq_true rfl) (edge hED 0 (by kernel_rfl)) rfl
            have f1 : aT b 30 = .agg #[.string (ftS z.parts), .int .i64 z.ser] := hI.got 2 (of_decide_eq_true rfl) (edge hED 2 (by kernel_rfl)) rfl
            have f2 : aT b 31 = .agg #[.slice an nn cn, .int .i64 z.ser, .int .i64 z.tm, .int .i64 z.rs] := hI.got 3 (of_decide_eq_true rfl) (edge hED 3 (by kernel_rfl)) rfl
            have hM : MpV w.heap.size mq D W := hI.vot1 6 4 (of_decide_eq_true rfl) (of_decide_eq_true rfl) hUN rfl
            have hbx : W.heap[wo.heap.size]? = some (.cells #[.slice an nn cn, .int .i64 z.ser, .int .i64 z.tm, .int .i64 z.rs] 63 (0, 0)) := hI.vot 5 (of_decide_eq_true rfl) (of_decide_eq_true rfl) rfl
            refine opw_mapUpdate 28 30 31 _ rfl 99 63 kLaw Tryd.underlying95 RV w.heap.size mq D f0 hM HMM _ _ (.string (kb z)) f1 f2 HKI.out (.held (.agg #[.slice an nn cn, .int .i64 z.ser, .int .i64 z.tm, .int .i64 z.rs])) [] rfl ?_
            intro W2 hM2 hgr
            refine hKQ.out _ _ (hI.store 4 (fun j hj => by cases hj) (hI.bel.grown hgr (Nat.le_trans HBB hI.bel.size) (fun q hq => by cases hq; exact Nat.le_refl _)) (fun k hk hne hkill v hfact => ?_) hM2)
            match k, hk, hne, hkill, hfact with
            | 0, _, _, _, hq => exact hq
            | 1, _, _, _, hq => exact hq
            | 2, _, _, _, hq => exact hq
            | 3, _, _, _, hq => exact hq
            | 4, _, hne, _, _ => exact absurd rfl hne
            | 5, _, _, _, hq => exact (hgr.block _ (Array.getElem?_eq_some_iff.1 hbx).1 (by intro e; simp only [Option.some.injEq] at e; omega)).trans hq
            | 6, _, _, hkill, _ => exact absurd (List.Mem.head _) hkill
            | k + 7, hk, _, _, _ => exact absurd hk (by show ¬ (k + 7 < 7); omega)
        · intro b W hf hb F
          have hk := F 4 (of_decide_eq_true rfl) rfl
          rw [hf.eq]
          simp only [puts, Act.put, List.setIfInBounds_toArray, List.set_cons_zero, List.set_cons_succ]
          clear hf F
          have HM2 : Hid (MpV w.heap.size (mq + 1) (D.put (.string (kb z)) (.held (.agg #[.slice an nn cn, .int .i64 z.ser, .int .i64 z.tm, .int .i64 z.rs]))) W) := hk
          clear hk
          have HM3 : Hid (∃ D t, t ≤ n + (k + 1) ∧ MpV w.heap.size t D W ∧ MpF w0 D (f1 xs n ys (k + 1))) := ⟨_, _, by omega, HM2.out, HPF.out⟩
          have hB2 : Below w.heap.size w W := hB1.trans hb
          clear HM2
          generalize aT b = AT
          clear b
          go_wp2
          go_roundw
          case rel => exact ⟨k + 1, by omega, by go_num, HM3.out, hB2⟩
          case measure => simp [intOf]; omega
    · have hkn' : m = k := by omega
      subst hkn'
      have hni : ¬ ((m : Int) < (m : Int)) := by omega
      clear hkn
      obtain ⟨wl, hwl⟩ : ∃ wl, wl = wo := ⟨_, rfl⟩
      subst hwl
      obtain ⟨wv, hwv⟩ : ∃ wv, wv = wl.alloc (.cells #[.slice a n c, .slice b m d] 34) := ⟨_, rfl⟩
      have hbv : Below wl.heap.size wl wv := by rw [hwv]; exact (Below.refl _ _).alloc (Nat.le_refl _) _
      have hvb : wv.heap[wl.heap.size]? = some (.cells #[.slice a n c, .slice b m d] 34 (0, 0)) := by rw [hwv]; exact heap_alloc_new wl _
      have hBv : Below w.heap.size w wv := hbr.trans (hbv.mono hbr.size)
      have hrg : RowsG w0 wl.heap.size 0 wv (fun k => if k = 0 then 0 else if k = 1 then n else n + m) (fun k => if k = 0 then [] else if k = 1 then xs else xs ++ ys) := by
        refine ⟨(Array.getElem?_eq_some_iff.1 hvb).1, fun k hk => ?_, ⟨rfl, rfl⟩, by show n + m ≤ 2000; omega⟩
        match k, hk with
        | 0, _ => exact ⟨a, n, c, xs, (cell_of_row _ _ 0 _ _ (0, 0) hvb).trans rfl, HA.out, by simp, by simp⟩
        | 1, _ => exact ⟨b, m, d, ys, (cell_of_row _ _ 1 _ _ (0, 0) hvb).trans rfl, HB.out, by simp, by simp⟩
      have CC := concatG_any w0 wl.heap.size 0 2 _ _ wv (HB0.out.trans (hBv.mono HB0.out.size)) hrg
      have HCC : Hid (Calls Tryd.prog 80 #[.slice (some ⟨wl.heap.size, 0, none⟩) 2 2] wv fun e w' => ∃ a' c', e = .returned (.slice a' (n + m) c') ∧ (∃ sl, GsO w0 wv.heap.size w' a' (n + m) c' (xs ++ ys) sl) ∧ Below wv.heap.size wv w') := CC
      have HMV : Hid (∃ D t, t ≤ n + m ∧ MpV w.heap.size t D wv ∧ MpF w0 D (f1 xs n ys m)) := by
        obtain ⟨D, t, h1, h2, h3⟩ := HM.out
        exact ⟨D, t, h1, h2.kept hbv, h3⟩
      have HBV : Hid (Below w.heap.size w wv) := hBv
      have HWV : Hid (_ = _) := hwv
      clear hwv hbv hvb hBv hrg CC HM hbr
      go_wp2_with fail
      rw [← HWV.out]
      clear HWV
      refine Calls.mono HCC.out ?_
      rintro e wc ⟨ac, cc, rfl, ⟨slc, hrc⟩, hbc⟩
      have HAC : Hid (∀ g, ac = some ⟨g, 0, none⟩ → g < wc.heap.size) := fun g e => (ownsRow_in hrc.row g e).2
      have HRC : Hid (GsO w0 w.heap.size wc ac (n + m) cc (xs ++ ys) slc) := hrc.lower HBV.out.size
      have HMC : Hid (∃ D t, t ≤ n + m ∧ MpV w.heap.size t D wc ∧ MpF w0 D (f2 (f1 xs n ys m) (xs ++ ys) 0)) := by
        obtain ⟨D, t, h1, h2, h3⟩ := HMV.out
        exact ⟨D, t, h1, h2.kept hbc, h3⟩
      have HBC : Hid (Below w.heap.size w wc) := HBV.out.trans (hbc.mono HBV.out.size)
      have HWC : Hid (w.heap.size ≤ wc.heap.size) := HBC.out.size
      clear hrc hbc HCC HMV HBV
      go_wp2_with fail
      go_loopw [8, 38] (fun o i wr => ∃ (k : Nat) (ao : Option Addr) (q qc : Nat), k ≤ n + m ∧ q ≤ k ∧ i = .int .i64 k ∧ o = .slice ao q qc ∧ Hid (∃ sl, GsO w0 wc.heap.size wr ao q qc (outK (f1 xs n ys m) (xs ++ ys) k) sl) ∧ Hid (GsO w0 w.heap.size wr ac (n + m) cc (xs ++ ys) slc) ∧ Hid (∃ D t, t ≤ n + m ∧ MpV w.heap.size t D wr ∧ MpF w0 D (f2 (f1 xs n ys m) (xs ++ ys) k)) ∧ Below w.heap.size w wr ∧ Hid (wc.heap.size ≤ wr.heap.size)) (fun _ i _ => n + m - (intOf i).toNat)
      case atStart => exact ⟨0, none, 0, 0, Nat.zero_le _, Nat.le_refl _, rfl, rfl, ⟨fun _ => (none, 0, 0), GsO.empty _ _ _ _⟩, HRC.out, HMC.out, HBC.out, Nat.le_refl _⟩
      case round =>
        obtain ⟨k, ao, q, qc, hk, hqk, rfl, rfl, HO, HR, HM, hbr, HZ⟩ := hrel
        by_cases hlt : k < n + m
        · obtain ⟨gc, hgc, _, hlc⟩ := ownsRow_shape HR.out.row (by omega)
          obtain ⟨an, nn, cn, hsl⟩ : ∃ an nn cn, slc k = (an, nn, cn) := ⟨_, _, _, rfl⟩
          obtain ⟨f0_, f1_, f2_, f3_⟩ := flG_get (xs ++ ys) slc (n + m) k hlt
          obtain ⟨hp1, hnl, hn1⟩ := HR.out.pts k hlt
          rw [hsl] at f0_ hp1 hnl hn1
          have hpk := HK2.out k hlt
          obtain ⟨z, hz⟩ : ∃ z, z = (xs ++ ys).getD k default := ⟨_, rfl⟩
          have HCH : Hid (outK (f1 xs n ys m) (xs ++ ys) (k + 1) = outK (f1 xs n ys m) (xs ++ ys) k ++ (match f2 (f1 xs n ys m) (xs ++ ys) k (kb z) with | some y => [y] | none => [])) := by show _ = _; rw [hz]; rfl
          have HF2 : Hid (f2 (f1 xs n ys m) (xs ++ ys) (k + 1) = (f2 (f1 xs n ys m) (xs ++ ys) k).set (kb z) none) := by show _ = _; rw [hz]; rfl
          rw [← hz] at f1_ f2_ f3_ hp1 hpk
          have hrow := HR.out.row
          rw [hgc] at hrow
          have d0 : wr.cell? ⟨gc, k * 4, none⟩ = some (.slice an nn cn) := (hrow.cellAt (k * 4) (by omega)).trans f0_
          have d1 : wr.cell? ⟨gc, k * 4 + 1, none⟩ = some (.int .i64 z.ser) := (hrow.cellAt (k * 4 + 1) (by omega)).trans f1_
          have d2 : wr.cell? ⟨gc, k * 4 + 2, none⟩ = some (.int .i64 z.tm) := (hrow.cellAt (k * 4 + 2) (by omega)).trans f2_
          have d3 : wr.cell? ⟨gc, k * 4 + 3, none⟩ = some (.int .i64 z.rs) := (hrow.cellAt (k * 4 + 3) (by omega)).trans f3_
          have HPT : Hid (Pts w0 an nn z.parts ∧ (an = none → cn = 0) ∧ nn ≤ 1048576) := ⟨hp1, hnl, hn1⟩
          have HKZ : Hid (kOk z) := hpk
          obtain ⟨D, mq, hmq, hmp, hpf⟩ := HM.out
          have HMD : Hid (MpV w.heap.size mq D wr) := hmp
          have HPF : Hid (MpF w0 D (f2 (f1 xs n ys m) (xs ++ ys) k)) := hpf
          have HGC : Hid (ac = some ⟨gc, 0, none⟩) := hgc
          have hkni : (k : Int) < ((n + m : Nat) : Int) := by omega
          have hkni2 : (k : Int) < (n : Int) + (m : Int) := by omega
          have hbz : Below wr.heap.size wr (wr.alloc (.cells #[.slice an nn cn, .int .i64 z.ser, .int .i64 z.tm, .int .i64 z.rs] 63)) := (Below.refl _ _).alloc (Nat.le_refl _) _
          have HBZ : Hid (_) := hbz
          have HMM := goneKey_any an nn cn z (wr.alloc (.cells #[.slice an nn cn, .int .i64 z.ser, .int .i64 z.tm, .int .i64 z.rs] 63)) (HT.out _ (hbr.trans (hbz.mono hbr.size))) (hp1.kept (HB0.out.trans ((hbr.trans (hbz.mono hbr.size)).mono HB0.out.size))) hpk.1
          unfold gov at HMM
          have HMC2 : Hid (_) := HMM
          have HBR : Hid (Below w.heap.size w wr) := hbr
          clear HMM hbz hbr hp1 hnl hn1 hpk hmp hpf HM hz hrow f0_ f1_ f2_ f3_ hsl
          rw [HGC.out]
          go_wp2_with fail
          refine Calls.mono HMC2.out ?_
          rintro e w3 ⟨rfl, hb3⟩
          have hb3r : Below wr.heap.size wr w3 := HBZ.out.trans (hb3.mono HBZ.out.size)
          have hs3 : wr.heap.size < w3.heap.size := by have := hb3.size; simp at this; omega
          obtain ⟨w4, hw4⟩ : ∃ w4, w4 = w3.alloc (.cells #[.string (ftS z.parts), .int .i64 z.ser] 99) := ⟨_, rfl⟩
          have hb4 : Below w3.heap.size w3 w4 := by rw [hw4]; exact (Below.refl _ _).alloc (Nat.le_refl _) _
          have hs4 : w4.heap.size = w3.heap.size + 1 := by rw [hw4]; simp
          have hk4 : w4.heap[w3.heap.size]? = some (.cells #[.string (ftS z.parts), .int .i64 z.ser] 99 (0, 0)) := by rw [hw4]; exact heap_alloc_new w3 _
          have hb4r : Below wr.heap.size wr w4 := hb3r.trans (hb4.mono hb3r.size)
          have HK4 : Hid (_ = _) := hk4
          have HM4 : Hid (MpV w.heap.size mq D w4) := HMD.out.kept hb4r
          have HO4 : Hid (∃ sl, GsO w0 wc.heap.size w4 ao q qc (outK (f1 xs n ys m) (xs ++ ys) k) sl) := ⟨_, HO.out.choose_spec.below hb4r⟩
          have HR4 : Hid (GsO w0 w.heap.size w4 ac (n + m) cc (xs ++ ys) slc) := HR.out.below hb4r
          have HZ4 : Hid (wc.heap.size ≤ w4.heap.size) := Nat.le_trans HZ.out hb4r.size
          have HB4 : Hid (Below w.heap.size w w4) := HBR.out.trans (hb4r.mono HBR.out.size)
          have HS4 : Hid (w4.heap.size = w3.heap.size + 1 ∧ wr.heap.size < w3.heap.size) := ⟨hs4, hs3⟩
          have HOB : Hid (∀ g, ao = some ⟨g, 0, none⟩ → wc.heap.size ≤ g ∧ g < wr.heap.size) := fun g e => ownsRow_in HO.out.choose_spec.row g e
          have k0 : w4.cell? ⟨w3.heap.size, 0, none⟩ = some (.string (ftS z.parts)) := (cell_of_row _ _ 0 _ _ (0, 0) hk4).trans rfl
          have k1 : w4.cell? ⟨w3.heap.size, 1, none⟩ = some (.int .i64 z.ser) := (cell_of_row _ _ 1 _ _ (0, 0) hk4).trans rfl
          have HW4 : Hid (_ = _) := hw4
          clear hw4 hb3 hb3r hs3 hb4 hs4 hk4 hb4r HBZ HMD HO HR HBR HZ d0 d1 d2 d3 HMC2
          go_upto_region 14 with fail
          rw [← HW4.out]
          clear HW4
          obtain ⟨hb, q1, q2, q3, s, t, r, hV, hH, hY⟩ : ∃ hb q1 q2 q3 s t r, D.atKey (.string (kb z)) (.held (.agg #[.slice none 0 0, .int .i64 0, .int .i64 0, .int .i64 0])) = .held (.agg #[.slice q1 q2 q3, .int .i64 s, .int .i64 t, .int .i64 r]) ∧ has D (.string (kb z)) = hb ∧ ((hb = true ∧ ∃ y, f2 (f1 xs n ys m) (xs ++ ys) k (kb z) = some y ∧ s = y.ser ∧ t = y.tm ∧ r = y.rs ∧ Pts w0 q1 q2 y.parts ∧ (q1 = none → q3 = 0) ∧ q2 ≤ 1048576) ∨ (hb = false ∧ f2 (f1 xs n ys m) (xs ++ ys) k (kb z) = none)) := by
            cases e : f2 (f1 xs n ys m) (xs ++ ys) k (kb z) with
            | none =>
              obtain ⟨h1, h2⟩ := HPF.out.no _ e
              exact ⟨false, none, 0, 0, 0, 0, 0, h2 _, h1, .inr ⟨rfl, rfl⟩⟩
            | some y =>
              obtain ⟨h1, an', nn', cn', h2, h3, h4, h5⟩ := HPF.out.yes _ _ e
              exact ⟨true, an', nn', cn', y.ser, y.tm, y.rs, h2 _, h1, .inl ⟨rfl, y, rfl, rfl, rfl, rfl, h3, h4, h5⟩⟩
          have HV : Hid (_ = _) := hV
          have HHB : Hid (_ = _) := hH
          have HY : Hid (_ ∨ _) := hY
          clear hV hH hY
          obtain ⟨w5, hw5⟩ : ∃ w5, w5 = w4.alloc (.cells #[.slice q1 q2 q3, .int .i64 s, .int .i64 t, .int .i64 r] 63) := ⟨_, rfl⟩
          have hb5 : Below w4.heap.size w4 w5 := by rw [hw5]; exact (Below.refl _ _).alloc (Nat.le_refl _) _
          have hv5 : w5.heap[w4.heap.size]? = some (.cells #[.slice q1 q2 q3, .int .i64 s, .int .i64 t, .int .i64 r] 63 (0, 0)) := by rw [hw5]; exact heap_alloc_new w4 _
          have HX5 : Hid (w5.heap[w3.heap.size]? = some (.cells #[.string (ftS z.parts), .int .i64 z.ser] 99 (0, 0)) ∧ w5.heap[w4.heap.size]? = some (.cells #[.slice q1 q2 q3, .int .i64 s, .int .i64 t, .int .i64 r] 63 (0, 0))) := ⟨(hb5.block _ (by have := HS4.out; omega)).trans HK4.out, hv5⟩
          have HM5 : Hid (MpV w.heap.size mq D w5) := HM4.out.kept hb5
          have HO5 : Hid (∃ sl, GsO w0 wc.heap.size w5 ao q qc (outK (f1 xs n ys m) (xs ++ ys) k) sl) := ⟨_, HO4.out.choose_spec.below hb5⟩
          have HR5 : Hid (GsO w0 w.heap.size w5 ac (n + m) cc (xs ++ ys) slc) := HR4.out.below hb5
          have HZ5 : Hid (wc.heap.size ≤ w5.heap.size) := Nat.le_trans HZ4.out hb5.size
          have HB5 : Hid (Below w.heap.size w w5) := HB4.out.trans (hb5.mono HB4.out.size)
          have HS5 : Hid (w4.heap.size < w5.heap.size) := by show _ < _; rw [hw5]; simp
          have HW5 : Hid (_ = _) := hw5
          clear hw5 hb5 hv5
          go_upto_region 15 with (at_lookup; refine wpList_lookupV _ rfl _ _ 95 rfl 99 63 kLaw Tryd.underlying95 (zeroGone _) _ mq _ rfl HM4.out _ _ rfl HKZ.out.at _ _ HV.out HHB.out ?_)
          rw [← HW5.out]
          clear HW5 HM4 HO4 HR4 HB4 HZ4 HV HHB HK4
          cases hb with
          | true =>
            obtain ⟨y, hy1, rfl, rfl, rfl, hy2⟩ : ∃ y, f2 (f1 xs n ys m) (xs ++ ys) k (kb z) = some y ∧ s = y.ser ∧ t = y.tm ∧ r = y.rs ∧ Pts w0 q1 q2 y.parts ∧ (q1 = none → q3 = 0) ∧ q2 ≤ 1048576 := by
              rcases HY.out with ⟨_, h⟩ | ⟨h, _⟩
              · exact h
              · cases h
            have HCE : Hid (outK (f1 xs n ys m) (xs ++ ys) (k + 1) = outK (f1 xs n ys m) (xs ++ ys) k ++ [y]) := by show _ = _; rw [HCH.out, hy1]
            have HY2 : Hid (_ ∧ _ ∧ _) := hy2
            clear hy1 hy2 HY HCH
            have u0 : w5.cell? ⟨w4.heap.size, 0, none⟩ = some (.slice q1 q2 q3) := (cell_of_row _ _ 0 _ _ (0, 0) HX5.out.2).trans rfl
            have u1 : w5.cell? ⟨w4.heap.size, 1, none⟩ = some (.int .i64 y.ser) := (cell_of_row _ _ 1 _ _ (0, 0) HX5.out.2).trans rfl
            have u2 : w5.cell? ⟨w4.heap.size, 2, none⟩ = some (.int .i64 y.tm) := (cell_of_row _ _ 2 _ _ (0, 0) HX5.out.2).trans rfl
            have u3 : w5.cell? ⟨w4.heap.size, 3, none⟩ = some (.int .i64 y.rs) := (cell_of_row _ _ 3 _ _ (0, 0) HX5.out.2).trans rfl
            obtain ⟨sl, hgs⟩ := HO5.out
            have hal : Below w5.heap.size w5 (w5.alloc (.cells #[.slice q1 q2 q3, .int .i64 y.ser, .int .i64 y.tm, .int .i64 y.rs] 63)) := (Below.refl _ _).alloc (Nat.le_refl _) _
            have HG6 : Hid (GsO w0 wc.heap.size (w5.alloc (.cells #[.slice q1 q2 q3, .int .i64 y.ser, .int .i64 y.tm, .int .i64 y.rs] 63)) ao q qc (outK (f1 xs n ys m) (xs ++ ys) k) sl) := hgs.below hal
            have HR6 : Hid ((w5.alloc (.cells #[.slice q1 q2 q3, .int .i64 y.ser, .int .i64 y.tm, .int .i64 y.rs] 63)).ownsRow wc.heap.size 63 4 (.slice ao q qc) q (flG (outK (f1 xs n ys m) (xs ++ ys) k) sl q)) := HG6.out.row
            have hk6 : (w5.alloc (.cells #[.slice q1 q2 q3, .int .i64 y.ser, .int .i64 y.tm, .int .i64 y.rs] 63)).heap[w3.heap.size]? = some (.cells #[.string (ftS z.parts), .int .i64 z.ser] 99 (0, 0)) := (hal.block _ (by have := HS4.out; have := HS5.out; omega)).trans HX5.out.1
            have hm6 : MpV w.heap.size mq D (w5.alloc (.cells #[.slice q1 q2 q3, .int .i64 y.ser, .int .i64 y.tm, .int .i64 y.rs] 63)) := MpV.below HM5.out hal
            have hr6 : GsO w0 w.heap.size (w5.alloc (.cells #[.slice q1 q2 q3, .int .i64 y.ser, .int .i64 y.tm, .int .i64 y.rs] 63)) ac (n + m) cc (xs ++ ys) slc := HR5.out.below hal
            have hb6 : Below w.heap.size w (w5.alloc (.cells #[.slice q1 q2 q3, .int .i64 y.ser, .int .i64 y.tm, .int .i64 y.rs] 63)) := HB5.out.trans (hal.mono HB5.out.size)
            have HAPP : Hid (∀ a7 c7 w7, w7.ownsRow wc.heap.size 63 4 (.slice a7 (q + 1) c7) (q + 1) (flG (outK (f1 xs n ys m) (xs ++ ys) k) sl q ++ [.slice q1 q2 q3, .int .i64 y.ser, .int .i64 y.tm, .int .i64 y.rs]) → (w5.alloc (.cells #[.slice q1 q2 q3, .int .i64 y.ser, .int .i64 y.tm, .int .i64 y.rs] 63)).grownBy w7 (Value.slice ao q qc).ownBlock → Hid (∃ sl, GsO w0 wc.heap.size w7 a7 (q + 1) c7 (outK (f1 xs n ys m) (xs ++ ys) (k + 1)) sl) ∧ Hid (MpV w.heap.size mq D w7) ∧ Hid (GsO w0 w.heap.size w7 ac (n + m) cc (xs ++ ys) slc) ∧ Hid (Below w.heap.size w w7 ∧ wc.heap.size ≤ w7.heap.size) ∧ Hid (w7.heap[w3.heap.size]? = some (.cells #[.string (ftS z.parts), .int .i64 z.ser] 99 (0, 0)))) := by
              intro a7 c7 w7 hv7 hg7
              refine ⟨⟨fun j => if j = q then (q1, q2, q3) else sl j, ?_⟩, MpV.grown hm6 HR6.out hg7, ⟨hr6.len, ownsRow_keepS (S := fun i => (Value.slice ao q qc).ownBlock = some i) hr6.row ⟨hg7.os, hg7.tape, hg7.output, hg7.size, fun i hi hd => hg7.block i hi (fun e => hd e.symm)⟩ (fun g e _ e2 => ?_), hr6.pts⟩, ⟨hb6.grown hg7 hb6.size (fun kx hx => by have := (HR6.out.lt kx hx).1; have := HWC.out; omega), Nat.le_trans (Nat.le_trans HZ5.out hal.size) hg7.size⟩, (hg7.block _ (Array.getElem?_eq_some_iff.1 hk6).1 (fun e => ?_)).trans hk6⟩
              · rw [HCE.out]
                exact HG6.out.appended HY2.out.1 HY2.out.2.1 HY2.out.2.2 hv7
              · have e3 := HOB.out _ (ownsRow_ownBlock HR6.out _ e2)
                have e4 := HAC.out _ e
                omega
              · have e2 := HOB.out _ (ownsRow_ownBlock HR6.out _ e.symm)
                have := HS4.out
                omega
            have hs15 := HB5.out.size
            have hcs : wc.heap.size ≤ w5.heap.size := HZ5.out
            clear hgs hal hk6 hm6 hr6 hb6 HM5 HO5 HB5 HR5 HX5 HCE HG6 HY2
            go_upto_region 17 with (at_builtin; go_loud (refine wpList_append_own _ rfl (.tmp 51) (.tmp 53) 34 rfl wc.heap.size 63 i0 _ 4 48 Tryd.underlying34 hi hz0 hz1 hz2 rfl (by decide) _ q _ rfl HR6.out ⟨w5.heap.size, 0, none⟩ 1 1 [.slice q1 q2 q3, .int .i64 y.ser, .int .i64 y.tm, .int .i64 y.rs] rfl rfl (World.news_of_block (heap_alloc_new w5 (.cells #[.slice q1 q2 q3, .int .i64 y.ser, .int .i64 y.tm, .int .i64 y.rs] 63))) (by intro u hu; simp only [List.mem_cons, List.not_mem_nil, or_false] at hu; rcases hu with rfl | rfl | rfl | rfl <;> rfl) (by unfold maxLen; omega) (by omega) (by simp; omega) ?_; intro v7 w7 hv7 hg7 hs7; obtain ⟨g7, c7, rfl⟩ := ownsRow_succG hv7; have HN := HAPP.out (some ⟨g7, 0, none⟩) c7 w7 hv7 hg7; clear hv7 hg7 hs7 HAPP))
            have k0 : w7.cell? ⟨w3.heap.size, 0, none⟩ = some (.string (ftS z.parts)) := (cell_of_row _ _ 0 _ _ (0, 0) HN.2.2.2.2.out).trans rfl
            have k1 : w7.cell? ⟨w3.heap.size, 1, none⟩ = some (.int .i64 z.ser) := (cell_of_row _ _ 1 _ _ (0, 0) HN.2.2.2.2.out).trans rfl
            have HN2 : Hid (_) := HN
            clear HN
            go_wp2_with (at_delete; go_loud (refine wpList_delete_own _ rfl _ _ 95 99 rfl 63 kLaw Tryd.underlying95 RV w.heap.size mq _ rfl (HN2.out.2.1.out) _ _ rfl HKZ.out.at ?_; intro w8 hm8 ht8))
            have HM8 : Hid (∃ D t, t ≤ n + m ∧ MpV w.heap.size t D w8 ∧ MpF w0 D (f2 (f1 xs n ys m) (xs ++ ys) (k + 1))) := ⟨_, mq, hmq, hm8, by rw [HF2.out]; exact HPF.out.del _⟩
            have HB8 : Below w.heap.size w w8 := HN2.out.2.2.2.1.out.1.grown ht8.grown HN2.out.2.2.2.1.out.1.size (fun kx hx => by cases hx; exact Nat.le_refl _)
            have HO8 : Hid (∃ sl, GsO w0 wc.heap.size w8 (some ⟨g7, 0, none⟩) (q + 1) c7 (outK (f1 xs n ys m) (xs ++ ys) (k + 1)) sl) := by
              obtain ⟨sm, hsm⟩ := HN2.out.1.out
              exact ⟨sm, hsm.turned HN2.out.2.1.out ht8⟩
            have HR8 : Hid (GsO w0 w.heap.size w8 ac (n + m) cc (xs ++ ys) slc) := HN2.out.2.2.1.out.turned HN2.out.2.1.out ht8
            have HZ8 : Hid (wc.heap.size ≤ w8.heap.size) := Nat.le_trans HN2.out.2.2.2.1.out.2 ht8.grown.size
            clear k0 k1 hm8 ht8 HN2
            go_roundw
            case rel => exact ⟨k + 1, _, q + 1, c7, by omega, by omega, by go_num, rfl, HO8.out, (by show GsO _ _ _ _ _ _ _ _; rw [← HGC.out]; exact HR8.out), HM8.out, HB8, HZ8.out⟩
            case measure => simp [intOf]; omega
          | false =>
            have hno : f2 (f1 xs n ys m) (xs ++ ys) k (kb z) = none := by
              rcases HY.out with ⟨h, _⟩ | ⟨_, h⟩
              · cases h
              · exact h
            have HCE : Hid (outK (f1 xs n ys m) (xs ++ ys) (k + 1) = outK (f1 xs n ys m) (xs ++ ys) k) := by show _ = _; rw [HCH.out, hno, List.append_nil]
            have HM8 : Hid (∃ D t, t ≤ n + m ∧ MpV w.heap.size t D w5 ∧ MpF w0 D (f2 (f1 xs n ys m) (xs ++ ys) (k + 1))) := ⟨_, mq, hmq, HM5.out, by
              rw [HF2.out]
              refine HPF.out.congr (fun r => ?_)
              unfold FunK.set
              by_cases e : r = kb z
              · rw [if_pos e, e]; exact hno
              · rw [if_neg e]⟩
            have HO8 : Hid (∃ sl, GsO w0 wc.heap.size w5 ao q qc (outK (f1 xs n ys m) (xs ++ ys) (k + 1)) sl) := by show ∃ sl, _; rw [HCE.out]; exact HO5.out
            clear hno HY HCH HCE HM5 HO5 HX5
            go_wp2_with fail
            go_roundw
            case rel => exact ⟨k + 1, ao, q, qc, by omega, by omega, by go_num, rfl, HO8.out, (by show GsO _ _ _ _ _ _ _ _; rw [← HGC.out]; exact HR5.out), HM8.out, HB5.out, HZ5.out⟩
            case measure => simp [intOf]; omega
        · have hkm : k = n + m := by omega
          subst hkm
          have hni : ¬ (((n + m : Nat) : Int) < ((n + m : Nat) : Int)) := by omega
          have hni2 : ¬ ((n : Int) + (m : Int) < (n : Int) + (m : Int)) := by omega
          clear hlt
          go_wp2
          go_ret
          obtain ⟨sl, h1⟩ := HO.out
          refine ⟨ao, q, qc, rfl, ⟨sl, ?_⟩, hbr⟩
          have h2 := outK_is xs ys (by rw [HLN.out.1]; exact HDX.out) (by rw [HLN.out.2]; exact HDY.out) (by rw [HLN.out.1]; exact HRS.out)
          rw [HLN.out.1, HLN.out.2] at h2
          rw [← h2]
          exact h1.lower HWC.out

end Go.Proofs.YtbfjkmlmnhphoaaDoor
