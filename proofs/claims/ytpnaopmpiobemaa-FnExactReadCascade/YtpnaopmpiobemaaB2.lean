import Derived.Test.YtpnaopmpiobemaaB1
import Derived.BigQuiet
namespace Go.Proofs.Ytpnaopmpiobemaa
open Go.RowKit

def Stp (g : Nat) (o : Obj) (w w' : World) : Prop := w'.heap[g]? = some o ∧ (∀ j, j ≠ g → w'.heap[j]? = w.heap[j]?) ∧ w'.heap.size = w.heap.size ∧ Below g w w'
theorem pkL_same (bs : List Int) (k m : Nat) (h : bs.getD k 0 = 0) : pkL bs (k + 1) m = pkL bs k m := by
  unfold pkL
  refine List.map_congr_left fun i _ => ?_
  by_cases e : i = k / 8
  · subst e; rw [byV_next, h]; simp
  · exact byV_other bs k i e
theorem Own.shape' {B : Nat} {w : World} {a : Option Addr} {n cap : Nat} {bs : List Int} (h : Own B w a n cap bs) (hn : 0 < n) : ∃ d, a = some ⟨d, 0, none⟩ ∧ B ≤ d := by
  obtain ⟨d, hd⟩ := h.shape hn
  subst hd
  exact ⟨d, rfl, h.base.1⟩
theorem results_none {fn : Func} (h : fn.results = #[]) (tmps : Array Value) (w : World) : (results fn tmps).run Try.prog w = .ok (.tuple #[]) w := by
  simp [results, h]
theorem bodyPost_end {f : Func} {K : Ending → World → Prop} {a : Act} {w : World} (h : f.results = #[]) (hd : a.defers = []) (hK : K (.returned (.tuple #[])) w) : bodyPost Try.prog f K .normal a w := by
  unfold bodyPost
  first | exact bodyPost_ret (results_none h _ _) hd hK | (simp [results_none h, hd]; exact hK) | (simp [results, h, hd]; exact hK)

set_option maxRecDepth 10000 in
set_option maxHeartbeats 1000000 in
theorem left_any (g : Nat) (a : Option Addr) (m c k : Nat) (T : TypeId) (w : World) (hg : w.heap[g]? = some (.cells #[.slice a m c, .int .i64 k] T)) (hm : m ≤ 1048576) (hk : k ≤ 8388608) :
    Calls Try.prog 93 #[.pointer (some ⟨g, 0, none⟩)] w fun e w' => e = .returned (.int .i64 ((m : Int) * 8 - k)) ∧ w'.heap = w.heap ∧ Below w.heap.size w w' := by
  have hgs : g < w.heap.size := (Array.getElem?_eq_some_iff.1 hg).1
  have j1 : w.cell? ⟨g, 1, none⟩ = some (.int .i64 k) := (cell_of_row w g 1 _ T (0, 0) hg).trans rfl
  have j0 : w.cell? ⟨g, 0, none⟩ = some (.slice a m c) := (cell_of_row w g 0 _ T (0, 0) hg).trans rfl
  clear hg
  go_enter Try.func93, Try.ntmps93
  go_upto_region 1 with fail
  go_quiet (fail)
  go_wp2
  go_ret
  exact ⟨rfl, rfl, below_drewN (Below.refl _ _) _⟩

set_option maxRecDepth 10000 in
set_option maxHeartbeats 1000000 in
theorem step_any (g : Nat) (a : Option Addr) (m c k : Nat) (T : TypeId) (w : World) (hg : w.heap[g]? = some (.cells #[.slice a m c, .int .i64 k] T)) (hk : k ≤ 8388608) :
    Calls Try.prog 94 #[.pointer (some ⟨g, 0, none⟩)] w fun e w' => e = .returned (.tuple #[.int .i64 ((k / 8 : Nat) : Int), .int .u8 ((2 ^ (7 - k % 8) : Nat) : Int)]) ∧ Stp g (.cells #[.slice a m c, .int .i64 ((k + 1 : Nat) : Int)] T) w w' := by
  have f1 : w.frozen? ⟨g, 1, none⟩ = false := frozen_of_row w g 1 _ T hg
  have hgs : g < w.heap.size := (Array.getElem?_eq_some_iff.1 hg).1
  have j1 : w.cell? ⟨g, 1, none⟩ = some (.int .i64 k) := (cell_of_row w g 1 _ T (0, 0) hg).trans rfl
  have j0 : w.cell? ⟨g, 0, none⟩ = some (.slice a m c) := (cell_of_row w g 0 _ T (0, 0) hg).trans rfl
  have HG : Hid (_ = _) := hg
  have HPW : Hid ((128 : Int) / 2 ^ (k % 8) = ((2 ^ (7 - k % 8) : Nat) : Int)) := by
    show _ = _
    have hr : k % 8 < 8 := Nat.mod_lt _ (by decide)
    generalize k % 8 = r at hr
    match r, hr with
    | 0, _ | 1, _ | 2, _ | 3, _ | 4, _ | 5, _ | 6, _ | 7, _ => rfl
  clear hg
  go_enter Try.func94, Try.ntmps94
  go_upto_region 1 with fail
  go_quiet (fail)
  go_wp2
  have e1 : ((k : Int) + 1) = ((k + 1 : Nat) : Int) := by omega
  have hq := heap_setCell_same (w.drewN nq) g 1 _ T (.int .i64 ((k : Int) + 1)) HG.out
  go_ret2
  refine ⟨?_, hq.trans (by rw [e1]; rfl), fun j hj => Below.heap_setCell _ _ _ _ hj, by simp [World.setCell], (below_drewN (Below.refl g w) nq).setCell (by exact Nat.le_refl g) _⟩
  rw [← HPW.out]
  simp

set_option maxRecDepth 10000 in
set_option maxHeartbeats 4000000 in
theorem bit_any (g : Nat) (a : Option Addr) (m c k : Nat) (bs : List Int) (on : Bool) (w : World) (hb : Bits bs) (hg : w.heap[g]? = some (.cells #[.slice a m c, .int .i64 k] 102)) (ho : Own (g + 1) w a m c (pkL bs k m)) (hm : m = (k + 7) / 8) (hk : k < 8388600) (hon : on = decide (bs.getD k 0 = 1)) :
    Calls Try.prog 66 #[.pointer (some ⟨g, 0, none⟩), .bool on] w fun e w' => e = .returned (.tuple #[]) ∧ ∃ a' c', w'.heap[g]? = some (.cells #[.slice a' ((k + 8) / 8) c', .int .i64 ((k + 1 : Nat) : Int)] 102) ∧ Own (g + 1) w' a' ((k + 8) / 8) c' (pkL bs (k + 1) ((k + 8) / 8)) ∧ Below g w w' := by
  obtain ⟨i0, hi, hz0, hz1, hz2⟩ := info_parts Try.info5
  have HG : Hid (_ = _) := hg
  have HO : Hid (Own (g + 1) w a m c (pkL bs k m)) := ho
  have hgs : g < w.heap.size := (Array.getElem?_eq_some_iff.1 hg).1
  have hm1 : m ≤ 1048576 := by omega
  have HON : Hid (on = decide (bs.getD k 0 = 1)) := hon
  clear hg ho hon
  go_enter Try.func66, Try.ntmps66
  go_wp2_with fail
  refine (left_any g a m c k 102 _ HG.out hm1 (by omega)).mono ?_
  rintro e w1 ⟨rfl, hh1, hb1⟩
  have HG1 : Hid (w1.heap[g]? = some (.cells #[.slice a m c, .int .i64 k] 102)) := by show _ = _; rw [hh1]; exact HG.out
  have HO1 : Hid (Own (g + 1) w1 a m c (pkL bs k m)) := HO.out.same fun j _ => by rw [hh1]
  have HB1 : Hid (Below g w w1) := hb1.mono (by omega)
  have hg1 : g < w1.heap.size := by rw [hh1]; exact hgs
  clear hh1 hb1 HG HO hgs
  by_cases hz : m * 8 = k
  · have hz' : (m : Int) * 8 - (k : Int) = 0 := by omega
    have j0 : w1.cell? ⟨g, 0, none⟩ = some (.slice a m c) := (cell_of_row w1 g 0 _ 102 (0, 0) HG1.out).trans rfl
    have hor := HO1.out
    have HM : Hid ((k + 8) / 8 = m + 1) := by show _ = _; omega
    have HZK : Hid (k ≤ 8 * m) := by show _ ≤ _; omega
    have HMK : Hid (m = (k + 7) / 8) := hm
    clear hm
    rw [hz']
    have HPB : Hid (∀ i, 0 ≤ (pkL bs k m).getD i 0 ∧ (pkL bs k m).getD i 0 ≤ 255) := pkL_byte bs hb k m
    go_wp2_with (at_builtin; refine wpList_append_own _ rfl _ _ 41 rfl (g + 1) 5 i0 (.int .u8 0) 1 1 Try.underlying41 hi hz0 hz1 hz2 rfl (by decide) _ _ _ rfl (hor.row.alloc _) ⟨w1.heap.size, 0, none⟩ 1 1 [.int .u8 0] rfl rfl (cell_one_new _ _ _) (by intro u hu; simp at hu; subst hu; rfl) (by unfold maxLen; omega) (by omega) (by simp; omega) ?_; intro v2 w2 hown2 hgrow2 _; obtain ⟨a2, c2, rfl, ho2⟩ := own_appended (xs := pkL bs k m) (ys := [0]) hown2 HPB.out (bytes_of_all (by decide)); have hbl : Below (g + 1) w1 w2 := ((Below.refl (g + 1) w1).alloc hg1 _).grown hgrow2 (by simp; omega) (fun j hj => (hor.row.lt j hj).1); have HG2 : Hid (w2.heap[g]? = some (.cells #[.slice a m c, .int .i64 k] 102)) := (hbl.block g (Nat.lt_succ_self _)).trans HG1.out; have hg2 : g < w2.heap.size := (Array.getElem?_eq_some_iff.1 HG2.out).1; have j2 : w2.cell? ⟨g, 0, none⟩ = some (.slice a m c) := (cell_of_row w2 g 0 _ 102 (0, 0) HG2.out).trans rfl; have f2 : w2.frozen? ⟨g, 0, none⟩ = false := frozen_of_row w2 g 0 _ 102 HG2.out; have HO2 : Hid (_) := ho2; clear ho2 hown2 hgrow2)
    have ho2 := HO2.out
    rw [pkL_more bs k m HZK.out] at ho2
    obtain ⟨w4, hw4⟩ : ∃ w4, w4 = w2.setCell ⟨g, 0, none⟩ (.slice a2 (m + 1) c2) := ⟨_, rfl⟩
    have HG4 : Hid (w4.heap[g]? = some (.cells #[.slice a2 (m + 1) c2, .int .i64 k] 102)) := by show _ = _; rw [hw4]; exact (heap_setCell_same w2 g 0 _ 102 _ HG2.out).trans rfl
    have HO4 : Hid (Own (g + 1) w4 a2 (m + 1) c2 (pkL bs k (m + 1))) := by rw [hw4]; exact ho2.same fun j hj => Below.heap_setCell _ _ _ _ (by show j ≠ g; omega)
    have HB4 : Hid (Below g w w4) := by rw [hw4]; exact (HB1.out.trans (hbl.mono (Nat.le_succ _))).setCell (Nat.le_refl _) _
    have HW4 : Hid (_ = _) := hw4
    clear hw4 HG1 HO1 HB1 HG2 HO2 HPB ho2 hor hbl j0
    rw [← HW4.out]
    clear HW4 j2 f2 hi hz0 hz1 hz2
    obtain ⟨M, hMe⟩ : ∃ M, M = m + 1 := ⟨_, rfl⟩
    rw [← hMe] at HM HG4 HO4 ⊢
    have hMs : M ≤ 1048577 := by omega
    clear hMe hz hz' HMK hm1
    obtain ⟨a4, c4, ha4, hc4⟩ : ∃ a4 c4, a4 = a2 ∧ c4 = c2 := ⟨_, _, rfl, rfl⟩
    subst ha4 hc4
    have hs4 : g < w4.heap.size := (Array.getElem?_eq_some_iff.1 HG4.out).1
    go_wp2_with fail
    refine (step_any g a4 M c4 k 102 _ HG4.out (by omega)).mono ?_
    rintro e w5 ⟨rfl, hst⟩
    have HST : Hid (Stp g _ w4 w5) := hst
    have HO5 : Hid (Own (g + 1) w5 a4 M c4 (pkL bs k M)) := HO4.out.same fun j hj => HST.out.2.1 j (by omega)
    have HB5 : Hid (Below g w w5) := HB4.out.trans HST.out.2.2.2
    have HG5 : Hid (w5.heap[g]? = some (.cells #[.slice a4 M c4, .int .i64 ((k + 1 : Nat) : Int)] 102)) := HST.out.1
    clear hst HST
    cases on with
    | false =>
      have HPK : Hid (pkL bs k M = pkL bs (k + 1) M) := (pkL_same bs k M (by have := hb k; have := of_decide_eq_false HON.out.symm; omega)).symm
      clear HON
      go_wp2
      try simp only [Exit.inBlock, Exit.then]
      exact bodyPost_end rfl rfl ⟨rfl, a4, c4, by rw [HM.out]; exact HG5.out, by rw [HM.out, ← HPK.out]; exact HO5.out, HB5.out⟩
    | true =>
      have hbit : bs.getD k 0 = 1 := of_decide_eq_true HON.out.symm
      have hMk : k / 8 < M := by have := HM.out; omega
      obtain ⟨d, hd, hdb⟩ := HO5.out.shape' (by omega)
      subst hd
      have hd5 : d < w5.heap.size := ownsRow_lt HO5.out.row
      have j0 : w5.cell? ⟨g, 0, none⟩ = some (.slice (some ⟨d, 0, none⟩) M c4) := (cell_of_row w5 g 0 _ 102 (0, 0) HG5.out).trans rfl
      have hg5 : g < w5.heap.size := (Array.getElem?_eq_some_iff.1 HG5.out).1
      obtain ⟨x, hx⟩ : ∃ x, x = byV bs k (k / 8) := ⟨_, rfl⟩
      have jd : w5.cell? ⟨d, k / 8, none⟩ = some (.int .u8 x) := by
        rw [HO5.out.row.cellAt (k / 8) (by omega), hx]
        simp [pkL, hMk]
      have fd : w5.frozen? ⟨d, k / 8, none⟩ = false := HO5.out.row.frozenAt (k / 8)
      have hor : bits .or .u8 x ((2 ^ (7 - k % 8) : Nat) : Int) = byV bs (k + 1) (k / 8) := by
        have := or_bit bs hb k
        rw [hbit, Int.one_mul, ← hx] at this
        rw [← this]; simp
      obtain ⟨y, hy⟩ : ∃ y, y = byV bs (k + 1) (k / 8) := ⟨_, rfl⟩
      rw [← hy] at hor
      obtain ⟨mk, hmk⟩ : ∃ mk : Int, mk = ((2 ^ (7 - k % 8) : Nat) : Int) := ⟨_, rfl⟩
      have HMK : Hid (mk = ((2 ^ (7 - k % 8) : Nat) : Int)) := hmk
      rw [← hmk] at hor ⊢
      obtain ⟨q, hq⟩ : ∃ q : Nat, q = k / 8 := ⟨_, rfl⟩
      have HQ : Hid (q = k / 8) := hq
      have HY : Hid (y = byV bs (k + 1) (k / 8)) := hy
      have hqM : (q : Int) < (M : Int) := by omega
      rw [← hq] at jd fd ⊢
      have HS : Hid (Own (g + 1) (w5.setCell ⟨d, q, none⟩ (.int .u8 y)) (some ⟨d, 0, none⟩) M c4 (pkL bs (k + 1) M)) := by
        refine ⟨?_, pkL_byte bs hb (k + 1) M⟩
        have h1 := (HO5.out.row.stored q (.int .u8 y)).1
        rw [← List.map_set, HQ.out, HY.out, pkL_set] at h1
        rw [HQ.out, HY.out]; exact h1
      have HG6 : Hid ((w5.setCell ⟨d, q, none⟩ (.int .u8 y)).heap[g]? = some (.cells #[.slice (some ⟨d, 0, none⟩) M c4, .int .i64 ((k + 1 : Nat) : Int)] 102)) := (Below.heap_setCell _ _ _ _ (by show g ≠ d; omega)).trans HG5.out
      have HB6 : Hid (Below g w (w5.setCell ⟨d, q, none⟩ (.int .u8 y))) := HB5.out.setCell (by show g ≤ d; omega) _
      clear hx hy hmk hq HO5 HG5 HB5 HO4 HG4 HB4 hbit HON hMk
      go_wp2
      try simp only [Exit.inBlock, Exit.then]
      exact bodyPost_end rfl rfl ⟨rfl, _, c4, by rw [HM.out]; exact HG6.out, by rw [HM.out]; exact HS.out, HB6.out⟩
  · have hz' : ¬ ((m : Int) * 8 - (k : Int) = 0) := by omega
    have HM : Hid ((k + 8) / 8 = m) := by show _ = _; omega
    have HG4 := HG1
    have HO4 := HO1
    have HB4 := HB1
    clear HG1 HO1 HB1 hi hz0 hz1 hz2 hm
    go_upto_region 2 with fail
    obtain ⟨M, hMe⟩ : ∃ M, M = m := ⟨_, rfl⟩
    obtain ⟨a4, c4, w4, ha4, hc4, hw4⟩ : ∃ a4 c4 w4, a4 = a ∧ c4 = c ∧ w4 = w1 := ⟨_, _, _, rfl, rfl, rfl⟩
    subst ha4 hc4 hw4 hMe
    clear hz hz'
    have hs4 : g < w4.heap.size := (Array.getElem?_eq_some_iff.1 HG4.out).1
    go_wp2_with fail
    refine (step_any g a4 M c4 k 102 _ HG4.out (by omega)).mono ?_
    rintro e w5 ⟨rfl, hst⟩
    have HST : Hid (Stp g _ w4 w5) := hst
    have HO5 : Hid (Own (g + 1) w5 a4 M c4 (pkL bs k M)) := HO4.out.same fun j hj => HST.out.2.1 j (by omega)
    have HB5 : Hid (Below g w w5) := HB4.out.trans HST.out.2.2.2
    have HG5 : Hid (w5.heap[g]? = some (.cells #[.slice a4 M c4, .int .i64 ((k + 1 : Nat) : Int)] 102)) := HST.out.1
    clear hst HST
    cases on with
    | false =>
      have HPK : Hid (pkL bs k M = pkL bs (k + 1) M) := (pkL_same bs k M (by have := hb k; have := of_decide_eq_false HON.out.symm; omega)).symm
      clear HON
      go_wp2
      try simp only [Exit.inBlock, Exit.then]
      exact bodyPost_end rfl rfl ⟨rfl, a4, c4, by rw [HM.out]; exact HG5.out, by rw [HM.out, ← HPK.out]; exact HO5.out, HB5.out⟩
    | true =>
      have hbit : bs.getD k 0 = 1 := of_decide_eq_true HON.out.symm
      have hMk : k / 8 < M := by have := HM.out; omega
      obtain ⟨d, hd, hdb⟩ := HO5.out.shape' (by omega)
      subst hd
      have hd5 : d < w5.heap.size := ownsRow_lt HO5.out.row
      have j0 : w5.cell? ⟨g, 0, none⟩ = some (.slice (some ⟨d, 0, none⟩) M c4) := (cell_of_row w5 g 0 _ 102 (0, 0) HG5.out).trans rfl
      have hg5 : g < w5.heap.size := (Array.getElem?_eq_some_iff.1 HG5.out).1
      obtain ⟨x, hx⟩ : ∃ x, x = byV bs k (k / 8) := ⟨_, rfl⟩
      have jd : w5.cell? ⟨d, k / 8, none⟩ = some (.int .u8 x) := by
        rw [HO5.out.row.cellAt (k / 8) (by omega), hx]
        simp [pkL, hMk]
      have fd : w5.frozen? ⟨d, k / 8, none⟩ = false := HO5.out.row.frozenAt (k / 8)
      have hor : bits .or .u8 x ((2 ^ (7 - k % 8) : Nat) : Int) = byV bs (k + 1) (k / 8) := by
        have := or_bit bs hb k
        rw [hbit, Int.one_mul, ← hx] at this
        rw [← this]; simp
      obtain ⟨y, hy⟩ : ∃ y, y = byV bs (k + 1) (k / 8) := ⟨_, rfl⟩
      rw [← hy] at hor
      obtain ⟨mk, hmk⟩ : ∃ mk : Int, mk = ((2 ^ (7 - k % 8) : Nat) : Int) := ⟨_, rfl⟩
      have HMK : Hid (mk = ((2 ^ (7 - k % 8) : Nat) : Int)) := hmk
      rw [← hmk] at hor ⊢
      obtain ⟨q, hq⟩ : ∃ q : Nat, q = k / 8 := ⟨_, rfl⟩
      have HQ : Hid (q = k / 8) := hq
      have HY : Hid (y = byV bs (k + 1) (k / 8)) := hy
      have hqM : (q : Int) < (M : Int) := by omega
      rw [← hq] at jd fd ⊢
      have HS : Hid (Own (g + 1) (w5.setCell ⟨d, q, none⟩ (.int .u8 y)) (some ⟨d, 0, none⟩) M c4 (pkL bs (k + 1) M)) := by
        refine ⟨?_, pkL_byte bs hb (k + 1) M⟩
        have h1 := (HO5.out.row.stored q (.int .u8 y)).1
        rw [← List.map_set, HQ.out, HY.out, pkL_set] at h1
        rw [HQ.out, HY.out]; exact h1
      have HG6 : Hid ((w5.setCell ⟨d, q, none⟩ (.int .u8 y)).heap[g]? = some (.cells #[.slice (some ⟨d, 0, none⟩) M c4, .int .i64 ((k + 1 : Nat) : Int)] 102)) := (Below.heap_setCell _ _ _ _ (by show g ≠ d; omega)).trans HG5.out
      have HB6 : Hid (Below g w (w5.setCell ⟨d, q, none⟩ (.int .u8 y))) := HB5.out.setCell (by show g ≤ d; omega) _
      clear hx hy hmk hq HO5 HG5 HB5 HO4 HG4 HB4 hbit HON hMk
      go_wp2
      try simp only [Exit.inBlock, Exit.then]
      exact bodyPost_end rfl rfl ⟨rfl, _, c4, by rw [HM.out]; exact HG6.out, by rw [HM.out]; exact HS.out, HB6.out⟩

end Go.Proofs.Ytpnaopmpiobemaa
