import Derived.Test.YtifdcfchliaipaaQL9
import Derived.Deep.RegionHeldLaw
import Derived.Deep.DeepCutAuto
namespace Go.Proofs.Ytifdcfchliaipaa
open Go.RowKit Go.Sort

theorem results_br {fn : Func} {t u : Tmp} (h : fn.results = #[.cell t 64, .tmp u]) (tmps : Array Value) (g : Nat) (ht : tmps.getD t undef = .pointer (some ⟨g, 0, none⟩)) (v : Value) (hv : tmps.getD u undef = v) (w : World) (c0 c1 : Value)
    (hb : w.heap[g]? = some (.cells #[c0, c1] 64 (0, 0))) : (results fn tmps).run Try.prog w = .ok (.tuple #[.agg #[c0, c1], v]) w := by
  have d0 : w.cell? ⟨g, 0, none⟩ = some c0 := (cell_of_row _ g 0 _ 64 (0, 0) hb).trans rfl
  have d1 : w.cell? ⟨g, 1, none⟩ = some c1 := (cell_of_row _ g 1 _ 64 (0, 0) hb).trans rfl
  clear hb
  have ht' : tmps[t]?.getD undef = .pointer (some ⟨g, 0, none⟩) := by rw [← ht]; simp
  have hv' : tmps[u]?.getD undef = v := by rw [← hv]; simp
  simp [results, h, go_sem, ht', hv', d0, d1]
theorem heap_set2 {w : World} {g t : Nat} {c0 c1 : Value} (h : w.heap[g]? = some (.cells #[c0, c1] t (0, 0))) (v0 v1 : Value) : ((w.setCell ⟨g, 0, none⟩ v0).setCell ⟨g, 1, none⟩ v1).heap[g]? = some (.cells #[v0, v1] t (0, 0)) :=
  heap_setCell_same _ _ 1 _ t _ (heap_setCell_same _ _ 0 _ t _ h)
theorem two_blocksQ (w : World) (o0 o1 : Obj) : ((w.alloc o0).alloc o1).heap[w.heap.size]? = some o0 ∧ ((w.alloc o0).alloc o1).heap[w.heap.size + 1]? = some o1 := by
  have s1 : (w.alloc o0).heap.size = w.heap.size + 1 := by simp
  refine ⟨(heap_alloc_old (w.alloc o0) o1 (by simp)).trans (heap_alloc_new w _), ?_⟩
  rw [← s1]; exact heap_alloc_new _ _

set_option maxHeartbeats 4000000 in
theorem extendedRoots_any : ∀ (N : Nat) (old : Int) (m n : Nat) (fl : Bool) (a : Option Addr) (l c : Nat) (ps : List Int) (w : World), n ≤ N → 0 < m → m ≤ n → n ≤ 1000 → U64 old → RowU w a l ps → l ≤ c → c ≤ 9223372036854775807 →
    Calls Try.prog 49 #[.agg #[.int .i64 m, .int .u64 old, .bool fl], .int .i64 n, .slice a l c] w fun e w' => e = .returned (.tuple #[.agg #[.int .u64 (bothR false old m n fl ps).1, .int .u64 (bothR false old m n fl ps).2.1], .bool (bothR false old m n fl ps).2.2]) ∧ Below w.heap.size w w' := by
  intro N
  induction N with
  | zero => intro old m n fl a l c ps w hN h0; omega
  | succ N ih =>
    intro old m n fl a l c ps w hN h0 hin hn ho h hc hcm
    obtain ⟨w1, hw1⟩ : ∃ w1, w1 = (w.alloc (.cells #[.int .i64 m, .int .u64 old, .bool fl] 68)).alloc (.cells #[.int .u64 0, .int .u64 0] 64) := ⟨_, rfl⟩
    have hbb : Below w.heap.size w w1 := by rw [hw1]; exact ((Below.refl _ _).alloc (Nat.le_refl _) _).alloc (by simp) _
    have hsz : w1.heap.size = w.heap.size + 2 := by rw [hw1]; simp
    have HB : Hid (∀ W, Below w1.heap.size w1 W → W.heap[w.heap.size]? = some (.cells #[.int .i64 m, .int .u64 old, .bool fl] 68) ∧ W.heap[w.heap.size + 1]? = some (.cells #[.int .u64 0, .int .u64 0] 64)) := fun W hW => by
      have hh := two_blocksQ w (.cells #[.int .i64 m, .int .u64 old, .bool fl] 68) (.cells #[.int .u64 0, .int .u64 0] 64)
      rw [← hw1] at hh
      exact ⟨(hW.block _ (by omega)).trans hh.1, (hW.block _ (by omega)).trans hh.2⟩
    have HW : Hid (_ = _) := hw1
    clear hw1
    have H0 : Hid (∀ W, Below w.heap.size w W → RowU W a l ps) := fun W hW => h.kept hW
    have HL : Hid (ps.length = l) := h.len
    have HRG : Hid (∀ k, U64 (ps.getD k 0)) := h.rng
    clear h
    have hr1 := Below.refl w1.heap.size w1
    have s0 : w1.cell? ⟨w.heap.size, 0, none⟩ = some (.int .i64 m) := (cell_of_row _ _ 0 _ 68 (0, 0) (HB.out _ hr1).1).trans rfl
    have s1 : w1.cell? ⟨w.heap.size, 1, none⟩ = some (.int .u64 old) := (cell_of_row _ _ 1 _ 68 (0, 0) (HB.out _ hr1).1).trans rfl
    have s2 : w1.cell? ⟨w.heap.size, 2, none⟩ = some (.bool fl) := (cell_of_row _ _ 2 _ 68 (0, 0) (HB.out _ hr1).1).trans rfl
    by_cases h1 : m = n
    · subst h1
      cases fl with
      | true =>
        have HE : Hid (bothR false old m m true ps = (old, old, decide (l = 0))) := by show _ = _; rw [bothR_known false old m m ps (.inl (Nat.le_refl _)), HL.out]
        have f0 : w1.frozen? ⟨w.heap.size + 1, 0, none⟩ = false := frozen_of_row w1 _ 0 _ 64 (HB.out _ hr1).2
        have f1 : w1.frozen? ⟨w.heap.size + 1, 1, none⟩ = false := frozen_of_row w1 _ 1 _ 64 (HB.out _ hr1).2
        have r0 : w1.cell? ⟨w.heap.size + 1, 0, none⟩ = some (.int .u64 0) := (cell_of_row _ _ 0 _ 64 (0, 0) (HB.out _ hr1).2).trans rfl
        have r1 : w1.cell? ⟨w.heap.size + 1, 1, none⟩ = some (.int .u64 0) := (cell_of_row _ _ 1 _ 64 (0, 0) (HB.out _ hr1).2).trans rfl
        by_cases hl : l = 0
        · subst hl
          go_enter Try.func49, Try.ntmps49
          go_upto_region 1 with fail
          rw [← HW.out]
          clear HW
          go_wp2
          try simp only [Exit.inBlock, Exit.then]
          refine bodyPost_ret (results_br rfl _ (w.heap.size + 1) rfl _ rfl _ _ _ (heap_set2 (HB.out _ hr1).2 _ _)) rfl ⟨by rw [HE.out]; rfl, ((keepT hbb hr1).setCell (by simp) _).setCell (by simp) _⟩
        · have z0 : ((l : Int) == 0) = false := by simp; omega
          have z1 : decide (l = 0) = false := by simp; omega
          go_enter Try.func49, Try.ntmps49
          go_upto_region 1 with fail
          rw [← HW.out]
          clear HW
          go_wp2
          try simp only [Exit.inBlock, Exit.then]
          refine bodyPost_ret (results_br rfl _ (w.heap.size + 1) rfl _ rfl _ _ _ (heap_set2 (HB.out _ hr1).2 _ _)) rfl ⟨by rw [HE.out, z1]; rfl, ((keepT hbb hr1).setCell (by simp) _).setCell (by simp) _⟩
      | false =>
        have HE : Hid (bothR false old m m false ps = if l = 0 then (0, 0, false) else (ps.getD (l - 1) 0, ps.getD (l - 1) 0, decide (l = 1))) := by show _ = _; rw [bothR_impl old m m ps (.inl (Nat.le_refl _)), HL.out]
        by_cases hl : l = 0
        · subst hl
          have f0 : w1.frozen? ⟨w.heap.size + 1, 0, none⟩ = false := frozen_of_row w1 _ 0 _ 64 (HB.out _ hr1).2
          have f1 : w1.frozen? ⟨w.heap.size + 1, 1, none⟩ = false := frozen_of_row w1 _ 1 _ 64 (HB.out _ hr1).2
          have r0 : w1.cell? ⟨w.heap.size + 1, 0, none⟩ = some (.int .u64 0) := (cell_of_row _ _ 0 _ 64 (0, 0) (HB.out _ hr1).2).trans rfl
          have r1 : w1.cell? ⟨w.heap.size + 1, 1, none⟩ = some (.int .u64 0) := (cell_of_row _ _ 1 _ 64 (0, 0) (HB.out _ hr1).2).trans rfl
          go_enter Try.func49, Try.ntmps49
          go_upto_region 1 with fail
          rw [← HW.out]
          clear HW
          go_wp2_with fail
          refine (cutTop_none a c _).mono ?_
          rintro e w2 ⟨rfl, hw⟩
          have hw2 := hw.symm
          subst hw2
          go_wp2
          try simp only [Exit.inBlock, Exit.then]
          refine bodyPost_ret (results_br rfl _ (w.heap.size + 1) rfl _ rfl _ _ _ (heap_set2 (HB.out _ hr1).2 _ _)) rfl ⟨by rw [HE.out]; rfl, ((keepT hbb hr1).setCell (by simp) _).setCell (by simp) _⟩
        · obtain ⟨q, rfl⟩ : ∃ q, l = q + 1 := ⟨l - 1, by omega⟩
          have HE2 : Hid (bothR false old m m false ps = (ps.getD q 0, ps.getD q 0, decide (q = 0))) := by show _ = _; rw [HE.out, if_neg hl, Nat.add_sub_cancel]; simp
          by_cases hq : q = 0
          · subst hq
            go_enter Try.func49, Try.ntmps49
            go_upto_region 1 with fail
            rw [← HW.out]
            clear HW
            go_wp2_with fail
            refine (cutTop_more a 0 c ps _ (H0.out _ hbb) hc hcm).mono ?_
            rintro e w2 ⟨rfl, hb2⟩
            have s0 : w2.cell? ⟨w.heap.size, 0, none⟩ = some (.int .i64 m) := (cell_of_row _ _ 0 _ 68 (0, 0) (HB.out _ hb2).1).trans rfl
            have s1 : w2.cell? ⟨w.heap.size, 1, none⟩ = some (.int .u64 old) := (cell_of_row _ _ 1 _ 68 (0, 0) (HB.out _ hb2).1).trans rfl
            have s2 : w2.cell? ⟨w.heap.size, 2, none⟩ = some (.bool false) := (cell_of_row _ _ 2 _ 68 (0, 0) (HB.out _ hb2).1).trans rfl
            have f0 : w2.frozen? ⟨w.heap.size + 1, 0, none⟩ = false := frozen_of_row w2 _ 0 _ 64 (HB.out _ hb2).2
            have f1 : w2.frozen? ⟨w.heap.size + 1, 1, none⟩ = false := frozen_of_row w2 _ 1 _ 64 (HB.out _ hb2).2
            have r0 : w2.cell? ⟨w.heap.size + 1, 0, none⟩ = some (.int .u64 0) := (cell_of_row _ _ 0 _ 64 (0, 0) (HB.out _ hb2).2).trans rfl
            have r1 : w2.cell? ⟨w.heap.size + 1, 1, none⟩ = some (.int .u64 0) := (cell_of_row _ _ 1 _ 64 (0, 0) (HB.out _ hb2).2).trans rfl
            go_wp2
            try simp only [Exit.inBlock, Exit.then]
            refine bodyPost_ret (results_br rfl _ (w.heap.size + 1) rfl _ rfl _ _ _ (heap_set2 (HB.out _ hb2).2 _ _)) rfl ⟨by rw [HE2.out]; rfl, ((keepT hbb hb2).setCell (by simp) _).setCell (by simp) _⟩
          · have z0 : ((q : Int) == 0) = false := by simp; omega
            have z1 : decide (q = 0) = false := by simp; omega
            go_enter Try.func49, Try.ntmps49
            go_upto_region 1 with fail
            rw [← HW.out]
            clear HW
            go_wp2_with fail
            refine (cutTop_more a q c ps _ (H0.out _ hbb) hc hcm).mono ?_
            rintro e w2 ⟨rfl, hb2⟩
            have s0 : w2.cell? ⟨w.heap.size, 0, none⟩ = some (.int .i64 m) := (cell_of_row _ _ 0 _ 68 (0, 0) (HB.out _ hb2).1).trans rfl
            have s1 : w2.cell? ⟨w.heap.size, 1, none⟩ = some (.int .u64 old) := (cell_of_row _ _ 1 _ 68 (0, 0) (HB.out _ hb2).1).trans rfl
            have s2 : w2.cell? ⟨w.heap.size, 2, none⟩ = some (.bool false) := (cell_of_row _ _ 2 _ 68 (0, 0) (HB.out _ hb2).1).trans rfl
            have f0 : w2.frozen? ⟨w.heap.size + 1, 0, none⟩ = false := frozen_of_row w2 _ 0 _ 64 (HB.out _ hb2).2
            have f1 : w2.frozen? ⟨w.heap.size + 1, 1, none⟩ = false := frozen_of_row w2 _ 1 _ 64 (HB.out _ hb2).2
            have r0 : w2.cell? ⟨w.heap.size + 1, 0, none⟩ = some (.int .u64 0) := (cell_of_row _ _ 0 _ 64 (0, 0) (HB.out _ hb2).2).trans rfl
            have r1 : w2.cell? ⟨w.heap.size + 1, 1, none⟩ = some (.int .u64 0) := (cell_of_row _ _ 1 _ 64 (0, 0) (HB.out _ hb2).2).trans rfl
            go_wp2
            try simp only [Exit.inBlock, Exit.then]
            refine bodyPost_ret (results_br rfl _ (w.heap.size + 1) rfl _ rfl _ _ _ (heap_set2 (HB.out _ hb2).2 _ _)) rfl ⟨by rw [HE2.out, z1]; rfl, ((keepT hbb hb2).setCell (by simp) _).setCell (by simp) _⟩
    · have z1 : ((m : Int) == (n : Int)) = false := by simp; omega
      have z3 : ¬ (m : Int) = (n : Int) := by omega
      by_cases hl : l = 0
      · subst hl
        have HE : Hid (bothR false old m n fl ps = (0, 0, false)) := bothR_nil false old m n fl ps (by omega) (by omega) HL.out
        have f0 : w1.frozen? ⟨w.heap.size + 1, 0, none⟩ = false := frozen_of_row w1 _ 0 _ 64 (HB.out _ hr1).2
        have f1 : w1.frozen? ⟨w.heap.size + 1, 1, none⟩ = false := frozen_of_row w1 _ 1 _ 64 (HB.out _ hr1).2
        have r0 : w1.cell? ⟨w.heap.size + 1, 0, none⟩ = some (.int .u64 0) := (cell_of_row _ _ 0 _ 64 (0, 0) (HB.out _ hr1).2).trans rfl
        have r1 : w1.cell? ⟨w.heap.size + 1, 1, none⟩ = some (.int .u64 0) := (cell_of_row _ _ 1 _ 64 (0, 0) (HB.out _ hr1).2).trans rfl
        go_enter Try.func49, Try.ntmps49
        go_upto_region 1 with fail
        rw [← HW.out]
        clear HW
        go_wp2_with fail
        refine (cutTop_none a c _).mono ?_
        rintro e w2 ⟨rfl, hw⟩
        have hw2 := hw.symm
        subst hw2
        go_wp2
        try simp only [Exit.inBlock, Exit.then]
        refine bodyPost_ret (results_br rfl _ (w.heap.size + 1) rfl _ rfl _ _ _ (heap_set2 (HB.out _ hr1).2 _ _)) rfl ⟨by rw [HE.out]; rfl, ((keepT hbb hr1).setCell (by simp) _).setCell (by simp) _⟩
      · obtain ⟨q, rfl⟩ : ∃ q, l = q + 1 := ⟨l - 1, by omega⟩
        obtain ⟨p, hp⟩ : ∃ p, p = ps.getD q 0 := ⟨_, rfl⟩
        have HP : Hid (p = ps.getD q 0) := hp
        have hpb := HRG.out q
        rw [← hp] at hpb
        clear hp
        have hkl := hk_lt (show 2 ≤ n by omega)
        have hkp := hk_pos n
        obtain ⟨k, hkk⟩ : ∃ k, k = hk n := ⟨_, rfl⟩
        have HKK : Hid (k = hk n) := hkk
        rw [← hkk] at hkl hkp
        have HRW : Hid (∀ W, Below w.heap.size w W → RowU W a q (ps.take q)) := fun W hW => (H0.out W hW).take q (by omega)
        by_cases hik : m ≤ k
        · have k1 : (m : Int) ≤ (k : Int) := by omega
          have he := bothR_lo false old m n fl ps (by omega) (by omega) q HL.out (by rw [← hkk]; exact hik)
          rw [← hkk, ← HP.out] at he
          obtain ⟨v, hv⟩ : ∃ v, v = bothR false old m k fl (ps.take q) := ⟨_, rfl⟩
          have hvb := bothR_bd _ false old m k fl (ps.take q) (Nat.le_refl _) ho (u64_take HRG.out q)
          have ih2 := fun W (hW : Below w.heap.size w W) => ih old m k fl a q c (ps.take q) W (by omega) h0 hik (by omega) ho (HRW.out W hW) (by omega) hcm
          rw [← hv] at ih2 hvb he
          obtain ⟨v0, v1, ok⟩ := v
          have HE : Hid (bothR false old m n fl ps = (v0, pairN v1 p, ok)) := he
          have IH : Hid (_) := ih2
          have hv1 := hvb.2
          clear hkk he hv ih2 ih HRW hvb
          go_enter Try.func49, Try.ntmps49
          go_upto_region 1 with fail
          rw [← HW.out]
          clear HW
          go_wp2_with fail
          refine (cutTop_more a q c ps _ (H0.out _ hbb) hc hcm).mono ?_
          rintro e w2 ⟨rfl, hb2⟩
          rw [← HP.out]
          clear s0 s1 s2
          have s0 : w2.cell? ⟨w.heap.size, 0, none⟩ = some (.int .i64 m) := (cell_of_row _ _ 0 _ 68 (0, 0) (HB.out _ hb2).1).trans rfl
          have s1 : w2.cell? ⟨w.heap.size, 1, none⟩ = some (.int .u64 old) := (cell_of_row _ _ 1 _ 68 (0, 0) (HB.out _ hb2).1).trans rfl
          have s2 : w2.cell? ⟨w.heap.size, 2, none⟩ = some (.bool fl) := (cell_of_row _ _ 2 _ 68 (0, 0) (HB.out _ hb2).1).trans rfl
          go_wp2_with fail
          refine (firstPart_any _ _ (by omega)).mono ?_
          rintro e w3 ⟨rfl, hw⟩
          have hw3 := hw.symm
          subst hw3
          rw [← HKK.out]
          go_wp2_with fail
          refine (IH.out _ (keepT hbb hb2)).mono ?_
          rintro e w3 ⟨rfl, hb3⟩
          obtain ⟨w4, hw4⟩ : ∃ w4, w4 = w3.alloc (.cells #[.int .u64 v0, .int .u64 v1] 64) := ⟨_, rfl⟩
          have hb4 : Below w3.heap.size w3 w4 := by rw [hw4]; exact (Below.refl _ _).alloc (Nat.le_refl _) _
          have HB4 : Hid (∀ W, Below w4.heap.size w4 W → W.heap[w3.heap.size]? = some (.cells #[.int .u64 v0, .int .u64 v1] 64)) := fun W hW => (hW.block _ (by rw [hw4]; simp)).trans (by rw [hw4]; exact heap_alloc_new _ _)
          have hbx : Below w1.heap.size w1 w4 := keepT (keepT hb2 hb3) hb4
          have hlw : w3.heap.size < w4.heap.size := by rw [hw4]; simp
          have hlw2 : w.heap.size + 1 < w4.heap.size := by have := hbx.size; omega
          have HW4 : Hid (_ = _) := hw4
          clear s0 s1 s2 hw4
          go_upto_region 11 with fail
          rw [← HW4.out]
          clear HW4
          have x0 : w4.cell? ⟨w3.heap.size, 0, none⟩ = some (.int .u64 v0) := (cell_of_row _ _ 0 _ 64 (0, 0) (HB4.out _ (Below.refl _ _))).trans rfl
          have x1 : w4.cell? ⟨w3.heap.size, 1, none⟩ = some (.int .u64 v1) := (cell_of_row _ _ 1 _ 64 (0, 0) (HB4.out _ (Below.refl _ _))).trans rfl
          have hdr : Below w4.heap.size w4 w4.drew := (Below.refl _ _).drew
          go_region_with ((go_at_call 68; refine (pairOf_any v1 p _ hv1 hpb).mono ?_; rintro e w5 ⟨rfl, hb5⟩; have hb45 := keepT hdr hb5; have y0 : w5.cell? ⟨w3.heap.size, 0, none⟩ = some (.int .u64 v0) := (cell_of_row _ _ 0 _ 64 (0, 0) (HB4.out _ hb45)).trans rfl; have hb15 := keepT hbx hb45; have f0 : w5.frozen? ⟨w.heap.size + 1, 0, none⟩ = false := frozen_of_row w5 _ 0 _ 64 (HB.out _ hb15).2; have f1 : w5.frozen? ⟨w.heap.size + 1, 1, none⟩ = false := frozen_of_row w5 _ 1 _ 64 (HB.out _ hb15).2; have r0 : w5.cell? ⟨w.heap.size + 1, 0, none⟩ = some (.int .u64 0) := (cell_of_row _ _ 0 _ 64 (0, 0) (HB.out _ hb15).2).trans rfl; have r1 : w5.cell? ⟨w.heap.size + 1, 1, none⟩ = some (.int .u64 0) := (cell_of_row _ _ 1 _ 64 (0, 0) (HB.out _ hb15).2).trans rfl))
          all_goals
            go_wp2
            try simp only [Exit.inBlock, Exit.then]
            refine bodyPost_ret (results_br rfl _ (w.heap.size + 1) rfl _ rfl _ _ _ (heap_set2 (HB.out _ hb15).2 _ _)) rfl ⟨by rw [HE.out]; rfl, ((keepT hbb hb15).setCell (by simp) _).setCell (by simp) _⟩
        · obtain ⟨q2, rfl⟩ : ∃ q2, m = k + q2 := ⟨m - k, by omega⟩
          obtain ⟨d, rfl⟩ : ∃ d, n = k + d := ⟨n - k, by omega⟩
          have k1 : ¬ (k : Int) + (q2 : Int) ≤ (k : Int) := by omega
          have k2 : (k : Int) + (q2 : Int) - (k : Int) = (q2 : Int) := by omega
          have k3 : (k : Int) + (d : Int) - (k : Int) = (d : Int) := by omega
          have k4 : IntKind.i64.wrap (q2 : Int) = (q2 : Int) := by rw [IntKind.wrap_i64]; omega
          have k5 : IntKind.i64.wrap (d : Int) = (d : Int) := by rw [IntKind.wrap_i64]; omega
          have k6 : ((k + q2 : Nat) : Int) = (k : Int) + (q2 : Int) := by omega
          have he := bothR_hi false old (k + q2) (k + d) fl ps (by omega) (by omega) q HL.out (by rw [← hkk]; omega)
          rw [← hkk, ← HP.out, Nat.add_sub_cancel_left, Nat.add_sub_cancel_left, if_neg (by decide)] at he
          obtain ⟨v, hv⟩ : ∃ v, v = bothR false 0 q2 d false (ps.take q) := ⟨_, rfl⟩
          have hz : U64 0 := by simp [U64]
          have hvb := bothR_bd _ false 0 q2 d false (ps.take q) (Nat.le_refl _) hz (u64_take HRG.out q)
          have ih2 := fun W (hW : Below w.heap.size w W) => ih 0 q2 d false a q c (ps.take q) W (by omega) (by omega) (by omega) (by omega) hz (HRW.out W hW) (by omega) hcm
          rw [← hv] at ih2 hvb he
          obtain ⟨v0, v1, ok⟩ := v
          have HE : Hid (bothR false old (k + q2) (k + d) fl ps = (pairN p v0, pairN p v1, ok)) := he
          have IH : Hid (_) := ih2
          have hv1 := hvb.2
          have hv0 := hvb.1
          clear hkk he hv ih2 ih HRW hvb hz
          rw [k6] at s0 HW
          go_enter Try.func49, Try.ntmps49
          go_upto_region 1 with fail
          rw [← HW.out]
          clear HW
          go_wp2_with fail
          refine (cutTop_more a q c ps _ (H0.out _ hbb) hc hcm).mono ?_
          rintro e w2 ⟨rfl, hb2⟩
          rw [← HP.out]
          clear s0 s1 s2
          have s0 : w2.cell? ⟨w.heap.size, 0, none⟩ = some (.int .i64 ((k + q2 : Nat) : Int)) := (cell_of_row _ _ 0 _ 68 (0, 0) (HB.out _ hb2).1).trans rfl
          have s1 : w2.cell? ⟨w.heap.size, 1, none⟩ = some (.int .u64 old) := (cell_of_row _ _ 1 _ 68 (0, 0) (HB.out _ hb2).1).trans rfl
          have s2 : w2.cell? ⟨w.heap.size, 2, none⟩ = some (.bool fl) := (cell_of_row _ _ 2 _ 68 (0, 0) (HB.out _ hb2).1).trans rfl
          rw [k6] at s0
          go_wp2_with fail
          refine (firstPart_any _ _ (by omega)).mono ?_
          rintro e w3 ⟨rfl, hw⟩
          have hw3 := hw.symm
          subst hw3
          rw [← HKK.out]
          go_wp2_with fail
          refine (IH.out _ (keepT hbb hb2)).mono ?_
          rintro e w3 ⟨rfl, hb3⟩
          obtain ⟨w4, hw4⟩ : ∃ w4, w4 = w3.alloc (.cells #[.int .u64 v0, .int .u64 v1] 64) := ⟨_, rfl⟩
          have hb4 : Below w3.heap.size w3 w4 := by rw [hw4]; exact (Below.refl _ _).alloc (Nat.le_refl _) _
          have HB4 : Hid (∀ W, Below w4.heap.size w4 W → W.heap[w3.heap.size]? = some (.cells #[.int .u64 v0, .int .u64 v1] 64)) := fun W hW => (hW.block _ (by rw [hw4]; simp)).trans (by rw [hw4]; exact heap_alloc_new _ _)
          have hbx : Below w1.heap.size w1 w4 := keepT (keepT hb2 hb3) hb4
          have hlw : w3.heap.size < w4.heap.size := by rw [hw4]; simp
          have hlw2 : w.heap.size + 1 < w4.heap.size := by have := hbx.size; omega
          have HW4 : Hid (_ = _) := hw4
          clear s0 s1 s2 hw4
          go_upto_region 13 with fail
          rw [← HW4.out]
          clear HW4
          have x0 : w4.cell? ⟨w3.heap.size, 0, none⟩ = some (.int .u64 v0) := (cell_of_row _ _ 0 _ 64 (0, 0) (HB4.out _ (Below.refl _ _))).trans rfl
          have x1 : w4.cell? ⟨w3.heap.size, 1, none⟩ = some (.int .u64 v1) := (cell_of_row _ _ 1 _ 64 (0, 0) (HB4.out _ (Below.refl _ _))).trans rfl
          have hdr : Below w4.heap.size w4 w4.drew := (Below.refl _ _).drew
          go_region_with (first
            | (go_at_call_of 68 v0; refine (pairOf_any p v0 _ hpb hv0).mono ?_; rintro e w5 ⟨rfl, hb5⟩; have hb45 := keepT hdr hb5; have y0 : w5.cell? ⟨w3.heap.size, 1, none⟩ = some (.int .u64 v1) := (cell_of_row _ _ 1 _ 64 (0, 0) (HB4.out _ hb45)).trans rfl)
            | (go_at_call_of 68 v1; refine (pairOf_any p v1 _ hpb hv1).mono ?_; rintro e w6 ⟨rfl, hb6⟩; have hb15 := keepT hbx (keepT hb45 hb6); have f0 : w6.frozen? ⟨w.heap.size + 1, 0, none⟩ = false := frozen_of_row w6 _ 0 _ 64 (HB.out _ hb15).2; have f1 : w6.frozen? ⟨w.heap.size + 1, 1, none⟩ = false := frozen_of_row w6 _ 1 _ 64 (HB.out _ hb15).2; have r0 : w6.cell? ⟨w.heap.size + 1, 0, none⟩ = some (.int .u64 0) := (cell_of_row _ _ 0 _ 64 (0, 0) (HB.out _ hb15).2).trans rfl; have r1 : w6.cell? ⟨w.heap.size + 1, 1, none⟩ = some (.int .u64 0) := (cell_of_row _ _ 1 _ 64 (0, 0) (HB.out _ hb15).2).trans rfl))
          all_goals
            go_wp2
            try simp only [Exit.inBlock, Exit.then]
            refine bodyPost_ret (results_br rfl _ (w.heap.size + 1) rfl _ rfl _ _ _ (heap_set2 (HB.out _ hb15).2 _ _)) rfl ⟨by rw [HE.out]; rfl, ((keepT hbb hb15).setCell (by simp) _).setCell (by simp) _⟩

end Go.Proofs.Ytifdcfchliaipaa
