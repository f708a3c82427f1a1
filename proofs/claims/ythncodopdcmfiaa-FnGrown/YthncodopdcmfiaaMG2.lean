import Derived.Test.YthncodopdcmfiaaMG1
import Derived.Laws.Rows
import Derived.Laws.Tables
import Derived.Great.Walk
import Derived.Deep.DeepCutAuto
namespace Go.Proofs.Ythncodopdcmfiaa
open Go.RowKit Go.Sort

theorem results_gr {fn : Func} {t : Tmp} (h : fn.results = #[.cell t 47]) (tmps : Array Value) (g : Nat) (ht : tmps.getD t undef = .pointer (some ⟨g, 0, none⟩)) (w : World) (c0 c1 c2 c3 c4 : Value)
    (hb : w.heap[g]? = some (.cells #[c0, c1, c2, c3, c4] 47 (0, 0))) : (results fn tmps).run Try.prog w = .ok (.agg #[c0, c1, c2, c3, c4]) w := by
  have d0 : w.cell? ⟨g, 0, none⟩ = some c0 := (cell_of_row _ g 0 _ 47 (0, 0) hb).trans rfl
  have d1 : w.cell? ⟨g, 1, none⟩ = some c1 := (cell_of_row _ g 1 _ 47 (0, 0) hb).trans rfl
  have d2 : w.cell? ⟨g, 2, none⟩ = some c2 := (cell_of_row _ g 2 _ 47 (0, 0) hb).trans rfl
  have d3 : w.cell? ⟨g, 3, none⟩ = some c3 := (cell_of_row _ g 3 _ 47 (0, 0) hb).trans rfl
  have d4 : w.cell? ⟨g, 4, none⟩ = some c4 := (cell_of_row _ g 4 _ 47 (0, 0) hb).trans rfl
  clear hb
  have ht' : tmps[t]?.getD undef = .pointer (some ⟨g, 0, none⟩) := by rw [← ht]; simp
  simp [results, h, go_sem, ht', d0, d1, d2, d3, d4]
theorem heap_set5 {w : World} {g t : Nat} {c0 c1 c2 c3 c4 : Value} (h : w.heap[g]? = some (.cells #[c0, c1, c2, c3, c4] t (0, 0))) (v0 v1 v2 v3 v4 : Value) : (((((w.setCell ⟨g, 0, none⟩ v0).setCell ⟨g, 1, none⟩ v1).setCell ⟨g, 2, none⟩ v2).setCell ⟨g, 3, none⟩ v3).setCell ⟨g, 4, none⟩ v4).heap[g]? = some (.cells #[v0, v1, v2, v3, v4] t (0, 0)) :=
  heap_setCell_same _ _ 4 _ t _ (heap_setCell_same _ _ 3 _ t _ (heap_setCell_same _ _ 2 _ t _ (heap_setCell_same _ _ 1 _ t _ (heap_setCell_same _ _ 0 _ t _ h))))
theorem below_set5 {B : Nat} {w0 w : World} (h : Below B w0 w) (g : Nat) (hg : B ≤ g) (v0 v1 v2 v3 v4 : Value) : Below B w0 (((((w.setCell ⟨g, 0, none⟩ v0).setCell ⟨g, 1, none⟩ v1).setCell ⟨g, 2, none⟩ v2).setCell ⟨g, 3, none⟩ v3).setCell ⟨g, 4, none⟩ v4) :=
  ((((h.setCell hg _).setCell hg _).setCell hg _).setCell hg _).setCell hg _
theorem OwnK.set {B : Nat} {w : World} {a : Option Addr} {n cap : Nat} {zs : List (Int × Int)} (h : OwnK B w a n cap zs) {g : Nat} (hg : g < B) (i : Nat) (v : Value) : OwnK B (w.setCell ⟨g, i, none⟩ v) a n cap zs := by
  refine ⟨⟨h.row.1, ?_⟩, h.rng⟩
  rcases h.row.2 with h | ⟨g', cap', cur, hv, hb, hh, r⟩
  · exact .inl h
  · exact .inr ⟨g', cap', cur, hv, hb, (Below.heap_setCell _ _ _ _ (by simp; omega)).trans hh, r⟩
theorem OwnK.set5 {B : Nat} {w : World} {a : Option Addr} {n cap : Nat} {zs : List (Int × Int)} (h : OwnK B w a n cap zs) {g : Nat} (hg : g < B) (v0 v1 v2 v3 v4 : Value) : OwnK B (((((w.setCell ⟨g, 0, none⟩ v0).setCell ⟨g, 1, none⟩ v1).setCell ⟨g, 2, none⟩ v2).setCell ⟨g, 3, none⟩ v3).setCell ⟨g, 4, none⟩ v4) a n cap zs :=
  ((((h.set hg _ _).set hg _ _).set hg _ _).set hg _ _).set hg _ _

theorem grown_ne {B : Nat} {w : World} {g n t : Nat} {v : Value} {cs : Array Value} {fr : Nat × Nat} {xs : List Value} (hg : w.heap[g]? = some (.cells cs 47 fr)) (h : w.ownsRow B 69 t v n xs) (e : v.ownBlock = some g) : False := by
  rcases h.2 with ⟨hv, _⟩ | ⟨g', cap, cur, hv, _, hh, _⟩
  · rw [hv] at e; simp [Value.ownBlock] at e
  · rw [hv] at e
    simp [Value.ownBlock] at e
    subst e
    rw [hg] at hh
    simp at hh
theorem blk_cells {w : World} {g : Nat} {x y : Int} {fr : Nat × Nat} (h : w.heap[g]? = some (.cells #[.int .u64 x, .int .u64 y] 69 fr)) : ∀ jj uu, (flK [(x, y)])[jj]? = some uu → w.cell? ((⟨g, 0, none⟩ : Addr).add jj) = some uu := by
  intro jj uu hju
  rw [Addr.add_lit, Nat.zero_add, cell_of_row _ g jj _ 69 _ h, ← hju]
  simp [flK]
/-- A block of another kind is not ours. -/
theorem OwnK.set_ne {B : Nat} {w : World} {a : Option Addr} {n cap : Nat} {zs : List (Int × Int)} (h : OwnK B w a n cap zs) {g t : Nat} {cs : Array Value} {fr : Nat × Nat} (hg : w.heap[g]? = some (.cells cs t fr)) (ht : t ≠ 69) (i : Nat) (v : Value) : OwnK B (w.setCell ⟨g, i, none⟩ v) a n cap zs := by
  refine ⟨⟨h.row.1, ?_⟩, h.rng⟩
  rcases h.row.2 with h | ⟨g', cap', cur, hv, hb, hh, r⟩
  · exact .inl h
  · refine .inr ⟨g', cap', cur, hv, hb, (Below.heap_setCell _ _ _ _ (fun e => ?_)).trans hh, r⟩
    have e' : g' = g := e
    subst e'
    rw [hg] at hh
    simp at hh
    exact ht hh.2.1

set_option maxRecDepth 10000 in
set_option maxHeartbeats 8000000 in
theorem grow_any : ∀ (N m n : Nat) (own : Bool) (old : Int) (a : Option Addr) (l c : Nat) (ps : List Int) (w : World), n ≤ N → 0 < m → m ≤ n → n ≤ 1000 → U64 old → RowU w a l ps → l ≤ 2000 → l ≤ c → c ≤ 9223372036854775807 →
    Calls Try.prog 25 #[.int .i64 m, .int .i64 n, .bool own, .int .u64 old, .slice a l c] w (GrwR (grwR m n own old ps) w) := by
  intro N
  induction N with
  | zero => intro m n own old a l c ps w hN h0; omega
  | succ N ih =>
    intro m n own old a l c ps w hN h0 hmn hn ho h hl2 hc hcm
    obtain ⟨i0, hi, hz0, hz1, hz2⟩ := info_parts Try.infoK
    have H0 : Hid (RowU w a l ps) := h
    have HL : Hid (ps.length = l) := h.len
    have HRG : Hid (∀ k, U64 (ps.getD k 0)) := h.rng
    clear h
    obtain ⟨w1, hw1⟩ : ∃ w1, w1 = w.alloc (.cells #[.int .u64 0, .int .u64 0, .slice none 0 0, .slice none 0 0, .bool false] 47) := ⟨_, rfl⟩
    have hbb : Below w.heap.size w w1 := by rw [hw1]; exact (Below.refl _ _).alloc (Nat.le_refl _) _
    have hsz : w1.heap.size = w.heap.size + 1 := by rw [hw1]; simp
    have HB : Hid (∀ W, Below w1.heap.size w1 W → W.heap[w.heap.size]? = some (.cells #[.int .u64 0, .int .u64 0, .slice none 0 0, .slice none 0 0, .bool false] 47)) := fun W hW => (hW.block _ (by omega)).trans (by rw [hw1]; exact heap_alloc_new w _)
    have HW : Hid (_ = _) := hw1
    clear hw1
    have hr1 := Below.refl w1.heap.size w1
    have r0 : w1.cell? ⟨w.heap.size, 0, none⟩ = some (.int .u64 0) := (cell_of_row _ _ 0 _ 47 (0, 0) (HB.out _ hr1)).trans rfl
    have r1 : w1.cell? ⟨w.heap.size, 1, none⟩ = some (.int .u64 0) := (cell_of_row _ _ 1 _ 47 (0, 0) (HB.out _ hr1)).trans rfl
    have r2 : w1.cell? ⟨w.heap.size, 2, none⟩ = some (.slice none 0 0) := (cell_of_row _ _ 2 _ 47 (0, 0) (HB.out _ hr1)).trans rfl
    have r3 : w1.cell? ⟨w.heap.size, 3, none⟩ = some (.slice none 0 0) := (cell_of_row _ _ 3 _ 47 (0, 0) (HB.out _ hr1)).trans rfl
    have r4 : w1.cell? ⟨w.heap.size, 4, none⟩ = some (.bool false) := (cell_of_row _ _ 4 _ 47 (0, 0) (HB.out _ hr1)).trans rfl
    have f0 : w1.frozen? ⟨w.heap.size, 0, none⟩ = false := frozen_of_row w1 _ 0 _ 47 (HB.out _ hr1)
    have f1 : w1.frozen? ⟨w.heap.size, 1, none⟩ = false := frozen_of_row w1 _ 1 _ 47 (HB.out _ hr1)
    have f2 : w1.frozen? ⟨w.heap.size, 2, none⟩ = false := frozen_of_row w1 _ 2 _ 47 (HB.out _ hr1)
    have f3 : w1.frozen? ⟨w.heap.size, 3, none⟩ = false := frozen_of_row w1 _ 3 _ 47 (HB.out _ hr1)
    have f4 : w1.frozen? ⟨w.heap.size, 4, none⟩ = false := frozen_of_row w1 _ 4 _ 47 (HB.out _ hr1)
    have fin0 : ∀ (g : Grw) (ar : Option Addr) (nr cr : Nat), g.list = [] → GrwR g w (.returned (grv g none 0 0 ar nr cr)) (((((w1.setCell ⟨w.heap.size, 0, none⟩ (.int .u64 g.old)).setCell ⟨w.heap.size, 1, none⟩ (.int .u64 g.all)).setCell ⟨w.heap.size, 2, none⟩ (.slice none 0 0)).setCell ⟨w.heap.size, 3, none⟩ (.slice ar nr cr)).setCell ⟨w.heap.size, 4, none⟩ (.bool g.ok)) := fun g ar nr cr hg =>
      ⟨none, 0, ar, nr, cr, by rw [hg]; rfl, by rw [hg]; exact ownK_none _ _, below_set5 hbb _ (Nat.le_refl _) _ _ _ _ _⟩
    have FIN0 : Hid (_) := fin0
    clear fin0
    by_cases h1 : m = n
    · subst h1
      cases own with
      | true =>
        have HE : Hid (grwR m m true old ps = ⟨old, old, [], true⟩) := grwR_own m m old ps (.inl (Nat.le_refl _))
        go_enter Try.func25, Try.ntmps25
        go_upto_region 1 with fail
        rw [← HW.out]
        clear HW
        go_wp2
        try simp only [Exit.inBlock, Exit.then]
        rw [HE.out]
        exact bodyPost_ret (results_gr rfl _ w.heap.size rfl _ _ _ _ _ _ (heap_set5 (HB.out _ hr1) _ _ _ _ _)) rfl (FIN0.out ⟨old, old, [], true⟩ a l c rfl)
      | false =>
        by_cases hl : l = 0
        · subst hl
          have HE : Hid (grwR m m false old ps = ⟨0, 0, [], false⟩) := by show _ = _; rw [grwR_top m m old ps (.inl (Nat.le_refl _)), if_pos HL.out]
          go_enter Try.func25, Try.ntmps25
          go_upto_region 1 with fail
          rw [← HW.out]
          clear HW
          go_wp2
          try simp only [Exit.inBlock, Exit.then]
          rw [HE.out]
          exact bodyPost_ret (results_gr rfl _ w.heap.size rfl _ _ _ _ _ _ (heap_set5 (HB.out _ hr1) _ _ _ _ _)) rfl (FIN0.out ⟨0, 0, [], false⟩ none 0 0 rfl)
        · obtain ⟨q, rfl⟩ : ∃ q, l = q + 1 := ⟨l - 1, by omega⟩
          obtain ⟨b, off, rfl, hlb, hc0⟩ := H0.out.get q (by omega)
          obtain ⟨p, hp⟩ : ∃ p, p = ps.getD q 0 := ⟨_, rfl⟩
          have hc1 : w1.cell? ⟨b, off + q, none⟩ = some (.int .u64 p) := by rw [hp]; exact (hbb.cell (p := ⟨b, off + q, none⟩) hlb).trans hc0
          have HE : Hid (grwR m m false old ps = ⟨p, p, [], true⟩) := by show _ = _; rw [grwR_top m m old ps (.inl (Nat.le_refl _)), if_neg (by rw [HL.out]; omega), HL.out, Nat.add_sub_cancel, hp]
          clear hp hc0
          have zl1 : ((q : Int) + 1 == 0) = false := by simp; omega
          have zl2 : ¬ (q : Int) + 1 = 0 := by omega
          have j2 : IntKind.i64.wrap (q : Int) = (q : Int) := by rw [IntKind.wrap_i64]; omega
          have j4 : (q : Int) ≤ (c : Int) := by omega
          have j7 : (q : Int) < (q : Int) + 1 := by omega
          go_enter Try.func25, Try.ntmps25
          go_upto_region 1 with fail
          rw [← HW.out]
          clear HW
          go_wp2
          try simp only [Exit.inBlock, Exit.then]
          rw [HE.out]
          exact bodyPost_ret (results_gr rfl _ w.heap.size rfl _ _ _ _ _ _ (heap_set5 (HB.out _ hr1) _ _ _ _ _)) rfl (FIN0.out ⟨p, p, [], true⟩ (some ⟨b, off, none⟩) q c rfl)
    · have z1 : ((m : Int) == (n : Int)) = false := by simp; omega
      have z3 : ¬ (m : Int) = (n : Int) := by omega
      by_cases hl : l = 0
      · subst hl
        have HE : Hid (grwR m n own old ps = ⟨0, 0, [], false⟩) := grwR_nil m n own old ps (by omega) (by omega) HL.out
        go_enter Try.func25, Try.ntmps25
        go_upto_region 1 with fail
        rw [← HW.out]
        clear HW
        go_wp2
        try simp only [Exit.inBlock, Exit.then]
        rw [HE.out]
        exact bodyPost_ret (results_gr rfl _ w.heap.size rfl _ _ _ _ _ _ (heap_set5 (HB.out _ hr1) _ _ _ _ _)) rfl (FIN0.out ⟨0, 0, [], false⟩ none 0 0 rfl)
      · obtain ⟨q, rfl⟩ : ∃ q, l = q + 1 := ⟨l - 1, by omega⟩
        obtain ⟨b, off, rfl, hlb, hc0⟩ := H0.out.get q (by omega)
        obtain ⟨p, hp⟩ : ∃ p, p = ps.getD q 0 := ⟨_, rfl⟩
        have hc1 : w1.cell? ⟨b, off + q, none⟩ = some (.int .u64 p) := by rw [hp]; exact (hbb.cell (p := ⟨b, off + q, none⟩) hlb).trans hc0
        have HP : Hid (p = ps.getD q 0) := hp
        have hpb := HRG.out q
        rw [← hp] at hpb
        clear hp hc0
        have zl1 : ((q : Int) + 1 == 0) = false := by simp; omega
        have zl2 : ¬ (q : Int) + 1 = 0 := by omega
        have j2 : IntKind.i64.wrap (q : Int) = (q : Int) := by rw [IntKind.wrap_i64]; omega
        have j4 : (q : Int) ≤ (c : Int) := by omega
        have j7 : (q : Int) < (q : Int) + 1 := by omega
        have hkl := hk_lt (show 2 ≤ n by omega)
        have hkp := hk_pos n
        obtain ⟨k, hkk⟩ : ∃ k, k = hk n := ⟨_, rfl⟩
        have HKK : Hid (k = hk n) := hkk
        rw [← hkk] at hkl hkp
        have HRW : Hid (∀ W, Below w.heap.size w W → RowU W (some ⟨b, off, none⟩) q (ps.take q)) := fun W hW => (H0.out.take q (by omega)).kept hW
        by_cases hik : m ≤ k
        · have k1 : (m : Int) ≤ (k : Int) := by omega
          have he := grwR_lo m n own old ps (by omega) (by omega) q HL.out (by rw [← hkk]; exact hik)
          rw [← hkk, ← HP.out] at he
          obtain ⟨g, hg0⟩ : ∃ g, g = grwR m k own old (ps.take q) := ⟨_, rfl⟩
          have hok := grwR_ok k m k own old (ps.take q) (Nat.le_refl _) ho (u64_take HRG.out q)
          have ih2 := fun W (hW : Below w.heap.size w W) => ih m k own old (some ⟨b, off, none⟩) q c (ps.take q) W (by omega) h0 hik (by omega) ho (HRW.out W hW) (by omega) (by omega) hcm
          rw [← hg0] at ih2 hok he
          obtain ⟨go, ga, gl, gk⟩ := g
          have HE : Hid (grwR m n own old ps = ⟨go, pairN ga p, gl ++ [(ga, p)], gk⟩) := he
          have hgo := hok.1
          have hga := hok.2.1
          have HUK : Hid (UK gl) := hok.2.2.1
          have hLg : gl.length ≤ 4000 := by have := hok.2.2.2; rw [List.length_take] at this; have : gl.length ≤ 2 * min q ps.length := this; omega
          obtain ⟨Lg, hLL⟩ : ∃ Lg, Lg = gl.length := ⟨_, rfl⟩
          have HLL : Hid (gl.length = Lg) := hLL.symm
          rw [← hLL] at hLg
          have IH : Hid (_) := ih2
          clear hkk he hg0 ih2 ih HRW hok r0 r1 r2 r3 r4 f0 f1 f2 f3 f4 FIN0
          go_enter Try.func25, Try.ntmps25
          go_upto_region 1 with fail
          rw [← HW.out]
          clear HW
          go_wp2_with fail
          refine (half_any _ _ (by omega)).mono ?_
          rintro e w2 ⟨rfl, hw⟩
          have hw2 := hw.symm
          subst hw2
          rw [← HKK.out]
          go_wp2_with fail
          refine (IH.out _ hbb).mono ?_
          rintro e w3 ⟨al, cl, ar, nr, cr, rfl, hol, hb3⟩
          have hol' : OwnK w1.heap.size w3 al gl.length cl gl := hol
          rw [← hLL] at hol'
          have HOL : Hid (OwnK w1.heap.size w3 al Lg cl gl) := hol'
          clear hol hol'
          unfold grv
          simp only []
          rw [← hLL]
          clear hLL
          obtain ⟨w4, hw4⟩ : ∃ w4, w4 = w3.alloc (.cells #[.int .u64 go, .int .u64 ga, .slice al Lg cl, .slice ar nr cr, .bool gk] 47) := ⟨_, rfl⟩
          have hb4 : Below w3.heap.size w3 w4 := by rw [hw4]; exact (Below.refl _ _).alloc (Nat.le_refl _) _
          have hlt4 : w3.heap.size < w4.heap.size := by rw [hw4]; simp
          have HG4 : Hid (∀ W, Below w4.heap.size w4 W → W.heap[w3.heap.size]? = some (.cells #[.int .u64 go, .int .u64 ga, .slice al Lg cl, .slice ar nr cr, .bool gk] 47)) := fun W hW => (hW.block _ hlt4).trans (by rw [hw4]; exact heap_alloc_new _ _)
          have HW4 : Hid (_ = _) := hw4
          have hs3 := hb3.size
          have hb14 : Below w1.heap.size w1 w4 := keepT hb3 hb4
          clear hw4
          go_upto_region 12 with fail
          rw [← HW4.out]
          clear HW4
          have y1 : w4.cell? ⟨w3.heap.size, 1, none⟩ = some (.int .u64 ga) := (cell_of_row _ _ 1 _ 47 (0, 0) (HG4.out _ (Below.refl _ _))).trans rfl
          have y2 : w4.cell? ⟨w3.heap.size, 2, none⟩ = some (.slice al Lg cl) := (cell_of_row _ _ 2 _ 47 (0, 0) (HG4.out _ (Below.refl _ _))).trans rfl
          have hal : Below w4.heap.size w4 (w4.alloc (.cells #[.int .u64 ga, .int .u64 p] 69)) := (Below.refl _ _).alloc (Nat.le_refl _) _
          have hor := HOL.out.kept (keepT hb4 hal)
          have hcl := cell_oneK w4 ga p
          have hbA : Below w1.heap.size w1 (w4.alloc (.cells #[.int .u64 ga, .int .u64 p] 69)) := keepT hb14 hal
          have HGA := HG4.out _ hal
          have hltA : w3.heap.size < (w4.alloc (.cells #[.int .u64 ga, .int .u64 p] 69)).heap.size := by simp; omega
          go_wp2_with (first | (at_builtin; refine wpList_append_own _ rfl (.tmp 60) (.tmp 65) 39 rfl w1.heap.size 69 i0 _ 2 16 Try.underlying39 hi hz0 hz1 hz2 rfl (by decide) _ Lg _ rfl hor.row ⟨w4.heap.size, 0, none⟩ 1 1 (flK [(ga, p)]) rfl rfl hcl (flK_one _) (by unfold maxLen; omega) (by omega) (by have := hbA.size; exact this) ?_; intro v6 w6 hv6 hg6 _; obtain ⟨a6, c6, rfl, ho6⟩ := ownK_appended HUK.out (UK.one hga hpb) hv6; have hb6 : Below w1.heap.size w1 w6 := hbA.grown hg6 hbA.size (fun k hk => (hor.row.lt k hk).1); have hG6 : w6.heap[w3.heap.size]? = some (.cells #[.int .u64 go, .int .u64 ga, .slice al Lg cl, .slice ar nr cr, .bool gk] 47) := (hg6.block w3.heap.size hltA (fun e => grown_ne HGA hor.row e.symm)).trans HGA; have c1 : w6.cell? ⟨w3.heap.size, 1, none⟩ = some (.int .u64 ga) := (cell_of_row _ _ 1 _ 47 (0, 0) hG6).trans rfl; have c2 : w6.cell? ⟨w3.heap.size, 2, none⟩ = some (.slice al Lg cl) := (cell_of_row _ _ 2 _ 47 (0, 0) hG6).trans rfl; have f2 : w6.frozen? ⟨w3.heap.size, 2, none⟩ = false := frozen_of_row w6 _ 2 _ 47 hG6))
          obtain ⟨W6, hW6⟩ : ∃ W6, W6 = w6.setCell ⟨w3.heap.size, 2, none⟩ (.slice a6 (Lg + 1) c6) := ⟨_, rfl⟩
          rw [← hW6]
          have hG7 : W6.heap[w3.heap.size]? = some (.cells #[.int .u64 go, .int .u64 ga, .slice a6 (Lg + 1) c6, .slice ar nr cr, .bool gk] 47 (0, 0)) := by rw [hW6]; exact heap_setCell_same w6 w3.heap.size 2 _ 47 _ hG6
          have HO7 : Hid (OwnK w1.heap.size W6 a6 (Lg + 1) c6 (gl ++ [(ga, p)])) := by rw [hW6]; exact ho6.set_ne hG6 (by decide) _ _
          have hB7 : Below w1.heap.size w1 W6 := by rw [hW6]; exact hb6.setCell (by simp; omega) _
          have hlt7 : w3.heap.size < W6.heap.size := (Array.getElem?_eq_some_iff.1 hG7).1
          clear hW6 ho6 hb6 hG6 c1 c2 f2 hor hcl hbA HGA hal y1 y2 hv6 hg6 HOL hltA
          refine (over_any ga p _ hga hpb).mono ?_
          rintro e w8 ⟨rfl, hb8⟩
          have HO8 : Hid (OwnK w1.heap.size w8 a6 (Lg + 1) c6 (gl ++ [(ga, p)])) := HO7.out.kept hb8
          have hG8 : w8.heap[w3.heap.size]? = some (.cells #[.int .u64 go, .int .u64 ga, .slice a6 (Lg + 1) c6, .slice ar nr cr, .bool gk] 47 (0, 0)) := (hb8.block _ hlt7).trans hG7
          have hB8 : Below w1.heap.size w1 w8 := keepT hB7 hb8
          have s0 : w8.cell? ⟨w3.heap.size, 0, none⟩ = some (.int .u64 go) := (cell_of_row _ _ 0 _ 47 (0, 0) hG8).trans rfl
          have t0 : w8.frozen? ⟨w3.heap.size, 0, none⟩ = false := frozen_of_row w8 _ 0 _ 47 hG8
          have s1 : w8.cell? ⟨w3.heap.size, 1, none⟩ = some (.int .u64 ga) := (cell_of_row _ _ 1 _ 47 (0, 0) hG8).trans rfl
          have t1 : w8.frozen? ⟨w3.heap.size, 1, none⟩ = false := frozen_of_row w8 _ 1 _ 47 hG8
          have s2 : w8.cell? ⟨w3.heap.size, 2, none⟩ = some (.slice a6 (Lg + 1) c6) := (cell_of_row _ _ 2 _ 47 (0, 0) hG8).trans rfl
          have t2 : w8.frozen? ⟨w3.heap.size, 2, none⟩ = false := frozen_of_row w8 _ 2 _ 47 hG8
          have s3 : w8.cell? ⟨w3.heap.size, 3, none⟩ = some (.slice ar nr cr) := (cell_of_row _ _ 3 _ 47 (0, 0) hG8).trans rfl
          have t3 : w8.frozen? ⟨w3.heap.size, 3, none⟩ = false := frozen_of_row w8 _ 3 _ 47 hG8
          have s4 : w8.cell? ⟨w3.heap.size, 4, none⟩ = some (.bool gk) := (cell_of_row _ _ 4 _ 47 (0, 0) hG8).trans rfl
          have t4 : w8.frozen? ⟨w3.heap.size, 4, none⟩ = false := frozen_of_row w8 _ 4 _ 47 hG8
          have r0 : w8.cell? ⟨w.heap.size, 0, none⟩ = some (.int .u64 0) := (cell_of_row _ _ 0 _ 47 (0, 0) (HB.out _ hB8)).trans rfl
          have f0 : w8.frozen? ⟨w.heap.size, 0, none⟩ = false := frozen_of_row w8 _ 0 _ 47 (HB.out _ hB8)
          have r1 : w8.cell? ⟨w.heap.size, 1, none⟩ = some (.int .u64 0) := (cell_of_row _ _ 1 _ 47 (0, 0) (HB.out _ hB8)).trans rfl
          have f1 : w8.frozen? ⟨w.heap.size, 1, none⟩ = false := frozen_of_row w8 _ 1 _ 47 (HB.out _ hB8)
          have r2 : w8.cell? ⟨w.heap.size, 2, none⟩ = some (.slice none 0 0) := (cell_of_row _ _ 2 _ 47 (0, 0) (HB.out _ hB8)).trans rfl
          have f2 : w8.frozen? ⟨w.heap.size, 2, none⟩ = false := frozen_of_row w8 _ 2 _ 47 (HB.out _ hB8)
          have r3 : w8.cell? ⟨w.heap.size, 3, none⟩ = some (.slice none 0 0) := (cell_of_row _ _ 3 _ 47 (0, 0) (HB.out _ hB8)).trans rfl
          have f3 : w8.frozen? ⟨w.heap.size, 3, none⟩ = false := frozen_of_row w8 _ 3 _ 47 (HB.out _ hB8)
          have r4 : w8.cell? ⟨w.heap.size, 4, none⟩ = some (.bool false) := (cell_of_row _ _ 4 _ 47 (0, 0) (HB.out _ hB8)).trans rfl
          have f4 : w8.frozen? ⟨w.heap.size, 4, none⟩ = false := frozen_of_row w8 _ 4 _ 47 (HB.out _ hB8)
          have HG8 : Hid (_ = _) := hG8
          have HB8 : Hid (w8.heap[w.heap.size]? = _) := HB.out _ hB8
          have HBB8 : Hid (Below w.heap.size w w8) := keepT hbb hB8
          have hne : w3.heap.size ≠ w.heap.size := by omega
          clear HO7 hG7 hB7 hb8 hG8 HB
          go_wp2_with fail
          try simp only [Exit.inBlock, Exit.then]
          refine bodyPost_ret (results_gr rfl _ w.heap.size rfl _ _ _ _ _ _ (heap_set5 ((Below.heap_setCell _ _ _ _ (by simp; omega)).trans HB8.out) _ _ _ _ _)) rfl ?_
          rw [HE.out]
          refine ⟨a6, c6, ar, nr, cr, by show _ = Ending.returned (grv _ a6 (List.length (gl ++ [(ga, p)])) c6 ar nr cr); rw [List.length_append, HLL.out]; rfl, ?_, ?_⟩
          · show OwnK w.heap.size _ a6 (List.length (gl ++ [(ga, p)])) c6 (gl ++ [(ga, p)])
            rw [List.length_append, HLL.out]
            exact ((HO8.out.set_ne HG8.out (by decide) _ _).set5 (by omega) _ _ _ _ _).mono (by omega)
          · exact below_set5 (HBB8.out.setCell (by simp; omega) _) _ (Nat.le_refl _) _ _ _ _ _
        · obtain ⟨q2, rfl⟩ : ∃ q2, m = k + q2 := ⟨m - k, by omega⟩
          obtain ⟨d, rfl⟩ : ∃ d, n = k + d := ⟨n - k, by omega⟩
          have k1 : ¬ (k : Int) + (q2 : Int) ≤ (k : Int) := by omega
          have k2 : (k : Int) + (q2 : Int) - (k : Int) = (q2 : Int) := by omega
          have k3 : (k : Int) + (d : Int) - (k : Int) = (d : Int) := by omega
          have k4 : IntKind.i64.wrap (q2 : Int) = (q2 : Int) := by rw [IntKind.wrap_i64]; omega
          have k5 : IntKind.i64.wrap (d : Int) = (d : Int) := by rw [IntKind.wrap_i64]; omega
          have he := grwR_hi (k + q2) (k + d) own old ps (by omega) (by omega) q HL.out (by rw [← hkk]; omega)
          rw [← hkk, ← HP.out, Nat.add_sub_cancel_left, Nat.add_sub_cancel_left] at he
          obtain ⟨g, hg0⟩ : ∃ g, g = grwR q2 d false old (ps.take q) := ⟨_, rfl⟩
          have hok := grwR_ok d q2 d false old (ps.take q) (Nat.le_refl _) ho (u64_take HRG.out q)
          have ih2 := fun W (hW : Below w.heap.size w W) => ih q2 d false old (some ⟨b, off, none⟩) q c (ps.take q) W (by omega) (by omega) (by omega) (by omega) ho (HRW.out W hW) (by omega) (by omega) hcm
          rw [← hg0] at ih2 hok he
          obtain ⟨go, ga, gl, gk⟩ := g
          have HE : Hid (grwR (k + q2) (k + d) own old ps = ⟨pairN p go, pairN p ga, gl ++ [(p, ga)] ++ [(p, go)], gk⟩) := he
          have hgo := hok.1
          have hga := hok.2.1
          have HUK : Hid (UK gl) := hok.2.2.1
          have hLg : gl.length ≤ 4000 := by have := hok.2.2.2; rw [List.length_take] at this; have : gl.length ≤ 2 * min q ps.length := this; omega
          obtain ⟨Lg, hLL⟩ : ∃ Lg, Lg = gl.length := ⟨_, rfl⟩
          have HLL : Hid (gl.length = Lg) := hLL.symm
          rw [← hLL] at hLg
          have IH : Hid (_) := ih2
          clear hkk he hg0 ih2 ih HRW hok r0 r1 r2 r3 r4 f0 f1 f2 f3 f4 FIN0
          go_enter Try.func25, Try.ntmps25
          go_upto_region 1 with fail
          rw [← HW.out]
          clear HW
          go_wp2_with fail
          refine (half_any _ _ (by omega)).mono ?_
          rintro e w2 ⟨rfl, hw⟩
          have hw2 := hw.symm
          subst hw2
          rw [← HKK.out]
          go_wp2_with fail
          refine (IH.out _ hbb).mono ?_
          rintro e w3 ⟨al, cl, ar, nr, cr, rfl, hol, hb3⟩
          have hol' : OwnK w1.heap.size w3 al gl.length cl gl := hol
          rw [← hLL] at hol'
          have HOL : Hid (OwnK w1.heap.size w3 al Lg cl gl) := hol'
          clear hol hol'
          unfold grv
          simp only []
          rw [← hLL]
          clear hLL
          obtain ⟨w4, hw4⟩ : ∃ w4, w4 = w3.alloc (.cells #[.int .u64 go, .int .u64 ga, .slice al Lg cl, .slice ar nr cr, .bool gk] 47) := ⟨_, rfl⟩
          have hb4 : Below w3.heap.size w3 w4 := by rw [hw4]; exact (Below.refl _ _).alloc (Nat.le_refl _) _
          have hlt4 : w3.heap.size < w4.heap.size := by rw [hw4]; simp
          have HG4 : Hid (∀ W, Below w4.heap.size w4 W → W.heap[w3.heap.size]? = some (.cells #[.int .u64 go, .int .u64 ga, .slice al Lg cl, .slice ar nr cr, .bool gk] 47)) := fun W hW => (hW.block _ hlt4).trans (by rw [hw4]; exact heap_alloc_new _ _)
          have HW4 : Hid (_ = _) := hw4
          have hs3 := hb3.size
          have hb14 : Below w1.heap.size w1 w4 := keepT hb3 hb4
          clear hw4
          go_upto_region 16 with fail
          rw [← HW4.out]
          clear HW4
          have y0 : w4.cell? ⟨w3.heap.size, 0, none⟩ = some (.int .u64 go) := (cell_of_row _ _ 0 _ 47 (0, 0) (HG4.out _ (Below.refl _ _))).trans rfl
          have y1 : w4.cell? ⟨w3.heap.size, 1, none⟩ = some (.int .u64 ga) := (cell_of_row _ _ 1 _ 47 (0, 0) (HG4.out _ (Below.refl _ _))).trans rfl
          have y2 : w4.cell? ⟨w3.heap.size, 2, none⟩ = some (.slice al Lg cl) := (cell_of_row _ _ 2 _ 47 (0, 0) (HG4.out _ (Below.refl _ _))).trans rfl
          have bala : Below w4.heap.size w4 (w4.drew.alloc (.cells #[.int .u64 p, .int .u64 ga] 69)) := (((Below.refl _ _).drew).alloc (Nat.le_refl _) _)
          have hora : (w4.drew.alloc (.cells #[.int .u64 p, .int .u64 ga] 69)).ownsRow w1.heap.size 69 2 (.slice al Lg cl) Lg (flK gl) := (HOL.out.kept (keepT hb4 bala)).row
          have hcla : ∀ jj uu, (flK [(p, ga)])[jj]? = some uu → (w4.drew.alloc (.cells #[.int .u64 p, .int .u64 ga] 69)).cell? ((⟨w4.heap.size, 0, none⟩ : Addr).add jj) = some uu := cell_oneK w4.drew p ga
          have hbxa : Below w1.heap.size w1 (w4.drew.alloc (.cells #[.int .u64 p, .int .u64 ga] 69)) := keepT hb14 bala
          have hgxa := HG4.out _ bala
          have hlta : w3.heap.size < (w4.drew.alloc (.cells #[.int .u64 p, .int .u64 ga] 69)).heap.size := by simp; omega
          have balb : Below w4.heap.size w4 ((w4.drew.alloc (.cells #[.int .u64 p, .int .u64 go] 69)).alloc (.cells #[.int .u64 p, .int .u64 ga] 69)) := ((((Below.refl _ _).drew).alloc (Nat.le_refl _) _).alloc (by simp) _)
          have horb : ((w4.drew.alloc (.cells #[.int .u64 p, .int .u64 go] 69)).alloc (.cells #[.int .u64 p, .int .u64 ga] 69)).ownsRow w1.heap.size 69 2 (.slice al Lg cl) Lg (flK gl) := (HOL.out.kept (keepT hb4 balb)).row
          have hclb : ∀ jj uu, (flK [(p, ga)])[jj]? = some uu → ((w4.drew.alloc (.cells #[.int .u64 p, .int .u64 go] 69)).alloc (.cells #[.int .u64 p, .int .u64 ga] 69)).cell? ((⟨w4.heap.size + 1, 0, none⟩ : Addr).add jj) = some uu := (by have h := cell_oneK (w4.drew.alloc (.cells #[.int .u64 p, .int .u64 go] 69)) p ga; simpa using h)
          have hbxb : Below w1.heap.size w1 ((w4.drew.alloc (.cells #[.int .u64 p, .int .u64 go] 69)).alloc (.cells #[.int .u64 p, .int .u64 ga] 69)) := keepT hb14 balb
          have hgxb := HG4.out _ balb
          have hltb : w3.heap.size < ((w4.drew.alloc (.cells #[.int .u64 p, .int .u64 go] 69)).alloc (.cells #[.int .u64 p, .int .u64 ga] 69)).heap.size := by simp; omega
          have balc : Below w4.heap.size w4 ((w4.drew.alloc (.cells #[.int .u64 p, .int .u64 ga] 69)).alloc (.cells #[.int .u64 p, .int .u64 go] 69)) := ((((Below.refl _ _).drew).alloc (Nat.le_refl _) _).alloc (by simp) _)
          have horc : ((w4.drew.alloc (.cells #[.int .u64 p, .int .u64 ga] 69)).alloc (.cells #[.int .u64 p, .int .u64 go] 69)).ownsRow w1.heap.size 69 2 (.slice al Lg cl) Lg (flK gl) := (HOL.out.kept (keepT hb4 balc)).row
          have hclc : ∀ jj uu, (flK [(p, ga)])[jj]? = some uu → ((w4.drew.alloc (.cells #[.int .u64 p, .int .u64 ga] 69)).alloc (.cells #[.int .u64 p, .int .u64 go] 69)).cell? ((⟨w4.heap.size, 0, none⟩ : Addr).add jj) = some uu := (fun jj uu hju => ((Below.refl (w4.drew.alloc (.cells #[.int .u64 p, .int .u64 ga] 69)).heap.size (w4.drew.alloc (.cells #[.int .u64 p, .int .u64 ga] 69))).alloc (Nat.le_refl _) (.cells #[.int .u64 p, .int .u64 go] 69)).cell (p := (⟨w4.heap.size, 0, none⟩ : Addr).add jj) (by rw [Addr.add_lit]; simp) |>.trans (cell_oneK w4.drew p ga jj uu hju))
          have hbxc : Below w1.heap.size w1 ((w4.drew.alloc (.cells #[.int .u64 p, .int .u64 ga] 69)).alloc (.cells #[.int .u64 p, .int .u64 go] 69)) := keepT hb14 balc
          have hgxc := HG4.out _ balc
          have hltc : w3.heap.size < ((w4.drew.alloc (.cells #[.int .u64 p, .int .u64 ga] 69)).alloc (.cells #[.int .u64 p, .int .u64 go] 69)).heap.size := by simp; omega
          have hlbb : ((w4.drew.alloc (.cells #[.int .u64 p, .int .u64 go] 69)).alloc (.cells #[.int .u64 p, .int .u64 ga] 69)).heap[w4.heap.size]? = some (.cells #[.int .u64 p, .int .u64 go] 69) := (heap_alloc_old _ _ (by simp)).trans (heap_alloc_new w4.drew _)
          have hlbc : ((w4.drew.alloc (.cells #[.int .u64 p, .int .u64 ga] 69)).alloc (.cells #[.int .u64 p, .int .u64 go] 69)).heap[w4.heap.size + 1]? = some (.cells #[.int .u64 p, .int .u64 go] 69) := by have h := heap_alloc_new (w4.drew.alloc (.cells #[.int .u64 p, .int .u64 ga] 69)) (.cells #[.int .u64 p, .int .u64 go] 69); simpa using h
          go_region_law (first
            | (refine step_append_ownT rfl (.tmp 84) (.tmp 89) 39 rfl w1.heap.size 69 i0 _ 2 16 Try.underlying39 hi hz0 hz1 hz2 rfl (by decide) _ Lg _ rfl hora ⟨w4.heap.size, 0, none⟩ 1 1 (flK [(p, ga)]) rfl rfl hcla (flK_one _) (by unfold maxLen; omega) (by omega) (by have := hbxa.size; exact this) ?_; intro v6 w6 hv6 hg6; obtain ⟨a6, c6, rfl, ho6⟩ := ownK_appended HUK.out (UK.one hpb hga) hv6; have hb6 : Below w1.heap.size w1 w6 := hbxa.grown hg6 hbxa.size (fun k hk => (hora.lt k hk).1); have hG6 : w6.heap[w3.heap.size]? = some (.cells #[.int .u64 go, .int .u64 ga, .slice al Lg cl, .slice ar nr cr, .bool gk] 47) := (hg6.block w3.heap.size hlta (fun e => grown_ne hgxa hora e.symm)).trans hgxa; have hlt6 := (Array.getElem?_eq_some_iff.1 hG6).1; have c0 : w6.cell? ⟨w3.heap.size, 0, none⟩ = some (.int .u64 go) := (cell_of_row _ _ 0 _ 47 (0, 0) hG6).trans rfl; have hal6 : Below w6.heap.size w6 (w6.alloc (.cells #[.int .u64 p, .int .u64 go] 69)) := (Below.refl _ _).alloc (Nat.le_refl _) _; have h2a := (ho6.kept hal6).row; have l2a := cell_oneK w6 p go; have b2a := keepT hb6 hal6; have g2a := (hal6.block _ hlt6).trans hG6)
            | (refine step_append_ownT rfl (.tmp 84) (.tmp 89) 39 rfl w1.heap.size 69 i0 _ 2 16 Try.underlying39 hi hz0 hz1 hz2 rfl (by decide) _ Lg _ rfl horb ⟨w4.heap.size + 1, 0, none⟩ 1 1 (flK [(p, ga)]) rfl rfl hclb (flK_one _) (by unfold maxLen; omega) (by omega) (by have := hbxb.size; exact this) ?_; intro v6 w6 hv6 hg6; obtain ⟨a6, c6, rfl, ho6⟩ := ownK_appended HUK.out (UK.one hpb hga) hv6; have hb6 : Below w1.heap.size w1 w6 := hbxb.grown hg6 hbxb.size (fun k hk => (horb.lt k hk).1); have hG6 : w6.heap[w3.heap.size]? = some (.cells #[.int .u64 go, .int .u64 ga, .slice al Lg cl, .slice ar nr cr, .bool gk] 47) := (hg6.block w3.heap.size hltb (fun e => grown_ne hgxb horb e.symm)).trans hgxb; have hlt6 := (Array.getElem?_eq_some_iff.1 hG6).1; have c0 : w6.cell? ⟨w3.heap.size, 0, none⟩ = some (.int .u64 go) := (cell_of_row _ _ 0 _ 47 (0, 0) hG6).trans rfl; have h2b := ho6.row; have l2b := blk_cells ((hg6.block w4.heap.size (by first | (simp; done) | (simp; omega)) (fun e => by have := (HOL.out.row.lt _ e.symm).2; omega)).trans hlbb))
            | (refine step_append_ownT rfl (.tmp 84) (.tmp 89) 39 rfl w1.heap.size 69 i0 _ 2 16 Try.underlying39 hi hz0 hz1 hz2 rfl (by decide) _ Lg _ rfl horc ⟨w4.heap.size, 0, none⟩ 1 1 (flK [(p, ga)]) rfl rfl hclc (flK_one _) (by unfold maxLen; omega) (by omega) (by have := hbxc.size; exact this) ?_; intro v6 w6 hv6 hg6; obtain ⟨a6, c6, rfl, ho6⟩ := ownK_appended HUK.out (UK.one hpb hga) hv6; have hb6 : Below w1.heap.size w1 w6 := hbxc.grown hg6 hbxc.size (fun k hk => (horc.lt k hk).1); have hG6 : w6.heap[w3.heap.size]? = some (.cells #[.int .u64 go, .int .u64 ga, .slice al Lg cl, .slice ar nr cr, .bool gk] 47) := (hg6.block w3.heap.size hltc (fun e => grown_ne hgxc horc e.symm)).trans hgxc; have hlt6 := (Array.getElem?_eq_some_iff.1 hG6).1; have c0 : w6.cell? ⟨w3.heap.size, 0, none⟩ = some (.int .u64 go) := (cell_of_row _ _ 0 _ 47 (0, 0) hG6).trans rfl; have h2c := ho6.row; have l2c := blk_cells ((hg6.block (w4.heap.size + 1) (by first | (simp; done) | (simp; omega)) (fun e => by have := (HOL.out.row.lt _ e.symm).2; omega)).trans hlbc))
            | (refine step_append_ownT rfl (.tmp 90) (.tmp 95) 39 rfl w1.heap.size 69 i0 _ 2 16 Try.underlying39 hi hz0 hz1 hz2 rfl (by decide) _ (Lg + 1) _ rfl h2a ⟨w6.heap.size, 0, none⟩ 1 1 (flK [(p, go)]) rfl rfl l2a (flK_one _) (by unfold maxLen; omega) (by omega) (by have := b2a.size; exact this) ?_; intro v7 w7 hv7 hg7; obtain ⟨a7, c7, rfl, ho7⟩ := ownK_appended (HUK.out.append (UK.one hpb hga)) (UK.one hpb hgo) hv7; have hb7 : Below w1.heap.size w1 w7 := b2a.grown hg7 b2a.size (fun k hk => (h2a.lt k hk).1); have hG7 : w7.heap[w3.heap.size]? = some (.cells #[.int .u64 go, .int .u64 ga, .slice al Lg cl, .slice ar nr cr, .bool gk] 47) := (hg7.block w3.heap.size (Array.getElem?_eq_some_iff.1 g2a).1 (fun e => grown_ne g2a h2a e.symm)).trans g2a; have c2 : w7.cell? ⟨w3.heap.size, 2, none⟩ = some (.slice al Lg cl) := (cell_of_row _ _ 2 _ 47 (0, 0) hG7).trans rfl; have f2 : w7.frozen? ⟨w3.heap.size, 2, none⟩ = false := frozen_of_row w7 _ 2 _ 47 hG7; have c1 : w7.cell? ⟨w3.heap.size, 1, none⟩ = some (.int .u64 ga) := (cell_of_row _ _ 1 _ 47 (0, 0) hG7).trans rfl)
            | (refine step_append_ownT rfl (.tmp 90) (.tmp 95) 39 rfl w1.heap.size 69 i0 _ 2 16 Try.underlying39 hi hz0 hz1 hz2 rfl (by decide) _ (Lg + 1) _ rfl h2b ⟨w4.heap.size, 0, none⟩ 1 1 (flK [(p, go)]) rfl rfl l2b (flK_one _) (by unfold maxLen; omega) (by omega) (by have := hb6.size; exact this) ?_; intro v7 w7 hv7 hg7; obtain ⟨a7, c7, rfl, ho7⟩ := ownK_appended (HUK.out.append (UK.one hpb hga)) (UK.one hpb hgo) hv7; have hb7 : Below w1.heap.size w1 w7 := hb6.grown hg7 hb6.size (fun k hk => (h2b.lt k hk).1); have hG7 : w7.heap[w3.heap.size]? = some (.cells #[.int .u64 go, .int .u64 ga, .slice al Lg cl, .slice ar nr cr, .bool gk] 47) := (hg7.block w3.heap.size (Array.getElem?_eq_some_iff.1 hG6).1 (fun e => grown_ne hG6 h2b e.symm)).trans hG6; have c2 : w7.cell? ⟨w3.heap.size, 2, none⟩ = some (.slice al Lg cl) := (cell_of_row _ _ 2 _ 47 (0, 0) hG7).trans rfl; have f2 : w7.frozen? ⟨w3.heap.size, 2, none⟩ = false := frozen_of_row w7 _ 2 _ 47 hG7; have c1 : w7.cell? ⟨w3.heap.size, 1, none⟩ = some (.int .u64 ga) := (cell_of_row _ _ 1 _ 47 (0, 0) hG7).trans rfl)
            | (refine step_append_ownT rfl (.tmp 90) (.tmp 95) 39 rfl w1.heap.size 69 i0 _ 2 16 Try.underlying39 hi hz0 hz1 hz2 rfl (by decide) _ (Lg + 1) _ rfl h2c ⟨w4.heap.size + 1, 0, none⟩ 1 1 (flK [(p, go)]) rfl rfl l2c (flK_one _) (by unfold maxLen; omega) (by omega) (by have := hb6.size; exact this) ?_; intro v7 w7 hv7 hg7; obtain ⟨a7, c7, rfl, ho7⟩ := ownK_appended (HUK.out.append (UK.one hpb hga)) (UK.one hpb hgo) hv7; have hb7 : Below w1.heap.size w1 w7 := hb6.grown hg7 hb6.size (fun k hk => (h2c.lt k hk).1); have hG7 : w7.heap[w3.heap.size]? = some (.cells #[.int .u64 go, .int .u64 ga, .slice al Lg cl, .slice ar nr cr, .bool gk] 47) := (hg7.block w3.heap.size (Array.getElem?_eq_some_iff.1 hG6).1 (fun e => grown_ne hG6 h2c e.symm)).trans hG6; have c2 : w7.cell? ⟨w3.heap.size, 2, none⟩ = some (.slice al Lg cl) := (cell_of_row _ _ 2 _ 47 (0, 0) hG7).trans rfl; have f2 : w7.frozen? ⟨w3.heap.size, 2, none⟩ = false := frozen_of_row w7 _ 2 _ 47 hG7; have c1 : w7.cell? ⟨w3.heap.size, 1, none⟩ = some (.int .u64 ga) := (cell_of_row _ _ 1 _ 47 (0, 0) hG7).trans rfl))
          all_goals
            obtain ⟨W6, hW6⟩ : ∃ W6, W6 = w7.setCell ⟨w3.heap.size, 2, none⟩ (.slice a7 (Lg + 1 + 1) c7) := ⟨_, rfl⟩
            have hG8 : W6.heap[w3.heap.size]? = some (.cells #[.int .u64 go, .int .u64 ga, .slice a7 (Lg + 1 + 1) c7, .slice ar nr cr, .bool gk] 47 (0, 0)) := by rw [hW6]; exact heap_setCell_same w7 w3.heap.size 2 _ 47 _ hG7
            have HO8 : Hid (OwnK w1.heap.size W6 a7 (Lg + 1 + 1) c7 (gl ++ [(p, ga)] ++ [(p, go)])) := by rw [hW6]; exact ho7.set_ne hG7 (by decide) _ _
            have hB8 : Below w1.heap.size w1 W6 := by rw [hW6]; exact hb7.setCell (by simp; omega) _
            have HW6 : Hid (_ = _) := hW6
            clear hW6
            go_wp2_with fail
            rw [← HW6.out]
            clear HW6 ho7 hb7 hG7 c1 c2 f2
            refine (over_any p ga _ hpb hga).mono ?_
            rintro e w8 ⟨rfl, hb9⟩
            have HO9 : Hid (OwnK w1.heap.size w8 a7 (Lg + 1 + 1) c7 (gl ++ [(p, ga)] ++ [(p, go)])) := HO8.out.kept hb9
            have hG9 : w8.heap[w3.heap.size]? = some (.cells #[.int .u64 go, .int .u64 ga, .slice a7 (Lg + 1 + 1) c7, .slice ar nr cr, .bool gk] 47 (0, 0)) := (hb9.block _ (Array.getElem?_eq_some_iff.1 hG8).1).trans hG8
            have hB9 : Below w1.heap.size w1 w8 := keepT hB8 hb9
            have e0 : w8.cell? ⟨w3.heap.size, 0, none⟩ = some (.int .u64 go) := (cell_of_row _ _ 0 _ 47 (0, 0) hG9).trans rfl
            have e1 : w8.cell? ⟨w3.heap.size, 1, none⟩ = some (.int .u64 ga) := (cell_of_row _ _ 1 _ 47 (0, 0) hG9).trans rfl
            have x1 : w8.frozen? ⟨w3.heap.size, 1, none⟩ = false := frozen_of_row w8 _ 1 _ 47 hG9
            obtain ⟨W9, hW9⟩ : ∃ W9, W9 = w8.setCell ⟨w3.heap.size, 1, none⟩ (.int .u64 (pairN p ga)) := ⟨_, rfl⟩
            have hG10 : W9.heap[w3.heap.size]? = some (.cells #[.int .u64 go, .int .u64 (pairN p ga), .slice a7 (Lg + 1 + 1) c7, .slice ar nr cr, .bool gk] 47 (0, 0)) := by rw [hW9]; exact heap_setCell_same w8 w3.heap.size 1 _ 47 _ hG9
            have HO10 : Hid (OwnK w1.heap.size W9 a7 (Lg + 1 + 1) c7 (gl ++ [(p, ga)] ++ [(p, go)])) := by rw [hW9]; exact HO9.out.set_ne hG9 (by decide) _ _
            have hB10 : Below w1.heap.size w1 W9 := by rw [hW9]; exact hB9.setCell (by simp; omega) _
            have HW9 : Hid (_ = _) := hW9
            clear hW9
            go_wp2_with fail
            rw [← HW9.out]
            clear HW9 HO8 HO9 hG8 hG9 hB8 hB9 e0 e1 x1 hb9
            refine (over_any p go _ hpb hgo).mono ?_
            rintro e w10 ⟨rfl, hb11⟩
            have HO11 : Hid (OwnK w1.heap.size w10 a7 (Lg + 1 + 1) c7 (gl ++ [(p, ga)] ++ [(p, go)])) := HO10.out.kept hb11
            have hG11 : w10.heap[w3.heap.size]? = some (.cells #[.int .u64 go, .int .u64 (pairN p ga), .slice a7 (Lg + 1 + 1) c7, .slice ar nr cr, .bool gk] 47 (0, 0)) := (hb11.block _ (Array.getElem?_eq_some_iff.1 hG10).1).trans hG10
            have hB11 : Below w1.heap.size w1 w10 := keepT hB10 hb11
            have s0 : w10.cell? ⟨w3.heap.size, 0, none⟩ = some (.int .u64 go) := (cell_of_row _ _ 0 _ 47 (0, 0) hG11).trans rfl
            have t0 : w10.frozen? ⟨w3.heap.size, 0, none⟩ = false := frozen_of_row w10 _ 0 _ 47 hG11
            have s1 : w10.cell? ⟨w3.heap.size, 1, none⟩ = some (.int .u64 (pairN p ga)) := (cell_of_row _ _ 1 _ 47 (0, 0) hG11).trans rfl
            have t1 : w10.frozen? ⟨w3.heap.size, 1, none⟩ = false := frozen_of_row w10 _ 1 _ 47 hG11
            have s2 : w10.cell? ⟨w3.heap.size, 2, none⟩ = some (.slice a7 (Lg + 1 + 1) c7) := (cell_of_row _ _ 2 _ 47 (0, 0) hG11).trans rfl
            have t2 : w10.frozen? ⟨w3.heap.size, 2, none⟩ = false := frozen_of_row w10 _ 2 _ 47 hG11
            have s3 : w10.cell? ⟨w3.heap.size, 3, none⟩ = some (.slice ar nr cr) := (cell_of_row _ _ 3 _ 47 (0, 0) hG11).trans rfl
            have t3 : w10.frozen? ⟨w3.heap.size, 3, none⟩ = false := frozen_of_row w10 _ 3 _ 47 hG11
            have s4 : w10.cell? ⟨w3.heap.size, 4, none⟩ = some (.bool gk) := (cell_of_row _ _ 4 _ 47 (0, 0) hG11).trans rfl
            have t4 : w10.frozen? ⟨w3.heap.size, 4, none⟩ = false := frozen_of_row w10 _ 4 _ 47 hG11
            have r0 : w10.cell? ⟨w.heap.size, 0, none⟩ = some (.int .u64 0) := (cell_of_row _ _ 0 _ 47 (0, 0) (HB.out _ hB11)).trans rfl
            have f0 : w10.frozen? ⟨w.heap.size, 0, none⟩ = false := frozen_of_row w10 _ 0 _ 47 (HB.out _ hB11)
            have r1 : w10.cell? ⟨w.heap.size, 1, none⟩ = some (.int .u64 0) := (cell_of_row _ _ 1 _ 47 (0, 0) (HB.out _ hB11)).trans rfl
            have f1 : w10.frozen? ⟨w.heap.size, 1, none⟩ = false := frozen_of_row w10 _ 1 _ 47 (HB.out _ hB11)
            have r2 : w10.cell? ⟨w.heap.size, 2, none⟩ = some (.slice none 0 0) := (cell_of_row _ _ 2 _ 47 (0, 0) (HB.out _ hB11)).trans rfl
            have f2 : w10.frozen? ⟨w.heap.size, 2, none⟩ = false := frozen_of_row w10 _ 2 _ 47 (HB.out _ hB11)
            have r3 : w10.cell? ⟨w.heap.size, 3, none⟩ = some (.slice none 0 0) := (cell_of_row _ _ 3 _ 47 (0, 0) (HB.out _ hB11)).trans rfl
            have f3 : w10.frozen? ⟨w.heap.size, 3, none⟩ = false := frozen_of_row w10 _ 3 _ 47 (HB.out _ hB11)
            have r4 : w10.cell? ⟨w.heap.size, 4, none⟩ = some (.bool false) := (cell_of_row _ _ 4 _ 47 (0, 0) (HB.out _ hB11)).trans rfl
            have f4 : w10.frozen? ⟨w.heap.size, 4, none⟩ = false := frozen_of_row w10 _ 4 _ 47 (HB.out _ hB11)
            have HG8 : Hid (_ = _) := hG11
            have HB8 : Hid (w10.heap[w.heap.size]? = _) := HB.out _ hB11
            have HBB8 : Hid (Below w.heap.size w w10) := keepT hbb hB11
            have hne : w3.heap.size ≠ w.heap.size := by omega
            clear HO10 hG10 hB10 hb11 hG11 HB
            go_wp2_with fail
            try simp only [Exit.inBlock, Exit.then]
            refine bodyPost_ret (results_gr rfl _ w.heap.size rfl _ _ _ _ _ _ (heap_set5 ((Below.heap_setCell _ _ _ _ (by simp; omega)).trans HB8.out) _ _ _ _ _)) rfl ?_
            rw [HE.out]
            refine ⟨a7, c7, ar, nr, cr, by show _ = Ending.returned (grv _ a7 (List.length (gl ++ [(p, ga)] ++ [(p, go)])) c7 ar nr cr); rw [List.length_append, List.length_append, HLL.out]; rfl, ?_, ?_⟩
            · show OwnK w.heap.size _ a7 (List.length (gl ++ [(p, ga)] ++ [(p, go)])) c7 (gl ++ [(p, ga)] ++ [(p, go)])
              rw [List.length_append, List.length_append, HLL.out]
              exact ((HO11.out.set_ne HG8.out (by decide) _ _).set5 (by omega) _ _ _ _ _).mono (by omega)
            · exact below_set5 (HBB8.out.setCell (by simp; omega) _) _ (Nat.le_refl _) _ _ _ _ _

end Go.Proofs.Ythncodopdcmfiaa

