import Derived.Test.YtlcojjcgaibbiaaMK1
set_option linter.unusedVariables false
namespace Go.Proofs.Ytlcojjcgaibbiaa
open Go.RowKit Go.Shelf

attribute [local go_sem] Oper.semAt_some

set_option maxRecDepth 100000 in
set_option maxRecDepth 10000 in
set_option maxHeartbeats 1000000 in
theorem chunk1_nil_in (F : Fence) (n : Nat) (hF : F.fn 42) (hro : F.round = none) (l Bs Bn : Nat) (a : Option Addr) (cap : Nat) (J : List Nat → World → Prop) (W : World) (cS : W.cell? ⟨Bs, 0, none⟩ = some (.slice a 0 cap)) (h0 : J [] W) :
    CallsIn F n Try.prog 42 #[.func (.yield l) #[] #[], .pointer (some ⟨Bs, 0, none⟩), .pointer (some ⟨Bn, 0, none⟩)] W fun e W' => (∃ v, e = .returned v) ∧ J [] W' := by
  refine callsIn_of_wp Try.func42 rfl hF ?_ hro
  simp only [Try.ntmps42, List.size_toArray, List.length_cons, List.length_nil, Nat.reduceAdd, Nat.reduceSub, Array.replicate_succ, Array.replicate_zero, List.push_toArray, List.append_toArray, List.nil_append, List.cons_append]
  gi_wp2
  gi_loopw [4] (fun i wr => i = .int .i64 0 ∧ wr = W) (fun _ _ => 0)
  case atStart => exact ⟨rfl, rfl⟩
  case round =>
    obtain ⟨rfl, rfl⟩ := hrel
    gi_wp2
    go_end0
    exact ⟨⟨_, rfl⟩, h0⟩

theorem chunk_stops (F : Fence) (n : Nat) (hF : F.fn 42) (hro : F.round = none) (hn : 1 ≤ n) (Bs Bn n₀ : Nat) (b off m cap : Nat) (a : Option Addr) (ha : a = some ⟨b, off, none⟩ ∨ m = 0) (hm : m ≤ 4000) (hcap : m ≤ cap) (w : World) (hBs : Bs < n₀) (hBn : Bn < n₀) (hn₀ : n₀ ≤ w.heap.size)
    (cS : w.cell? ⟨Bs, 0, none⟩ = some (.slice a m cap)) (cN : w.cell? ⟨Bn, 0, none⟩ = some (.int .i64 64)) :
    SeqStopsK F n Try.prog 42 #[.pointer (some ⟨Bs, 0, none⟩), .pointer (some ⟨Bn, 0, none⟩)] (fun x : Nat => #[pcV b off m x]) (Below n₀) (fun ys => ys = List.range (pcN m)) (fun _ => True) (pcN m) w := fun l J Jx W hW hJ _ hY h0 => by
  have c1 := (hW.cell (p := ⟨Bs, 0, none⟩) (by show Bs < _; omega)).trans cS
  have c2 := (hW.cell (p := ⟨Bn, 0, none⟩) (by show Bn < _; omega)).trans cN
  by_cases hz : m = 0
  · subst hz
    refine (chunk1_nil_in F n hF hro l Bs Bn a cap J W c1 h0).mono ?_
    rintro e W' ⟨h1, h2⟩
    exact ⟨h1, .inl ⟨[], rfl, h2⟩⟩
  · obtain rfl := ha.resolve_right hz
    exact chunk1_in F n hF hro hn l Bs Bn n₀ b off m cap hm hcap hBs hBn J Jx _ hJ hY W c1 c2 h0

set_option maxRecDepth 100000 in
set_option maxRecDepth 10000 in
set_option maxHeartbeats 1000000 in
theorem chunk_any (a : Option Addr) (m cap : Nat) (w : World) :
    Calls Try.prog 22 #[.slice a m cap, .int .i64 64] w fun e w' => e = .returned (.func (.func 42) #[] #[.pointer (some ⟨w.heap.size, 0, none⟩), .pointer (some ⟨w.heap.size + 1, 0, none⟩)]) ∧ w' = (w.alloc (.cells #[.slice a m cap] 22)).alloc (.cells #[.int .i64 64] 3) := by
  go_enter Try.func22, Try.ntmps22
  go_wp2
  go_ret
  exact ⟨rfl, rfl⟩

theorem Try.infoSl : (Try.prog.info? 22).map (fun i => (i.zero, i.size, i.bytes)) = some (some (.slice none 0 0), 1, 24) := by kernel_rfl

set_option maxRecDepth 100000 in
set_option maxRecDepth 10000 in
set_option maxHeartbeats 2000000 in
theorem appendSeq_in (F : Fence) (n : Nat) (h3 : F.fn 41) (h5 : F.fn 42) (hro : F.round = none) (hn : 3 ≤ n) (Bs Bn : Nat) (b off m cap : Nat) (a : Option Addr) (ha : a = some ⟨b, off, none⟩ ∨ m = 0) (hm : m ≤ 4000) (hcap : m ≤ cap) (w : World) (hBs : Bs < w.heap.size) (hBn : Bn < w.heap.size)
    (cS : w.cell? ⟨Bs, 0, none⟩ = some (.slice a m cap)) (cN : w.cell? ⟨Bn, 0, none⟩ = some (.int .i64 64)) :
    CallsIn F n Try.prog 41 #[.slice none 0 0, .func (.func 42) #[] #[.pointer (some ⟨Bs, 0, none⟩), .pointer (some ⟨Bn, 0, none⟩)]] w fun e W' => ∃ v, e = .returned v ∧ W'.ownsRow w.heap.size 22 1 v (pcN m) ((List.range (pcN m)).map (pcV b off m)) ∧ Below w.heap.size w W' := by
  have h1 : 1 ≤ n := by omega
  have hpn : pcN m ≤ 64 := by unfold pcN; omega
  obtain ⟨i0, hi, hz0, hz1, hz2⟩ := info_parts Try.infoSl
  refine callsIn_of_wp_marks Try.func41 rfl h3 ?_ hro
  simp only [Try.ntmps41, List.size_toArray, List.length_cons, List.length_nil, Nat.reduceAdd, Nat.reduceSub, Array.replicate_succ, Array.replicate_zero, List.push_toArray, List.append_toArray, List.nil_append, List.cons_append]
  gi_wp2
  have bO := Boxed.new w 48 (.slice none 0 0)
  have hB0 : Below w.heap.size w (w.alloc (.cells #[.slice none 0 0] 48)) := (Below.refl _ w).alloc (Nat.le_refl _) _
  refine wpIn_rangeFunc_ownG hro h1 (gf := 42) (lb := #[.pointer (some ⟨Bs, 0, none⟩), .pointer (some ⟨Bn, 0, none⟩)]) rfl h5 (enters_of Try.func42 (by kernel_rfl) rfl)
    (chunk_stops F (n - 1) h5 hro (by omega) Bs Bn w.heap.size b off m cap a ha hm hcap _ hBs hBn hB0.size ((hB0.cell (p := ⟨Bs, 0, none⟩) hBs).trans cS) ((hB0.cell (p := ⟨Bn, 0, none⟩) hBn).trans cN)) belowK_t (belowK_b hB0.size) (Below.refl _ _) (fun _ => rfl)
    (fun pre W => (∃ v, Boxed W w.heap.size 48 v ∧ W.ownsRow w.heap.size 22 1 v pre.length (pre.map (pcV b off m)) ∧ (v = .slice none 0 0 ↔ pre = [])) ∧ Below w.heap.size w W)
    (fun _ _ _ => False)
    (OwnFrom.and (Own.from (holdsRow_own w.heap.size w.heap.size 48 22 1 (fun pre => pre.length) (fun pre => pre.map (pcV b off m)) (fun pre v => v = .slice none 0 0 ↔ pre = [])) _) (ownFrom_below (Nat.le_refl _) hB0.size))
    (fun _ _ _ _ _ hs _ _ => hs)
    ⟨⟨_, bO, World.ownsRow_nil _ _ _ _, by simp⟩, hB0⟩
    (fun x => { tmps := #[.slice none 0 0, .func (.func 42) #[] #[.pointer (some ⟨Bs, 0, none⟩), .pointer (some ⟨Bn, 0, none⟩)], .pointer (some ⟨w.heap.size, 0, none⟩), undef, .slice none 0 0, pcV b off m x, .func (.func 42) #[] #[.pointer (some ⟨Bs, 0, none⟩), .pointer (some ⟨Bn, 0, none⟩)], pcV b off m x, undef, undef, undef, undef, undef], defers := [] }) ?assign ?body ?done ?stop
  case assign =>
    intro l x W K hK
    gi_wp2
    exact hK
  case body =>
    rintro l pre x W ⟨⟨v, hv, hrow, hnil⟩, hB⟩ hlt
    have hc := hv.cell
    have hpx : pcV b off m x = .slice (some ⟨b, off + 64 * x, none⟩) (pcL m x) (pcL m x) := rfl
    rw [hpx]
    obtain ⟨p, hp⟩ : ∃ p, p = pcL m x := ⟨_, rfl⟩
    rw [← hp] at hpx ⊢
    have HPX : Hid (_ = _) := hpx
    clear hp hpx
    gi_wp2_with (gi_at_builtin; refine wpListIn_append_own _ rfl _ _ 48 rfl w.heap.size 22 i0 (.slice none 0 0) 1 24 Try.underlying48 hi hz0 hz1 hz2 rfl (by decide) _ _ _ rfl (hrow.alloc _) ⟨W.heap.size, 0, none⟩ 1 1 [.slice (some ⟨b, off + 64 * x, none⟩) p p] rfl rfl (cell_one_new _ _ _) (by simp [Value.oneCell']) (by unfold maxLen; omega) (by omega) (by have := hB.size; simp; omega) ?_; intro v' w1 hown' hgrow _; obtain ⟨g', cap', rfl⟩ := ownsRow_succ hown'; obtain ⟨hv1, hv2, hr2, hk2, hb2⟩ := hv.appended (by decide) hrow hB.size (Nat.le_refl _) hown' hgrow; have hc1 := hv1.cell; have hf1 := hv1.frozen)
    exact ⟨hk2.from _, hb2, ⟨_, hv2, by rw [← HPX.out] at hr2; simpa using hr2, by simp⟩, hB.trans hb2⟩
  case done =>
    rintro D ys W hD rfl ⟨⟨v, hv, hrow, hnil⟩, hB⟩ hK
    have hc := hv.cell
    rw [List.length_range] at hrow
    gi_wp2
    refine ⟨by simp, .inl ⟨_, _, rfl, run_takeDeferred hK, ?_⟩⟩
    exact ⟨_, results_tmp rfl _ _ _, v, rfl, ownsRow_putObj hrow _ hK rfl, hB.trans (belowK_b (w := w) (Nat.le_refl _) W D _ _ (by simp at hD; omega) hK rfl rfl)⟩
  case stop =>
    rintro D c pre W _ _ h _
    exact h.elim

set_option maxRecDepth 100000 in
set_option maxRecDepth 10000 in
set_option maxHeartbeats 1000000 in
theorem collect_any (Bs Bn : Nat) (b off m cap : Nat) (a : Option Addr) (ha : a = some ⟨b, off, none⟩ ∨ m = 0) (hm : m ≤ 4000) (hcap : m ≤ cap) (w : World) (hBs : Bs < w.heap.size) (hBn : Bn < w.heap.size)
    (cS : w.cell? ⟨Bs, 0, none⟩ = some (.slice a m cap)) (cN : w.cell? ⟨Bn, 0, none⟩ = some (.int .i64 64)) :
    Calls Try.prog 21 #[.func (.func 42) #[] #[.pointer (some ⟨Bs, 0, none⟩), .pointer (some ⟨Bn, 0, none⟩)]] w fun e W' => ∃ v, e = .returned v ∧ W'.ownsRow w.heap.size 22 1 v (pcN m) ((List.range (pcN m)).map (pcV b off m)) ∧ Below w.heap.size w W' := by
  have HC : Hid (_) := callsIn_wide.1 (appendSeq_in Fence.wide 3 trivial trivial rfl (by decide) Bs Bn b off m cap a ha hm hcap w hBs hBn cS cN)
  go_enter Try.func21, Try.ntmps21
  go_wp2_with fail
  refine Calls.mono HC.out ?_
  rintro e w2 ⟨v, rfl, hr, hb⟩
  go_wp2
  go_ret
  exact ⟨v, rfl, hr, hb⟩

end Go.Proofs.Ytlcojjcgaibbiaa
