import Derived.Test.YtddopoadpbbpoaaTS1
import Derived.Test.YtddopoadpbbpoaaW2
namespace Go.Proofs.Ytddopoadpbbpoaa
open Go.RowKit

def mkU (zs : List Int) (k j : Nat) : List Int := (List.range zs.length).map fun i => if i < j then ((k + i : Nat) : Int) else zs.getD i 0
theorem mkU_len (zs : List Int) (k j : Nat) : (mkU zs k j).length = zs.length := by simp [mkU]
theorem mkU_zero (zs : List Int) (k : Nat) : mkU zs k 0 = zs := by
  apply List.ext_getElem?
  intro i
  unfold mkU
  rw [List.getElem?_map]
  by_cases h : i < zs.length
  · rw [List.getElem?_range h, List.getElem?_eq_getElem h]
    simp [h]
  · rw [List.getElem?_eq_none (by simpa using h), List.getElem?_eq_none (by omega)]
    rfl
theorem mkU_set (zs : List Int) (k j : Nat) (hj : j < zs.length) : (mkU zs k j).set j ((k + j : Nat) : Int) = mkU zs k (j + 1) := by
  apply List.ext_getElem?
  intro i
  rw [List.getElem?_set, mkU_len]
  simp only [mkU, List.getElem?_map]
  by_cases hi : i < zs.length
  · rw [List.getElem?_range hi]
    by_cases e : j = i
    · subst e
      simp [hj]
    · simp only [e, if_false, Option.map_some]
      congr 1
      by_cases c : i < j
      · rw [if_pos c, if_pos (by omega)]
      · rw [if_neg c, if_neg (by omega)]
  · rw [List.getElem?_eq_none (by simp; omega)]
    split
    · omega
    · rfl
def marksU (k n : Nat) : List Int := (List.range n).map fun i => ((k + i : Nat) : Int)
theorem marksU_len (k n : Nat) : (marksU k n).length = n := by simp [marksU]
theorem mkU_all (zs : List Int) (k n : Nat) (h : zs.length = n) : mkU zs k n = marksU k n := by
  unfold mkU marksU
  rw [h]
  apply List.map_congr_left
  intro i hi
  rw [if_pos (List.mem_range.1 hi)]
theorem mkU_bd (zs : List Int) (hz : ∀ i, U64 (zs.getD i 0)) (k j : Nat) (hk : k ≤ 1000000000) (hl : zs.length ≤ 1000000000) : ∀ i, U64 ((mkU zs k j).getD i 0) := by
  intro i
  unfold mkU
  rw [List.getD_eq_getElem?_getD, List.getElem?_map]
  by_cases h : i < zs.length
  · rw [List.getElem?_range h]
    show U64 (if i < j then ((k + i : Nat) : Int) else zs.getD i 0)
    split
    · unfold U64; omega
    · exact hz i
  · rw [List.getElem?_eq_none (by simpa using h)]; simp [U64]

set_option maxRecDepth 10000 in
set_option maxHeartbeats 1000000 in
theorem markUint64S_any (B : Nat) (a : Option Addr) (n cap k : Nat) (zs : List Int) (w : World) (h : OwnU B w a n cap zs) (hn : n ≤ 1000000) (hk : k ≤ 1000000) :
    Calls Try.prog 46 #[.slice a n cap, .int .i64 k] w fun e w' => e = .returned (.int .i64 (k + n : Nat)) ∧ OwnU B w' a n cap (marksU k n) ∧ w.grownBy w' (Value.slice a n cap).ownBlock := by
  have HL : Hid (zs.length = n) := h.len
  have HRG : Hid (∀ i, U64 (zs.getD i 0)) := h.rng
  have H0 : Hid (OwnU B w a n cap (mkU zs k 0)) := by rw [mkU_zero]; exact h
  clear h
  go_enter Try.func46, Try.ntmps46
  go_wp2
  go_loopw [1, 5] (fun kk i wr => ∃ j : Nat, j ≤ n ∧ i = .int .i64 j ∧ kk = .int .i64 (k + j : Nat) ∧ Hid (OwnU B wr a n cap (mkU zs k j)) ∧ Hid (w.grownBy wr (Value.slice a n cap).ownBlock)) (fun _ i _ => n - (intOf i).toNat)
  case atStart => exact ⟨0, Nat.zero_le _, rfl, rfl, H0, World.grownBy.refl _ _⟩
  case round =>
    obtain ⟨j, hj, rfl, rfl, HO, HG⟩ := hrel
    by_cases hlt : j < n
    · obtain ⟨g, rfl, hgB, hgs⟩ := HO.out.shape (by omega)
      have hlti : (j : Int) < (n : Int) := by omega
      have hfr : wr.frozen? ⟨g, j, none⟩ = false := HO.out.row.frozenAt j
      have hvl : ((mkU zs k j).map (Value.int .u64)).length = n * 1 := HO.out.row.1
      obtain ⟨y, hy⟩ : ∃ y, wr.cell? ⟨g, j, none⟩ = some y := ⟨_, (HO.out.row.cellAt j (by omega)).trans (List.getElem?_eq_getElem (by omega))⟩
      have hs := HO.out.row.stored j (.int .u64 ((k + j : Nat) : Int))
      have hs1 := hs.1
      rw [← List.map_set, mkU_set zs k j (by rw [HL.out]; exact hlt)] at hs1
      have HN : Hid (OwnU B (wr.setCell ⟨g, j, none⟩ (.int .u64 ((k + j : Nat) : Int))) (some ⟨g, 0, none⟩) n cap (mkU zs k (j + 1))) := ⟨hs1, mkU_bd zs HRG.out k (j + 1) (by omega) (by rw [HL.out]; omega)⟩
      have HGN : Hid (w.grownBy (wr.setCell ⟨g, j, none⟩ (.int .u64 ((k + j : Nat) : Int))) (Value.slice (some ⟨g, 0, none⟩) n cap).ownBlock) := grown_trans HG.out hs.2
      have u1 : IntKind.u64.wrap ((k : Int) + (j : Int)) = (k : Int) + (j : Int) := by rw [IntKind.wrap_u64]; omega
      clear hs hs1 hvl HO HG
      go_wp2
      go_roundw
      case rel => exact ⟨j + 1, by omega, by go_num, by go_num, by have := HN.out; rw [Int.natCast_add] at this; exact this, by have := HGN.out; rw [Int.natCast_add] at this; exact this⟩
      case measure => simp [intOf]; omega
    · obtain rfl : j = n := by omega
      have HF : Hid (OwnU B wr a j cap (marksU k j)) := by have := HO.out; rwa [mkU_all zs k j HL.out] at this
      go_wp2
      go_ret
      exact ⟨rfl, HF.out, HG.out⟩

theorem marksU_get (k n i : Nat) (h : i < n) : (marksU k n).getD i 0 = ((k + i : Nat) : Int) := by simp [marksU, h]

set_option maxRecDepth 10000 in
set_option maxHeartbeats 1000000 in
theorem heldUint64S_any (a : Option Addr) (n cap k : Nat) (w : World) (h : RowU w a n (marksU k n)) (hn : n ≤ 1000000) (hk : k ≤ 1000000) :
    Calls Try.prog 47 #[.slice a n cap, .int .i64 k] w fun e w' => e = .returned (.int .i64 (k + n : Nat)) ∧ w' = w := by
  have H0 : Hid (RowU w a n (marksU k n)) := h
  clear h
  go_enter Try.func47, Try.ntmps47
  go_wp2
  go_loop [1, 5] (fun kk i => ∃ j : Nat, j ≤ n ∧ i = .int .i64 j ∧ kk = .int .i64 (k + j : Nat)) (fun _ i => n - (intOf i).toNat)
  case atStart => exact ⟨0, Nat.zero_le _, rfl, rfl⟩
  case round =>
    obtain ⟨j, hj, rfl, rfl⟩ := hrel
    by_cases hlt : j < n
    · have hlti : (j : Int) < (n : Int) := by omega
      obtain ⟨b, off, rfl, hlb, hc⟩ := H0.out.get j hlt
      rw [marksU_get k n j hlt, Int.natCast_add] at hc
      have u1 : IntKind.u64.wrap ((k : Int) + (j : Int)) = (k : Int) + (j : Int) := by rw [IntKind.wrap_u64]; omega
      have z1 : ((k : Int) + (j : Int) != (k : Int) + (j : Int)) = false := by simp
      go_wp2
      go_round
      case rel => exact ⟨j + 1, by omega, by go_num, by go_num⟩
      case measure => simp [intOf]; omega
    · obtain rfl : j = n := by omega
      go_wp2
      go_ret
      exact ⟨rfl, rfl⟩

set_option maxRecDepth 10000 in
set_option maxHeartbeats 1000000 in
theorem eqTreeKey_same (a b c : Int) (w : World) :
    Calls Try.prog 13 #[tkv a b c, tkv a b c] w fun e w' => e = .returned (.bool true) ∧ Below w.heap.size w w' := by
  have hbb : Below w.heap.size w ((w.alloc (.cells #[.int .u64 a, .int .i64 b, .int .i64 c] 29)).alloc (.cells #[.int .u64 a, .int .i64 b, .int .i64 c] 29)) := ((Below.refl _ _).alloc (Nat.le_refl _) _).alloc (by simp) _
  have z1 : (a != a) = false := by simp
  have z2 : (b != b) = false := by simp
  have z3 : (c != c) = false := by simp
  rw [tkv]
  go_enter Try.func13, Try.ntmps13
  go_wp2
  go_ret
  exact ⟨rfl, hbb⟩

set_option maxRecDepth 10000 in
set_option maxHeartbeats 2000000 in
theorem markTreeSig_any (B M : Nat) (leaf : Int) (a1 : Option Addr) (n1 c1 : Nat) (a2 : Option Addr) (n2 c2 : Nat) (ez pz : List Int) (w : World) (h1 : OwnU B w a1 n1 c1 ez) (hM : ∀ x, a1 = some x → x.block < M) (h2 : OwnU M w a2 n2 c2 pz) (hBM : B ≤ M) (hMw : M ≤ w.heap.size) (hn1 : n1 ≤ 1000) (hn2 : n2 ≤ 1000) (T : Nat) (hT1 : ∀ g, (Value.slice a1 n1 c1).ownBlock = some g → g < T) (hT2 : ∀ g, (Value.slice a2 n2 c2).ownBlock = some g → g < T) :
    Calls Try.prog 16 #[tsv leaf a1 n1 c1 a2 n2 c2, .int .i64 1] w fun e w' => e = .returned (.int .i64 (1 + n1 + n2 : Nat)) ∧ OwnU B w' a1 n1 c1 (marksU 1 n1) ∧ OwnU M w' a2 n2 c2 (marksU (1 + n1) n2) ∧ Touch B T w w' := by
  obtain ⟨wb, hwb⟩ : ∃ wb, wb = w.alloc (.cells #[.int .i64 leaf, .slice a1 n1 c1, .slice a2 n2 c2] 28) := ⟨_, rfl⟩
  have hbb : Below w.heap.size w wb := by rw [hwb]; exact (Below.refl _ _).alloc (Nat.le_refl _) _
  have B0 : wb.heap[w.heap.size]? = some (.cells #[.int .i64 leaf, .slice a1 n1 c1, .slice a2 n2 c2] 28) := by rw [hwb]; exact heap_alloc_new w _
  have HW : Hid (_ = _) := hwb
  have ho1 := h1.kept hbb
  have ho2 := h2.kept hbb
  have own1 : ∀ g, (Value.slice a1 n1 c1).ownBlock = some g → B ≤ g ∧ g < M ∧ g < w.heap.size := by
    intro g hg
    have hl := h1.row.lt g hg
    have : ∃ off s, a1 = some ⟨g, off, s⟩ := by
      cases a1 with
      | none => simp [Value.ownBlock] at hg
      | some x => obtain ⟨xb, xo, xs⟩ := x; simp [Value.ownBlock] at hg; subst hg; exact ⟨_, _, rfl⟩
    obtain ⟨off, s, rfl⟩ := this
    exact ⟨hl.1, hM _ rfl, hl.2⟩
  clear hwb h1 h2
  have s1 : wb.cell? ⟨w.heap.size, 1, none⟩ = some (.slice a1 n1 c1) := (cell_of_row _ _ 1 _ 28 (0, 0) B0).trans rfl
  rw [tsv]
  go_enter Try.func16, Try.ntmps16
  go_upto_region 1 with fail
  rw [← HW.out]
  clear HW
  go_wp2_with fail
  refine (markUint64S_any B a1 n1 c1 1 ez _ ho1 (by omega) (by decide)).mono ?_
  rintro e w2 ⟨rfl, ho1', hg2⟩
  clear s1
  have hblk : ∀ k, k < wb.heap.size → M ≤ k → w2.heap[k]? = wb.heap[k]? := fun k hk hM' => hg2.block k hk (fun e => by have := own1 k e.symm; omega)
  have s2 : w2.cell? ⟨w.heap.size, 2, none⟩ = some (.slice a2 n2 c2) := (World.cell?_of_block (a := ⟨w.heap.size, 2, none⟩) (hblk w.heap.size (Array.getElem?_eq_some_iff.1 B0).1 hMw)).trans ((cell_of_row _ _ 2 _ 28 (0, 0) B0).trans rfl)
  have ho2' : OwnU M w2 a2 n2 c2 pz := by
    refine ⟨⟨ho2.row.1, ?_⟩, ho2.rng⟩
    rcases ho2.row.2 with h | ⟨g', cap', cur, hv, hb, hh, r⟩
    · exact .inl h
    · exact .inr ⟨g', cap', cur, hv, hb, (hblk g' (Array.getElem?_eq_some_iff.1 hh).1 hb).trans hh, r⟩
  have hB2 : Touch B T w w2 := (Touch.of_below hbb).trans ⟨hg2.os, hg2.tape, hg2.output, hg2.size, fun k hk ho => hg2.block k hk (fun e => by have h5 := own1 k e.symm; have h6 := hT1 k e.symm; omega)⟩
  have own2 : ∀ g, (Value.slice a2 n2 c2).ownBlock = some g → M ≤ g ∧ g < w2.heap.size := fun g hg => ho2'.row.lt g hg
  have HO1' : Hid (OwnU B w2 a1 n1 c1 (marksU 1 n1)) := ho1'
  have hw2s : wb.heap.size ≤ w2.heap.size := hg2.size
  clear ho1' ho1 ho2 hblk hg2
  go_wp2_with fail
  refine (markUint64S_any M a2 n2 c2 (1 + n1) pz _ ho2' (by omega) (by omega)).mono ?_
  rintro e w3 ⟨rfl, ho2'', hg3⟩
  have ho1'' : OwnU B w3 a1 n1 c1 (marksU 1 n1) := by
    refine ⟨⟨HO1'.out.row.1, ?_⟩, HO1'.out.rng⟩
    rcases HO1'.out.row.2 with h | ⟨g', cap', cur, hv, hb, hh, r⟩
    · exact .inl h
    · refine .inr ⟨g', cap', cur, hv, hb, (hg3.block g' (Array.getElem?_eq_some_iff.1 hh).1 (fun e => ?_)).trans hh, r⟩
      have h5 := own2 g' e.symm
      have h6 := own1 g' (by rw [hv]; rfl)
      omega
  have hB3 : Touch B T w w3 := hB2.trans ⟨hg3.os, hg3.tape, hg3.output, hg3.size, fun k hk ho => hg3.block k hk (fun e => by have h5 := own2 k e.symm; have h6 := hT2 k e.symm; omega)⟩
  clear hg3
  go_wp2
  go_ret
  exact ⟨rfl, ho1'', ho2'', hB3⟩

set_option maxRecDepth 10000 in
set_option maxHeartbeats 1000000 in
theorem heldTreeSig_any (leaf : Int) (a1 : Option Addr) (n1 c1 : Nat) (a2 : Option Addr) (n2 c2 : Nat) (w : World) (h1 : RowU w a1 n1 (marksU 1 n1)) (h2 : RowU w a2 n2 (marksU (1 + n1) n2)) (hn1 : n1 ≤ 1000) (hn2 : n2 ≤ 1000) :
    Calls Try.prog 17 #[tsv leaf a1 n1 c1 a2 n2 c2, .int .i64 1] w fun e w' => e = .returned (.int .i64 (1 + n1 + n2 : Nat)) ∧ Below w.heap.size w w' := by
  have hbb : Below w.heap.size w (w.alloc (.cells #[.int .i64 leaf, .slice a1 n1 c1, .slice a2 n2 c2] 28)) := (Below.refl _ _).alloc (Nat.le_refl _) _
  have H1 : Hid (RowU w a1 n1 (marksU 1 n1)) := h1
  have H2 : Hid (RowU w a2 n2 (marksU (1 + n1) n2)) := h2
  clear h1 h2
  rw [tsv]
  go_enter Try.func17, Try.ntmps17
  go_wp2_with fail
  refine (heldUint64S_any a1 n1 c1 1 _ (H1.out.kept hbb) (by omega) (by decide)).mono ?_
  rintro e w2 ⟨rfl, hw⟩
  have hw2 := hw.symm
  subst hw2
  go_wp2_with fail
  refine (heldUint64S_any a2 n2 c2 (1 + n1) _ (H2.out.kept hbb) (by omega) (by omega)).mono ?_
  rintro e w2 ⟨rfl, hw⟩
  have hw2 := hw.symm
  subst hw2
  go_wp2
  go_ret
  exact ⟨rfl, hbb⟩

end Go.Proofs.Ytddopoadpbbpoaa
