import Derived.Test.YtmoekmonkpihhaaGreatTS1
import Derived.Test.YtmoekmonkpihhaaGreatW2
namespace Go.Proofs.YtmoekmonkpihhaaGreat
open Go.RowKit

def mkU (zs : List Int) (k j : Nat) : List Int := (List.range zs.length).map fun i => if i < j then ((k + i : Nat) : Int) else zs.getD i 0
theorem mkU_len (zs : List Int) (k j : Nat) : (mkU zs k j).length = zs.length := by simp [mkU]
theorem mkU_zero (zs : List Int) (k : Nat) : mkU zs k 0 = zs := by
  apply List.ext_getElem?
  intro i
  unfold mkU
  rw [List.getElem?_map]
  by_cases h : i < zs.length
  · rw [List.getElem?_range h, List.getElem?_eq_getElem h]
    simp [h]
  · rw [List.getElem?_eq_none (by simpa using h), List.getElem?_eq_none (by omega)]
    rfl
theorem mkU_set (zs : List Int) (k j : Nat) (hj : j < zs.length) : (mkU zs k j).set j ((k + j : Nat) : Int) = mkU zs k (j + 1) := by
  apply List.ext_getElem?
  intro i
  rw [List.getElem?_set, mkU_len]
  simp only [mkU, List.getElem?_map]
  by_cases hi : i < zs.length
  · rw [List.getElem?_range hi]
    by_cases e : j = i
    · subst e
      simp [hj]
    · simp only [e, if_false, Option.map_some]
      congr 1
      by_cases c : i < j
      · rw [if_pos c, if_pos (by omega)]
      · rw [if_neg c, if_neg (by omega)]
  · rw [List.getElem?_eq_none (by simp; omega)]
    split
    · omega
    · rfl
def marksU (k n : Nat) : List Int := (List.range n).map fun i => ((k + i : Nat) : Int)
theorem marksU_len (k n : Nat) : (marksU k n).length = n := by simp [marksU]
theorem mkU_all (zs : List Int) (k n : Nat) (h : zs.length = n) : mkU zs k n = marksU k n := by
  unfold mkU marksU
  rw [h]
  apply List.map_congr_left
  intro i hi
  rw [if_pos (List.mem_range.1 hi)]
theorem mkU_bd (zs : List Int) (hz : ∀ i, U64 (zs.getD i 0)) (k j : Nat) (hk : k ≤ 1000000000) (hl : zs.length ≤ 1000000000) : ∀ i, U64 ((mkU zs k j).getD i 0) := by
  intro i
  unfold mkU
  rw [List.getD_eq_getElem?_getD, List.getElem?_map]
  by_cases h : i < zs.length
  · rw [List.getElem?_range h]
    show U64 (if i < j then ((k + i : Nat) : Int) else zs.getD i 0)
    split
    · unfold U64; omega
    · exact hz i
  · rw [List.getElem?_eq_none (by simpa using h)]; simp [U64]

set_option maxRecDepth 10000 in
set_option maxHeartbeats 1000000 in
theorem markUint64S_any (B : Nat) (a : Option Addr) (n cap k : Nat) (zs : List Int) (w : World) (h : OwnU B w a n cap zs) (hn : n ≤ 1000000) (hk : k ≤ 1000000) :
    Calls Tryz.prog 18 #[.slice a n cap, .int .i64 k] w fun e w' => e = .returned (.int .i64 (k + n : Nat)) ∧ OwnU B w' a n cap (marksU k n) ∧ w.grownBy w' (Value.slice a n cap).ownBlock := by
  have HL : Hid (zs.length = n) := h.len
  have HRG : Hid (∀ i, U64 (zs.getD i 0)) := h.rng
  have H0 : Hid (OwnU B w a n cap (mkU zs k 0)) := by rw [mkU_zero]; exact h
  clear h
  go_enter Tryz.func18, Tryz.ntmps18
  go_wp2
  go_loopw [1, 5] (fun kk i wr => ∃ j : Nat, j ≤ n ∧ i = .int .i64 j ∧ kk = .int .i64 (k + j : Nat) ∧ Hid (OwnU B wr a n cap (mkU zs k j)) ∧ Hid (w.grownBy wr (Value.slice a n cap).ownBlock)) (fun _ i _ => n - (intOf i).toNat)
  case atStart => exact ⟨0, Nat.zero_le _, rfl, rfl, H0, World.grownBy.refl _ _⟩
  case round =>
    obtain ⟨j, hj, rfl, rfl, HO, HG⟩ := hrel
    by_cases hlt : j < n
    · obtain ⟨g, rfl, hgB, hgs⟩ := HO.out.shape (by omega)
      have hlti : (j : Int) < (n : Int) := by omega
      have hfr : wr.frozen? ⟨g, j, none⟩ = false := HO.out.row.frozenAt j
      have hvl : ((mkU zs k j).map (Value.int .u64)).length = n * 1 := HO.out.row.1
      obtain ⟨y, hy⟩ : ∃ y, wr.cell? ⟨g, j, none⟩ = some y := ⟨_, (HO.out.row.cellAt j (by omega)).trans (List.getElem?_eq_getElem (by omega))⟩
      have hs := HO.out.row.stored j (.int .u64 ((k + j : Nat) : Int))
      have hs1 := hs.1
      rw [← List.map_set, mkU_set zs k j (by rw [HL.out]; exact hlt)] at hs1
      have HN : Hid (OwnU B (wr.setCell ⟨g, j, none⟩ (.int .u64 ((k + j : Nat) : Int))) (some ⟨g, 0, none⟩) n cap (mkU zs k (j + 1))) := ⟨hs1, mkU_bd zs HRG.out k (j + 1) (by omega) (by rw [HL.out]; omega)⟩
      have HGN : Hid (w.grownBy (wr.setCell ⟨g, j, none⟩ (.int .u64 ((k + j : Nat) : Int))) (Value.slice (some ⟨g, 0, none⟩) n cap).ownBlock) := grown_trans HG.out hs.2
      have u1 : IntKind.u64.wrap ((k : Int) + (j : Int)) = (k : Int) + (j : Int) := by rw [IntKind.wrap_u64]; omega
      clear hs hs1 hvl HO HG
      go_wp2
      go_roundw
      case rel => exact ⟨j + 1, by omega, by go_num, by go_num, by have := HN.out; rw [Int.natCast_add] at this; exact this, by have := HGN.out; rw [Int.natCast_add] at this; exact this⟩
      case measure => simp [intOf]; omega
    · obtain rfl : j = n := by omega
      have HF : Hid (OwnU B wr a j cap (marksU k j)) := by have := HO.out; rwa [mkU_all zs k j HL.out] at this
      go_wp2
      go_ret
      exact ⟨rfl, HF.out, HG.out⟩

theorem marksU_get (k n i : Nat) (h : i < n) : (marksU k n).getD i 0 = ((k + i : Nat) : Int) := by simp [marksU, h]

end Go.Proofs.YtmoekmonkpihhaaGreat
