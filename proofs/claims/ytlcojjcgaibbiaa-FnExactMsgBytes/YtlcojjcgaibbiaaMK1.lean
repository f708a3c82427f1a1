import Derived.RangeFuncNested
import Derived.RangeFuncBound
import Derived.RangeFuncCalls
import Derived.RangeFuncLeaves
import Derived.RangeFuncBox
import Derived.Shelf.Abstract
import Derived.Shelf.RegionOpen
import Derived.WalkKit
import Derived.OwnWalkIn
import Derived.TacticsInMore
import Derived.LoopNIn
import Derived.LoopIn
import Derived.Maps.AppendAt
import Derived.Test.YtlcojjcgaibbiaaW1
set_option linter.unusedVariables false
namespace Go.Proofs.Ytlcojjcgaibbiaa
open Go.RowKit Go.Shelf

attribute [local go_sem] Oper.semAt_some

/-- The length of the k-th piece of m bytes; how many there are. -/
def pcL (m k : Nat) : Nat := if 64 ≤ m - 64 * k then 64 else m - 64 * k
def pcN (m : Nat) : Nat := (m + 63) / 64
def pcV (b off m k : Nat) : Value := .slice (some ⟨b, off + 64 * k, none⟩) (pcL m k) (pcL m k)

set_option maxRecDepth 100000 in
set_option maxRecDepth 10000 in
set_option maxHeartbeats 2000000 in
theorem chunk1_in (F : Fence) (n : Nat) (hF : F.fn 42) (hro : F.round = none) (hn : 1 ≤ n) (l Bs Bn n₀ b off m cap : Nat) (hm : m ≤ 4000) (hcap : m ≤ cap) (hBs : Bs < n₀) (hBn : Bn < n₀) (J Jx : List Nat → World → Prop) (B0 : Nat) (hJ : AbidesFrom B0 J)
    (hY : ∀ pre x W, J pre W → pre.length < pcN m → YieldAt F (n - 1) Try.prog l #[pcV b off m x] W fun e W' => (e = .returned (.bool true) ∧ J (pre ++ [x]) W' ∧ Below n₀ W W') ∨ (e = .returned (.bool false) ∧ Jx (pre ++ [x]) W'))
    (W : World) (cS : W.cell? ⟨Bs, 0, none⟩ = some (.slice (some ⟨b, off, none⟩) m cap)) (cN : W.cell? ⟨Bn, 0, none⟩ = some (.int .i64 64)) (h0 : J [] W) :
    CallsIn F n Try.prog 42 #[.func (.yield l) #[] #[], .pointer (some ⟨Bs, 0, none⟩), .pointer (some ⟨Bn, 0, none⟩)] W fun e W' => (∃ v, e = .returned v) ∧ ((∃ ys, ys = List.range (pcN m) ∧ J ys W') ∨ (∃ pre, True ∧ Jx pre W')) := by
  refine callsIn_of_wp Try.func42 rfl hF ?_ hro
  simp only [Try.ntmps42, List.size_toArray, List.length_cons, List.length_nil, Nat.reduceAdd, Nat.reduceSub, Array.replicate_succ, Array.replicate_zero, List.push_toArray, List.append_toArray, List.nil_append, List.cons_append]
  gi_wp2
  gi_loopw [4] (fun i wr => ∃ k : Nat, k ≤ pcN m ∧ i = .int .i64 (64 * k : Nat) ∧ J (List.range k) wr ∧ Below n₀ W wr) (fun i _ => m + 64 - (intOf i).toNat)
  case atStart => exact ⟨0, Nat.zero_le _, rfl, h0, Below.refl _ _⟩
  case round =>
    obtain ⟨k, hk, rfl, hJs, hnx⟩ := hrel
    have c1 : wr.cell? ⟨Bs, 0, none⟩ = some (.slice (some ⟨b, off, none⟩) m cap) := (hnx.cell (p := ⟨Bs, 0, none⟩) hBs).trans cS
    have c2 : wr.cell? ⟨Bn, 0, none⟩ = some (.int .i64 64) := (hnx.cell (p := ⟨Bn, 0, none⟩) hBn).trans cN
    clear cS cN h0
    by_cases hlt : 64 * k < m
    · have hJd : J (List.range k) wr.drew := hJ _ wr wr.drew none hJs ⟨rfl, rfl, rfl, Nat.le_refl _, fun _ _ _ => rfl⟩ (fun r e => by cases e)
      obtain ⟨p, hp⟩ : ∃ p, p = pcL m k := ⟨_, rfl⟩
      have hmin : (if ((m - 64 * k : Nat) : Int) < 64 then ((m - 64 * k : Nat) : Int) else 64) = (p : Int) := by
        rw [hp]; unfold pcL
        by_cases h : 64 ≤ m - 64 * k
        · rw [if_neg (by omega), if_pos h]; rfl
        · rw [if_pos (by omega), if_neg h]
      have hp1 : 64 * k + p ≤ m ∧ p ≤ 64 ∧ 1 ≤ p := by rw [hp]; unfold pcL; split <;> omega
      obtain ⟨fn, tmps, assign, body, hy, hR⟩ := hY _ k wr.drew hJd (by rw [List.length_range]; unfold pcN; omega)
      have d1 : wr.drew.cell? ⟨Bs, 0, none⟩ = some (.slice (some ⟨b, off, none⟩) m cap) := c1
      have d2 : wr.drew.cell? ⟨Bn, 0, none⟩ = some (.int .i64 64) := c2
      unfold pcV at hy
      rw [← hp] at hy
      clear hp
      have hkn : k < pcN m := by unfold pcN; omega
      have hlti : (64 : Int) * (k : Int) < (m : Int) := by omega
      gi_wp2
      gi_region
      all_goals clear hmin c1 c2
      all_goals gi_wp2
      all_goals
        refine hR.mono ?_
        rintro e W3 (⟨rfl, hJ3, hk3⟩ | ⟨rfl, hJx3⟩)
      all_goals try have e2 : W3.cell? ⟨Bn, 0, none⟩ = some (.int .i64 64) := (hk3.cell (p := ⟨Bn, 0, none⟩) hBn).trans d2
      all_goals clear hR hy hY d1 d2
      all_goals gi_wp2
      all_goals first
        | (refine bodyPost_ret (results_none rfl _ _ _) rfl ?_; first | exact ⟨⟨_, rfl⟩, .inr ⟨_, trivial, hJx3⟩⟩ | exact ⟨⟨_, rfl⟩, .inr ⟨_, hJx3⟩⟩)
        | (go_roundw
           case rel => exact ⟨k + 1, by omega, by simp; omega, by rw [List.range_succ]; exact hJ3, (hnx.drew).trans hk3⟩
           case measure => simp [intOf]; omega)
    · obtain rfl : k = pcN m := by unfold pcN at hk ⊢; omega
      have hge : ¬ ((64 : Int) * ((pcN m : Nat) : Int) < (m : Int)) := by omega
      gi_wp2
      go_end0
      exact ⟨⟨_, rfl⟩, .inl hJs⟩

end Go.Proofs.Ytlcojjcgaibbiaa
