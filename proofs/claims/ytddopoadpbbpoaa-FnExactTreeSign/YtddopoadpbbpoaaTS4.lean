import Derived.Test.YtddopoadpbbpoaaTS3
namespace Go.Proofs.Ytddopoadpbbpoaa
open Go.RowKit

/-- What a tree's key answers, as values: the leaf, the ends, the path; the key then; the code. -/
structure SgV where
  leaf : Int
  ez : List Int
  pz : List Int
  seed : Int
  h : Int
  next : Int
  code : Int
def sgV (seed h next : Int) (bs : List Int) : SgV := if kP h next then (if next = ((2 ^ h.toNat : Nat) : Int) then ⟨0, [], [], seed, h, next, 2⟩ else ⟨next, endSs seed next bs, pathN (leavesN seed (2 ^ h.toNat)) next.toNat h.toNat, seed, h, next + 1, 0⟩) else ⟨0, [], [], 0, 0, 0, 1⟩
theorem sgV_len (seed h next : Int) (bs : List Int) : (sgV seed h next bs).ez.length ≤ 18 ∧ (sgV seed h next bs).pz.length ≤ 5 := by
  unfold sgV
  split
  · rename_i hk
    split
    · exact ⟨by simp, by simp⟩
    · refine ⟨by rw [endSs_len]; exact Nat.le_refl _, ?_⟩
      have := hk.1
      show (pathN _ _ _).length ≤ 5
      rw [pathN_len]
      omega
  · exact ⟨by simp, by simp⟩
structure SgX (t : SgV) (B : Nat) (w' : World) (v : Value) (a1 : Option Addr) (c1 : Nat) (a2 : Option Addr) (c2 M : Nat) : Prop where
  val : v = .tuple #[tsv t.leaf a1 t.ez.length c1 a2 t.pz.length c2, tkv t.seed t.h t.next, .int .i64 t.code]
  o1 : OwnU B w' a1 t.ez.length c1 t.ez
  lt : ∀ x, a1 = some x → x.block < M
  le : B ≤ M
  le2 : M ≤ w'.heap.size
  o2 : OwnU M w' a2 t.pz.length c2 t.pz
theorem sgX_of {seed h next : Int} {bs : List Int} {B : Nat} {w' : World} {v : Value} (hB : B ≤ w'.heap.size) (hs : SgR seed h next bs B w' v) : ∃ a1 c1 a2 c2 M, SgX (sgV seed h next bs) B w' v a1 c1 a2 c2 M := by
  cases hs with
  | bad hk =>
    have e : sgV seed h next bs = ⟨0, [], [], 0, 0, 0, 1⟩ := by unfold sgV; rw [if_neg hk]
    rw [e]
    exact ⟨none, 0, none, 0, B, rfl, ownU_none _ _, (fun x hx => by cases hx), Nat.le_refl _, hB, ownU_none _ _⟩
  | used hk hu =>
    have e : sgV seed h next bs = ⟨0, [], [], seed, h, next, 2⟩ := by unfold sgV; rw [if_pos hk, if_pos hu]
    rw [e]
    exact ⟨none, 0, none, 0, B, rfl, ownU_none _ _, (fun x hx => by cases hx), Nat.le_refl _, hB, ownU_none _ _⟩
  | made hk hu a1 c1 a2 c2 M h1 hM hBM h2 =>
    have e : sgV seed h next bs = ⟨next, endSs seed next bs, pathN (leavesN seed (2 ^ h.toNat)) next.toNat h.toNat, seed, h, next + 1, 0⟩ := by unfold sgV; rw [if_pos hk, if_neg hu]
    rw [e]
    by_cases hMw : M ≤ w'.heap.size
    · exact ⟨a1, c1, a2, c2, M, by rw [endSs_len, pathN_len], by rw [endSs_len]; exact h1, hM, hBM, hMw, by rw [pathN_len]; exact h2⟩
    · refine ⟨a1, c1, a2, c2, w'.heap.size, by rw [endSs_len, pathN_len], by rw [endSs_len]; exact h1, ?_, hB, Nat.le_refl _, by rw [pathN_len]; exact h2.mono (by omega)⟩
      intro x hx
      obtain ⟨g, hg, _, hlt⟩ := h1.shape (by decide)
      rw [hg] at hx
      cases hx
      exact hlt

end Go.Proofs.Ytddopoadpbbpoaa
