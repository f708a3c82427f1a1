import Derived.Test.YtoncodoimnideaaGreatDoorDB1
namespace Go.Proofs.YtoncodoimnideaaGreatDoor
open Go.RowKit

theorem ptc_take (xs : List PT) (k : Nat) : ptc (xs.take k) = (ptc xs).take (k * 2) := by
  induction xs generalizing k with
  | nil => simp [ptc]
  | cons x r ih =>
    cases k with
    | zero => simp [ptc]
    | succ k =>
      have e : (k + 1) * 2 = k * 2 + 1 + 1 := by omega
      have := ih k
      simp [ptc, e] at this ⊢
      exact this
theorem OwnPt.cut {B : Nat} {w : World} {g n cap : Nat} {xs : List PT} (h : OwnPt B w (some ⟨g, 0, none⟩) n cap xs) (k : Nat) (hk : k ≤ n) : OwnPt B w (some ⟨g, 0, none⟩) k cap (xs.take k) := by
  have hl := h.len
  rcases h.row.2 with ⟨e, _⟩ | ⟨g', cap', cur, hv, hb, hg, hn, hm, hs, ht⟩
  · simp at e
  · simp only [Value.slice.injEq, Option.some.injEq, Addr.mk.injEq, and_true, true_and] at hv
    obtain ⟨rfl, rfl⟩ := hv
    refine ⟨⟨by rw [ptc_take, List.length_take, h.row.1]; omega, .inr ⟨g, cap, cur, rfl, hb, hg, by omega, hm, hs, ?_⟩⟩, by rw [List.length_take]; omega, fun x hx => h.small x (List.mem_of_mem_take hx)⟩
    rw [ptc_take, ← ht, List.take_take]
    congr 1
    omega
theorem OwnPt.cap {B : Nat} {w : World} {a : Option Addr} {n cap : Nat} {xs : List PT} (h : OwnPt B w a n cap xs) : n ≤ cap := by
  rcases h.row.2 with ⟨hv, h0⟩ | ⟨g, cap', cur, hv, _, _, hc, _⟩
  · omega
  · simp only [Value.slice.injEq] at hv
    omega

end Go.Proofs.YtoncodoimnideaaGreatDoor
