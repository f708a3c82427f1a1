import Derived.Test.YtjkkokjojaknkaaDoorWItem
import Derived.Test.YtjkkokjojaknkaaDoorW4
import Derived.Test.YtjkkokjojaknkaaDoorWApp
namespace Go.Proofs.YtjkkokjojaknkaaDoor
open Go.RowKit

/-- Is what stands in the item itself right? -/
def It.shape (x : It) : Bool := decide (0 ≤ x.cls ∧ x.cls ≤ 3 ∧ 0 ≤ x.tag ∧ x.tag ≤ 268435455 ∧ ¬(x.cls = 0 ∧ x.tag = 0)) && (if x.cons then x.body.isEmpty else x.kids.isEmpty)

set_option maxRecDepth 10000 in
set_option maxHeartbeats 1000000 in
theorem shapeOk_any (x : It) (ab : Option Addr) (nb cb : Nat) (ak : Option Addr) (nk ck : Nat) (w : World) (hb : x.body.length = nb) (hk : x.kids.length = nk) :
    Calls Tryd.prog 54 #[itv x ab nb cb ak nk ck] w fun e w' => e = .returned (.bool x.shape) ∧ Below w.heap.size w w' := by
  have hbl : Below w.heap.size w (w.alloc (.cells #[.int .i64 x.cls, .int .i64 x.tag, .bool x.cons, .slice ab nb cb, .slice ak nk ck] 26)) := (Below.refl _ _).alloc (Nat.le_refl _) _
  have e1 : x.body.isEmpty = decide (nb = 0) := by rw [← hb]; cases x.body <;> simp
  have e2 : x.kids.isEmpty = decide (nk = 0) := by rw [← hk]; cases x.kids <;> simp
  have HS : Hid (x.shape = (decide (0 ≤ x.cls ∧ x.cls ≤ 3 ∧ 0 ≤ x.tag ∧ x.tag ≤ 268435455 ∧ ¬(x.cls = 0 ∧ x.tag = 0)) && (if x.cons then decide (nb = 0) else decide (nk = 0)))) := by show _ = _; rw [It.shape, e1, e2]
  clear e1 e2 hb hk
  obtain ⟨cl, hcl⟩ : ∃ cl, cl = x.cls := ⟨_, rfl⟩
  obtain ⟨tg, htg⟩ : ∃ tg, tg = x.tag := ⟨_, rfl⟩
  obtain ⟨co, hco⟩ : ∃ co, co = x.cons := ⟨_, rfl⟩
  unfold itv
  rw [← hcl, ← htg, ← hco] at HS hbl ⊢
  clear hcl htg hco
  by_cases hA : 0 ≤ cl ∧ cl ≤ 3 ∧ 0 ≤ tg ∧ tg ≤ 268435455
  · obtain ⟨p1, p2, p3, p4⟩ := hA
    by_cases hB : cl = 0 ∧ tg = 0
    · obtain ⟨rfl, rfl⟩ := hB
      go_enter Tryd.func54, Tryd.ntmps54
      go_wp2
      go_ret
      exact ⟨by rw [HS.out]; simp, hbl⟩
    · cases co with
      | true =>
        have HT : Hid (x.shape = ((nb : Int) == 0)) := by show _ = _; rw [HS.out, decide_eq_true ⟨p1, p2, p3, p4, hB⟩, Bool.eq_iff_iff]; simp
        clear HS
        by_cases hc : cl = 0
        · subst hc
          have ht : (tg == 0) = false := by simp; exact fun h => hB ⟨rfl, h⟩
          clear hB
          go_enter Tryd.func54, Tryd.ntmps54
          go_wp2
          go_ret
          exact ⟨by rw [HT.out]; rfl, hbl⟩
        · have hc' : (cl == 0) = false := by simp [hc]
          clear hB hc
          go_enter Tryd.func54, Tryd.ntmps54
          go_wp2
          go_ret
          exact ⟨by rw [HT.out]; rfl, hbl⟩
      | false =>
        have HT : Hid (x.shape = ((nk : Int) == 0)) := by show _ = _; rw [HS.out, decide_eq_true ⟨p1, p2, p3, p4, hB⟩, Bool.eq_iff_iff]; simp
        clear HS
        by_cases hc : cl = 0
        · subst hc
          have ht : (tg == 0) = false := by simp; exact fun h => hB ⟨rfl, h⟩
          clear hB
          go_enter Tryd.func54, Tryd.ntmps54
          go_wp2
          go_ret
          exact ⟨by rw [HT.out]; rfl, hbl⟩
        · have hc' : (cl == 0) = false := by simp [hc]
          clear hB hc
          go_enter Tryd.func54, Tryd.ntmps54
          go_wp2
          go_ret
          exact ⟨by rw [HT.out]; rfl, hbl⟩
  · have HT : Hid (x.shape = false) := by show _ = _; rw [HS.out, decide_eq_false (fun h => hA ⟨h.1, h.2.1, h.2.2.1, h.2.2.2.1⟩)]; rfl
    go_enter Tryd.func54, Tryd.ntmps54
    go_wp2
    all_goals (go_ret; exact ⟨by rw [HT.out]; rfl, hbl⟩)

set_option maxRecDepth 10000 in
set_option maxHeartbeats 400000 in
theorem l1In_any (x lo hi : Int) (w : World) : Calls Tryd.prog 57 #[.int .i64 x, .int .i64 lo, .int .i64 hi] w fun e w' => e = .returned (.bool (decide (lo ≤ x ∧ x ≤ hi))) ∧ w = w' := by
  by_cases h1 : lo ≤ x
  · by_cases h2 : x ≤ hi
    · go_enter Tryd.func57, Tryd.ntmps57
      go_wp2
      go_ret
      exact ⟨by rw [decide_eq_true ⟨h1, h2⟩]; simp [*], rfl⟩
    · go_enter Tryd.func57, Tryd.ntmps57
      go_wp2
      go_ret
      exact ⟨by rw [decide_eq_false (by omega)]; simp [*], rfl⟩
  · go_enter Tryd.func57, Tryd.ntmps57
    go_wp2
    go_ret
    exact ⟨by rw [decide_eq_false (by omega)]; simp [*], rfl⟩

end Go.Proofs.YtjkkokjojaknkaaDoor
