import Derived.Test.YtjkkokjojaknkaaDoorRR0
import Derived.Test.YtjkkokjojaknkaaDoorW5
import Derived.WalkSmall
namespace Go.Proofs.YtjkkokjojaknkaaDoor
open Go.RowKit

/-- The way out by a fault. -/
def gvUp (c p : Nat) : List PanicEntry := [{ v := .iface 61 (.agg #[.int .i64 (c : Int), .int .i64 (p : Int)]), recovered := false }]
theorem giveUp_any (c p : Nat) (w : World) : Calls Tryd.prog 63 #[.int .i64 (c : Int), .int .i64 (p : Int)] w fun e w' => e = .panicked (gvUp c p) ∧ w = w' := by
  go_enter Tryd.func63, Tryd.ntmps63
  go_wp2
  exact ⟨rfl, rfl, rfl⟩

/-- What a reader answers: by f of the value and the place behind it, or the fault. -/
def Tells2 {α : Type} (R : Rs α) (f : α → Nat → Value) (e : Ending) : Prop := match R with
  | .ok x nx => e = .returned (f x nx)
  | .no c p => e = .panicked (gvUp c p)
theorem Tells2.no {α : Type} {R : Rs α} {c p : Nat} (h : Hid (R = .no c p)) (f : α → Nat → Value) : Tells2 R f (.panicked (gvUp c p)) := by rw [h.out]; rfl
theorem Tells2.ok {α : Type} {R : Rs α} {x : α} {nx : Nat} (h : Hid (R = .ok x nx)) (f : α → Nat → Value) : Tells2 R f (.returned (f x nx)) := by rw [h.out]; rfl

def endR (bs : List Int) (q e : Nat) : Rs Bool := if q = e then .no 1 e else if bs.getD q 0 = 0 then (if q + 1 = e then .no 1 e else if bs.getD (q + 1) 0 = 0 then .ok true (q + 2) else .no 4 q) else .ok false q

set_option maxRecDepth 10000 in
set_option maxHeartbeats 1000000 in
theorem endMark_any (a : Option Addr) (n cap : Nat) (lax : Bool) (bs : List Int) (q e : Nat) (w : World) (h : Row w a n bs) (hq : q ≤ e) (he : e ≤ n) (hn : n ≤ 20000) :
    Calls Tryd.prog 85 #[.agg #[.slice a n cap, .bool lax], .int .i64 (q : Int), .int .i64 (e : Int)] w fun ev w' => Tells2 (endR bs q e) (fun b _ => .bool b) ev ∧ Below w.heap.size w w' := by
  have HR : Hid (Row w a n bs) := h
  have hbl : Below w.heap.size w (w.alloc (.cells #[.slice a n cap, .bool lax] 93)) := (Below.refl _ _).alloc (Nat.le_refl _) _
  clear h
  by_cases h0 : q = e
  · subst h0
    have hf : Hid (endR bs q q = .no 1 q) := by show _ = _; unfold endR; rw [if_pos rfl]
    go_enter Tryd.func85, Tryd.ntmps85
    go_wp2_with (go_at_call 63; refine (giveUp_any 1 q _).mono ?_; rintro e w1 ⟨rfl, rfl⟩)
    exact ⟨rfl, Tells2.no hf _, hbl⟩
  · have hqn : q < n := by omega
    obtain ⟨b, off, rfl, hb, hc⟩ := HR.out.get q hqn
    have hby := HR.out.byte q
    obtain ⟨x, hx⟩ : ∃ x, x = bs.getD q 0 := ⟨_, rfl⟩
    rw [← hx] at hc hby
    have HX : Hid (x = bs.getD q 0) := hx
    have h0' : ¬ (q : Int) = (e : Int) := by omega
    clear hx
    by_cases h1 : x = 0
    · subst h1
      by_cases h2 : q + 1 = e
      · subst h2
        have hf : Hid (endR bs q (q + 1) = .no 1 (q + 1)) := by show _ = _; unfold endR; rw [if_neg (by omega), if_pos HX.out.symm, if_pos rfl]
        go_enter Tryd.func85, Tryd.ntmps85
        go_wp2_with (go_at_call 63; refine (giveUp_any 1 (q + 1) _).mono ?_; rintro e w1 ⟨rfl, rfl⟩)
        exact ⟨rfl, Tells2.no hf _, hbl⟩
      · obtain ⟨b1, off1, e1, hb1, hc1⟩ := HR.out.get (q + 1) (by omega)
        simp only [Option.some.injEq, Addr.mk.injEq, and_true] at e1
        obtain ⟨rfl, rfl⟩ := e1
        have hby1 := HR.out.byte (q + 1)
        obtain ⟨y, hy⟩ : ∃ y, y = bs.getD (q + 1) 0 := ⟨_, rfl⟩
        rw [← hy] at hc1 hby1
        have HY : Hid (y = bs.getD (q + 1) 0) := hy
        have h2' : ¬ (q : Int) + 1 = (e : Int) := by omega
        have hq1 : (0 : Int) ≤ (q : Int) + 1 ∧ (q : Int) + 1 < (n : Int) := by omega
        have hcN : w.cell? ⟨b, off + ((q : Int) + 1).toNat, none⟩ = some (.int .u8 y) := by rw [show ((q : Int) + 1).toNat = q + 1 by omega]; exact hc1
        clear hy
        by_cases h3 : y = 0
        · subst h3
          have hf : Hid (endR bs q e = .ok true (q + 2)) := by show _ = _; unfold endR; rw [if_neg h0, if_pos HX.out.symm, if_neg h2, if_pos HY.out.symm]
          go_enter Tryd.func85, Tryd.ntmps85
          go_wp2
          go_ret
          exact ⟨Tells2.ok hf _, hbl⟩
        · have h3' : (y == 0) = false := by simp [h3]
          have hf : Hid (endR bs q e = .no 4 q) := by show _ = _; unfold endR; rw [if_neg h0, if_pos HX.out.symm, if_neg h2, if_neg (by rw [← HY.out]; exact h3)]
          go_enter Tryd.func85, Tryd.ntmps85
          go_wp2_with (go_at_call 63; refine (giveUp_any 4 q _).mono ?_; rintro e w1 ⟨rfl, rfl⟩)
          exact ⟨rfl, Tells2.no hf _, hbl⟩
    · have h1' : (x == 0) = false := by simp [h1]
      have hf : Hid (endR bs q e = .ok false q) := by show _ = _; unfold endR; rw [if_neg h0, if_neg (by rw [← HX.out]; exact h1)]
      go_enter Tryd.func85, Tryd.ntmps85
      go_wp2
      go_ret
      exact ⟨Tells2.ok hf _, hbl⟩

end Go.Proofs.YtjkkokjojaknkaaDoor
