import Derived.Test.YtjkkokjojaknkaaDoorFF
import Derived.WalkSmall
import Derived.WalkMore
namespace Go.Proofs.YtjkkokjojaknkaaDoor
open Go.RowKit

/-- The way out by a fault. -/
def gvUp (c p : Nat) : List PanicEntry := [{ v := .iface 61 (.agg #[.int .i64 (c : Int), .int .i64 (p : Int)]), recovered := false }]
theorem giveUp_any (c p : Nat) (w : World) : Calls Tryd.prog 63 #[.int .i64 (c : Int), .int .i64 (p : Int)] w fun e w' => e = .panicked (gvUp c p) ∧ w = w' := by
  go_enter Tryd.func63, Tryd.ntmps63
  go_wp2
  exact ⟨rfl, rfl, rfl⟩

/-- What a reader answers: by f of the value and the place behind it, or the fault. -/
def Tells2 {α : Type} (R : Rs α) (f : α → Nat → Value) (e : Ending) : Prop := match R with
  | .ok x nx => e = .returned (f x nx)
  | .no c p => e = .panicked (gvUp c p)
theorem Tells2.no {α : Type} {R : Rs α} {c p : Nat} (h : Hid (R = .no c p)) (f : α → Nat → Value) : Tells2 R f (.panicked (gvUp c p)) := by rw [h.out]; rfl
theorem Tells2.ok {α : Type} {R : Rs α} {x : α} {nx : Nat} (h : Hid (R = .ok x nx)) (f : α → Nat → Value) : Tells2 R f (.returned (f x nx)) := by rw [h.out]; rfl

def endR (bs : List Int) (q e : Nat) : Rs Bool := if q = e then .no 1 e else if bs.getD q 0 = 0 then (if q + 1 = e then .no 1 e else if bs.getD (q + 1) 0 = 0 then .ok true (q + 2) else .no 4 q) else .ok false q

set_option maxRecDepth 10000 in
set_option maxHeartbeats 1000000 in
theorem endMark_any (a : Option Addr) (n cap : Nat) (lax : Bool) (bs : List Int) (q e : Nat) (w : World) (h : Row w a n bs) (hq : q ≤ e) (he : e ≤ n) (hn : n ≤ 20000) :
    Calls Tryd.prog 85 #[.agg #[.slice a n cap, .bool lax], .int .i64 (q : Int), .int .i64 (e : Int)] w fun ev w' => Tells2 (endR bs q e) (fun b _ => .bool b) ev ∧ Below w.heap.size w w' := by
  have HR : Hid (Row w a n bs) := h
  have hbl : Below w.heap.size w (w.alloc (.cells #[.slice a n cap, .bool lax] 93)) := (Below.refl _ _).alloc (Nat.le_refl _) _
  clear h
  by_cases h0 : q = e
  · subst h0
    have hf : Hid (endR bs q q = .no 1 q) := by show _ = _; unfold endR; rw [if_pos rfl]
    go_enter Tryd.func85, Tryd.ntmps85
    go_wp2_with (go_at_call 63; refine (giveUp_any 1 q _).mono ?_; rintro e w1 ⟨rfl, rfl⟩)
    exact ⟨rfl, Tells2.no hf _, hbl⟩
  · have hqn : q < n := by omega
    obtain ⟨b, off, rfl, hb, hc⟩ := HR.out.get q hqn
    have hby := HR.out.byte q
    obtain ⟨x, hx⟩ : ∃ x, x = bs.getD q 0 := ⟨_, rfl⟩
    rw [← hx] at hc hby
    have HX : Hid (x = bs.getD q 0) := hx
    have h0' : ¬ (q : Int) = (e : Int) := by omega
    clear hx
    by_cases h1 : x = 0
    · subst h1
      by_cases h2 : q + 1 = e
      · subst h2
        have hf : Hid (endR bs q (q + 1) = .no 1 (q + 1)) := by show _ = _; unfold endR; rw [if_neg (by omega), if_pos HX.out.symm, if_pos rfl]
        go_enter Tryd.func85, Tryd.ntmps85
        go_wp2_with (go_at_call 63; refine (giveUp_any 1 (q + 1) _).mono ?_; rintro e w1 ⟨rfl, rfl⟩)
        exact ⟨rfl, Tells2.no hf _, hbl⟩
      · obtain ⟨b1, off1, e1, hb1, hc1⟩ := HR.out.get (q + 1) (by omega)
        simp only [Option.some.injEq, Addr.mk.injEq, and_true] at e1
        obtain ⟨rfl, rfl⟩ := e1
        have hby1 := HR.out.byte (q + 1)
        obtain ⟨y, hy⟩ : ∃ y, y = bs.getD (q + 1) 0 := ⟨_, rfl⟩
        rw [← hy] at hc1 hby1
        have HY : Hid (y = bs.getD (q + 1) 0) := hy
        have h2' : ¬ (q : Int) + 1 = (e : Int) := by omega
        have hq1 : (0 : Int) ≤ (q : Int) + 1 ∧ (q : Int) + 1 < (n : Int) := by omega
        have hcN : w.cell? ⟨b, off + ((q : Int) + 1).toNat, none⟩ = some (.int .u8 y) := by rw [show ((q : Int) + 1).toNat = q + 1 by omega]; exact hc1
        clear hy
        by_cases h3 : y = 0
        · subst h3
          have hf : Hid (endR bs q e = .ok true (q + 2)) := by show _ = _; unfold endR; rw [if_neg h0, if_pos HX.out.symm, if_neg h2, if_pos HY.out.symm]
          go_enter Tryd.func85, Tryd.ntmps85
          go_wp2
          go_ret
          exact ⟨Tells2.ok hf _, hbl⟩
        · have h3' : (y == 0) = false := by simp [h3]
          have hf : Hid (endR bs q e = .no 4 q) := by show _ = _; unfold endR; rw [if_neg h0, if_pos HX.out.symm, if_neg h2, if_neg (by rw [← HY.out]; exact h3)]
          go_enter Tryd.func85, Tryd.ntmps85
          go_wp2_with (go_at_call 63; refine (giveUp_any 4 q _).mono ?_; rintro e w1 ⟨rfl, rfl⟩)
          exact ⟨rfl, Tells2.no hf _, hbl⟩
    · have h1' : (x == 0) = false := by simp [h1]
      have hf : Hid (endR bs q e = .ok false q) := by show _ = _; unfold endR; rw [if_neg h0, if_neg (by rw [← HX.out]; exact h1)]
      go_enter Tryd.func85, Tryd.ntmps85
      go_wp2
      go_ret
      exact ⟨Tells2.ok hf _, hbl⟩

end Go.Proofs.YtjkkokjojaknkaaDoor

namespace Go.Proofs.YtjkkokjojaknkaaDoor
open Go.RowKit

theorem tg_next (tg x : Int) (m : Nat) (hx : x < 128) (h : (tg + 1) * 128 ^ (m + 1) ≤ 4398046511104) : (tg * 128 + x + 1) * 128 ^ m ≤ 4398046511104 := by
  have h1 : tg * 128 + x + 1 ≤ (tg + 1) * 128 := by omega
  have h2 := Int.mul_le_mul_of_nonneg_right h1 (show (0 : Int) ≤ 128 ^ m from Int.pow_nonneg (by decide))
  have h3 : (tg + 1) * 128 * 128 ^ m = (tg + 1) * 128 ^ (m + 1) := by rw [Int.mul_assoc, Int.pow_succ, Int.mul_comm (128 ^ m) 128]
  rw [h3] at h2
  exact Int.le_trans h2 h
theorem tg_small (tg : Int) (m : Nat) (h0 : 0 ≤ tg) (h : (tg + 1) * 128 ^ m ≤ 4398046511104) : tg < 4398046511104 := by
  have h1 : (1 : Int) ≤ 128 ^ m := Int.pow_pos (by decide)
  have h2 := Int.mul_le_mul_of_nonneg_left h1 (show (0 : Int) ≤ tg + 1 by omega)
  omega
theorem grpR_0 {bs : List Int} {p e : Nat} {tag : Int} {q : Nat} (h : q ≠ e) : grpR bs p e 0 tag q = .no 2 p := by rw [grpR, if_neg h]
theorem grpR_end {bs : List Int} {p e : Nat} {tag : Int} {m : Nat} : grpR bs p e m tag e = .no 1 e := by cases m <;> rw [grpR, if_pos rfl]
theorem grpR_ok {bs : List Int} {p e : Nat} {tag : Int} {m q : Nat} (h : q ≠ e) (hx : bs.getD q 0 < 128) : grpR bs p e (m + 1) tag q = .ok (tag * 128 + bs.getD q 0) (q + 1) := by rw [grpR, if_neg h, if_pos hx]
theorem grpR_next {bs : List Int} {p e : Nat} {tag : Int} {m q : Nat} (h : q ≠ e) (hx : ¬ bs.getD q 0 < 128) : grpR bs p e (m + 1) tag q = grpR bs p e m (tag * 128 + (bs.getD q 0 - 128)) (q + 1) := by rw [grpR, if_neg h, if_neg hx]

/-- The tag in groups, its form looked at. -/
def grpsR (lax : Bool) (bs : List Int) (p e : Nat) : Rs Int := match grpR bs p e 6 0 (p + 1) with
  | .no c q => .no c q
  | .ok t q => if lax = false ∧ (bs.getD (p + 1) 0 = 128 ∨ t < 31) then .no 2 p else .ok t q
theorem grpsR_no {lax : Bool} {bs : List Int} {p e c q : Nat} (h : grpR bs p e 6 0 (p + 1) = .no c q) : grpsR lax bs p e = .no c q := by unfold grpsR; rw [h]
theorem grpsR_bad {lax : Bool} {bs : List Int} {p e q : Nat} {t : Int} (h : grpR bs p e 6 0 (p + 1) = .ok t q) (hb : lax = false ∧ (bs.getD (p + 1) 0 = 128 ∨ t < 31)) : grpsR lax bs p e = .no 2 p := by unfold grpsR; rw [h]; exact if_pos hb
theorem grpsR_ok {lax : Bool} {bs : List Int} {p e q : Nat} {t : Int} (h : grpR bs p e 6 0 (p + 1) = .ok t q) (hb : ¬ (lax = false ∧ (bs.getD (p + 1) 0 = 128 ∨ t < 31))) : grpsR lax bs p e = .ok t q := by unfold grpsR; rw [h]; exact if_neg hb

set_option maxRecDepth 10000 in
set_option maxHeartbeats 4000000 in
theorem groups_any (a : Option Addr) (n cap : Nat) (lax : Bool) (bs : List Int) (p e : Nat) (w : World) (h : Row w a n bs) (hp : p < e) (he : e ≤ n) (hn : n ≤ 20000) :
    Calls Tryd.prog 84 #[.agg #[.slice a n cap, .bool lax], .int .i64 (p : Int), .int .i64 (e : Int)] w fun ev w' => Tells2 (grpsR lax bs p e) (fun t nx => .tuple #[.int .i64 t, .int .i64 (nx : Int)]) ev ∧ Below w.heap.size w w' := by
  have HR : Hid (Row w a n bs) := h
  have hbl : Below w.heap.size w (w.alloc (.cells #[.slice a n cap, .bool lax] 93)) := (Below.refl _ _).alloc (Nat.le_refl _) _
  obtain ⟨b, off, rfl, hb, _⟩ := h.get p (by omega)
  clear h
  have HG : Hid (grpR bs p e 6 0 (p + 1) = grpR bs p e 6 0 (p + 1)) := rfl
  go_enter Tryd.func84, Tryd.ntmps84
  go_wp2
  go_step3
  go_wp2
  go_step3
  go_wp2
  go_loop [8, 9, 10] (fun t i c => ∃ (m : Nat) (tg : Int) (q : Nat), m ≤ 6 ∧ q ≤ e ∧ p < q ∧ t = .int .i64 tg ∧ i = .int .i64 (q : Int) ∧ c = .int .i64 (6 - (m : Int)) ∧ 0 ≤ tg ∧ (tg + 1) * 128 ^ m ≤ 4398046511104 ∧ grpR bs p e 6 0 (p + 1) = grpR bs p e m tg q) (fun _ _ c => 6 - (intOf c).toNat)
  case atStart => exact ⟨6, 0, p + 1, by omega, by omega, by omega, rfl, by go_num, rfl, by omega, by decide, rfl⟩
  case round =>
    obtain ⟨m, tg, q, hm, hqe, hpq, rfl, rfl, rfl, ht0, htb, hg⟩ := hrel
    have HG2 : Hid (grpR bs p e 6 0 (p + 1) = grpR bs p e m tg q) := hg
    have htl := tg_small tg m ht0 htb
    have HTB : Hid (_ ≤ _) := htb
    clear hg htb HG
    by_cases h0 : q = e
    · subst h0
      have hf : Hid (grpsR lax bs p q = .no 1 q) := grpsR_no (HG2.out.trans grpR_end)
      go_wp2_with (go_at_call 63; refine (giveUp_any 1 q _).mono ?_; rintro e w1 ⟨rfl, rfl⟩)
      exact ⟨rfl, Tells2.no hf _, hbl⟩
    · have h0' : ¬ (q : Int) = (e : Int) := by omega
      obtain ⟨b1, off1, e1, _, hc⟩ := HR.out.get q (by omega)
      simp only [Option.some.injEq, Addr.mk.injEq, and_true] at e1
      obtain ⟨rfl, rfl⟩ := e1
      have hby := HR.out.byte q
      obtain ⟨x, hx⟩ : ∃ x, x = bs.getD q 0 := ⟨_, rfl⟩
      rw [← hx] at hc hby
      have HX : Hid (x = bs.getD q 0) := hx
      have hqn : (q : Int) < (n : Int) := by omega
      obtain ⟨hx0, hx1⟩ := hby
      clear hx
      cases m with
      | zero =>
        have hf : Hid (grpsR lax bs p e = .no 2 p) := grpsR_no (HG2.out.trans (grpR_0 h0))
        go_wp2_with (go_at_call 63; refine (giveUp_any 2 p _).mono ?_; rintro e w1 ⟨rfl, rfl⟩)
        exact ⟨rfl, Tells2.no hf _, hbl⟩
      | succ m =>
        have hm6 : ¬ (6 : Int) < 6 - ((m + 1 : Nat) : Int) + 1 := by omega
        by_cases h1 : x < 128
        · have hor : bits .or .i64 (tg * 128) x = tg * 128 + x := or7 tg x ht0 (by omega) hx0 h1
          have hgo : Hid (grpR bs p e 6 0 (p + 1) = .ok (tg * 128 + x) (q + 1)) := by show _ = _; rw [HG2.out, grpR_ok h0 (by rw [← HX.out]; exact h1), ← HX.out]
          obtain ⟨t, ht⟩ : ∃ t, t = tg * 128 + x := ⟨_, rfl⟩
          rw [← ht] at hor hgo
          have ht1 : 0 ≤ t := by omega
          have HT : Hid (t = tg * 128 + x) := ht
          clear ht
          cases lax with
          | true =>
            have hf : Hid (grpsR true bs p e = .ok t (q + 1)) := grpsR_ok hgo.out (by simp)
            go_wp2
            go_ret2
            exact ⟨Tells2.ok hf _, hbl⟩
          | false =>
            obtain ⟨b2, off2, e2, _, hc2⟩ := HR.out.get (p + 1) (by omega)
            simp only [Option.some.injEq, Addr.mk.injEq, and_true] at e2
            obtain ⟨rfl, rfl⟩ := e2
            obtain ⟨y, hy⟩ : ∃ y, y = bs.getD (p + 1) 0 := ⟨_, rfl⟩
            rw [← hy] at hc2
            have HY : Hid (y = bs.getD (p + 1) 0) := hy
            have hp1 : (0 : Int) ≤ (p : Int) + 1 ∧ (p : Int) + 1 < (n : Int) := by omega
            have hcN : w.cell? ⟨b, off + ((p : Int) + 1).toNat, none⟩ = some (.int .u8 y) := by rw [show ((p : Int) + 1).toNat = p + 1 by omega]; exact hc2
            clear hy
            by_cases h2 : y = 128
            · subst h2
              have hf : Hid (grpsR false bs p e = .no 2 p) := grpsR_bad hgo.out ⟨rfl, .inl HY.out.symm⟩
              go_wp2_with (go_at_call 63; refine (giveUp_any 2 p _).mono ?_; rintro e w1 ⟨rfl, rfl⟩)
              exact ⟨rfl, Tells2.no hf _, hbl⟩
            · have h2' : (y == 128) = false := by simp [h2]
              by_cases h3 : t < 31
              · have hf : Hid (grpsR false bs p e = .no 2 p) := grpsR_bad hgo.out ⟨rfl, .inr h3⟩
                go_wp2_with (go_at_call 63; refine (giveUp_any 2 p _).mono ?_; rintro e w1 ⟨rfl, rfl⟩)
                exact ⟨rfl, Tells2.no hf _, hbl⟩
              · have hf : Hid (grpsR false bs p e = .ok t (q + 1)) := grpsR_ok hgo.out (by rw [← HY.out]; intro h; rcases h.2 with h | h; exact h2 h; exact h3 h)
                go_wp2
                go_ret2
                exact ⟨Tells2.ok hf _, hbl⟩
        · have hor : bits .or .i64 (tg * 128) (x - 128) = tg * 128 + (x - 128) := or7 tg (x - 128) ht0 (by omega) (by omega) (by omega)
          have hnext : Hid (grpR bs p e 6 0 (p + 1) = grpR bs p e m (tg * 128 + (x - 128)) (q + 1)) := by show _ = _; rw [HG2.out, grpR_next h0 (by rw [← HX.out]; exact h1), ← HX.out]
          go_wp2
          go_round
          case rel => exact ⟨m, tg * 128 + (x - 128), q + 1, by omega, by omega, by omega, rfl, by go_num, by go_num, by omega, tg_next tg _ m (by omega) HTB.out, hnext.out⟩
          case measure => simp [intOf]; omega

end Go.Proofs.YtjkkokjojaknkaaDoor
