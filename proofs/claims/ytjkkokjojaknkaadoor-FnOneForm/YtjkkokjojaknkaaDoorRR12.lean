import Derived.Test.YtjkkokjojaknkaaDoorRR3
import Derived.Great.Walk
namespace Go.Proofs.YtjkkokjojaknkaaDoor
open Go.RowKit

/-- The reader of the specification. -/
def RBox (RB : Nat) (w : World) (a : Option Addr) (n cap : Nat) (lax : Bool) (c p : Int) : Prop := w.heap[RB]? = some (.cells #[.slice a n cap, .bool lax, .int .i64 c, .int .i64 p] 68 (0, 0))
theorem RBox.cells {RB : Nat} {w : World} {a : Option Addr} {n cap : Nat} {lax : Bool} {c p : Int} (h : RBox RB w a n cap lax c p) :
    w.cell? ⟨RB, 0, none⟩ = some (.slice a n cap) ∧ w.cell? ⟨RB, 1, none⟩ = some (.bool lax) ∧ w.cell? ⟨RB, 2, none⟩ = some (.int .i64 c) ∧ w.cell? ⟨RB, 3, none⟩ = some (.int .i64 p) :=
  ⟨(cell_of_row _ RB 0 _ 68 (0, 0) h).trans rfl, (cell_of_row _ RB 1 _ 68 (0, 0) h).trans rfl, (cell_of_row _ RB 2 _ 68 (0, 0) h).trans rfl, (cell_of_row _ RB 3 _ 68 (0, 0) h).trans rfl⟩
theorem RBox.frozen {RB : Nat} {w : World} {a : Option Addr} {n cap : Nat} {lax : Bool} {c p : Int} (h : RBox RB w a n cap lax c p) (j : Nat) : w.frozen? ⟨RB, j, none⟩ = false := frozen_of_row w RB j _ 68 h
theorem RBox.kept {RB : Nat} {w w' : World} {a : Option Addr} {n cap : Nat} {lax : Bool} {c p : Int} (h : RBox RB w a n cap lax c p) (hb : Below w.heap.size w w') : RBox RB w' a n cap lax c p := (hb.block RB (Array.getElem?_eq_some_iff.1 h).1).trans h
theorem RBox.lt {RB : Nat} {w : World} {a : Option Addr} {n cap : Nat} {lax : Bool} {c p : Int} (h : RBox RB w a n cap lax c p) : RB < w.heap.size := (Array.getElem?_eq_some_iff.1 h).1

set_option maxRecDepth 10000 in
set_option maxHeartbeats 1000000 in
theorem fail_any (RB : Nat) (a : Option Addr) (n cap : Nat) (lax : Bool) (pl : Int) (c p : Int) (w : World) (h : RBox RB w a n cap lax 0 pl) :
    Calls Tryd.prog 45 #[.pointer (some ⟨RB, 0, none⟩), .int .i64 c, .int .i64 p] w fun e w' => e = .returned (.tuple #[]) ∧ RBox RB w' a n cap lax c p ∧ Touch RB (RB + 1) w w' := by
  obtain ⟨c0, c1, c2, c3⟩ := h.cells
  have f2 := h.frozen 2
  have f3 := h.frozen 3
  have q2 := heap_setCell_same w RB 2 _ 68 (.int .i64 c) h
  have q3 := heap_setCell_same _ RB 3 _ 68 (.int .i64 p) q2
  have Q3 : Hid (_ = _) := q3
  clear q2 q3 h
  go_enter Tryd.func45, Tryd.ntmps45
  go_wp2
  first | go_end0 | refine bodyPost_ret (results_none rfl _ _ _) rfl ?_
  exact ⟨rfl, Q3.out, (touch_set _ _ _ _ (Nat.le_refl _) (by omega)).trans (touch_set _ _ _ _ (Nat.le_refl _) (by omega))⟩

/-- The tag as the specification's reader tells it. -/
def stagR (lax : Bool) (bs : List Int) (p e : Nat) : Rs Int :=
  if bs.getD p 0 % 32 < 31 then .ok (bs.getD p 0 % 32) (p + 1) else
    match grpR bs p e 6 0 (p + 1) with
    | .no c q => .no c q
    | .ok t q => if 268435455 < t ∨ (lax = false ∧ (bs.getD (p + 1) 0 = 128 ∨ t < 31)) then .no 2 p else .ok t q
theorem tagR_stag (lax : Bool) (bs : List Int) (p e : Nat) : tagR lax bs p e = match stagR lax bs p e with
    | .no c q => .no c q
    | .ok t q => if clsN bs p = 0 ∧ t = 0 then .no 2 p else .ok t q := by
  unfold tagR stagR
  by_cases h : bs.getD p 0 % 32 = 31
  · rw [if_pos h, if_neg (by omega)]
    cases grpR bs p e 6 0 (p + 1) with
    | no c q => rfl
    | ok t q =>
      by_cases h1 : (lax = false ∧ (bs.getD (p + 1) 0 = 128 ∨ t < 31))
      · simp only []
        rw [if_pos (show (lax = false ∧ (bs.getD (p + 1) 0 = 128 ∨ t < 31)) ∨ 268435455 < t ∨ (clsN bs p = 0 ∧ t = 0) from .inl h1), if_pos (show 268435455 < t ∨ (lax = false ∧ (bs.getD (p + 1) 0 = 128 ∨ t < 31)) from .inr h1)]
      · by_cases h2 : 268435455 < t
        · simp only []
          rw [if_pos (show (lax = false ∧ (bs.getD (p + 1) 0 = 128 ∨ t < 31)) ∨ 268435455 < t ∨ (clsN bs p = 0 ∧ t = 0) from .inr (.inl h2)), if_pos (show 268435455 < t ∨ (lax = false ∧ (bs.getD (p + 1) 0 = 128 ∨ t < 31)) from .inl h2)]
        · simp only []
          rw [if_neg (show ¬ (268435455 < t ∨ (lax = false ∧ (bs.getD (p + 1) 0 = 128 ∨ t < 31))) from fun h => h.elim h2 h1)]
          by_cases h3 : (clsN bs p = 0 ∧ t = 0)
          · rw [if_pos (show (lax = false ∧ (bs.getD (p + 1) 0 = 128 ∨ t < 31)) ∨ 268435455 < t ∨ (clsN bs p = 0 ∧ t = 0) from .inr (.inr h3))]
            simp only []
            rw [if_pos h3]
          · rw [if_neg (show ¬ ((lax = false ∧ (bs.getD (p + 1) 0 = 128 ∨ t < 31)) ∨ 268435455 < t ∨ (clsN bs p = 0 ∧ t = 0)) from fun h => h.elim h1 fun h => h.elim h2 h3)]
            simp only []
            rw [if_neg h3]
  · rw [if_neg h, if_pos (show bs.getD p 0 % 32 < 31 by omega)]

/-- What the specification's readers answer: the value, or something, and the fault in the box. -/
def STells {α : Type} (RB : Nat) (a : Option Addr) (n cap : Nat) (lax : Bool) (pl : Int) (R : Rs α) (f : α → Nat → Value) (bad : Value → Prop) (w : World) (ev : Ending) (w' : World) : Prop := Touch RB (RB + 1) w w' ∧ match R with
  | .ok x nx => ev = .returned (f x nx) ∧ RBox RB w' a n cap lax 0 pl
  | .no c p => ∃ v, ev = .returned v ∧ bad v ∧ RBox RB w' a n cap lax c p

theorem byte127 (x : Int) (h0 : 0 ≤ x) (h1 : x ≤ 255) : x % 128 = if x < 128 then x else x - 128 := by split <;> omega

set_option maxRecDepth 10000 in
set_option maxHeartbeats 4000000 in
theorem stag_any (RB : Nat) (a : Option Addr) (n cap : Nat) (lax : Bool) (pl : Int) (bs : List Int) (p e : Nat) (w : World) (h : Row w a n bs) (hbx : RBox RB w a n cap lax 0 pl) (hp : p < e) (he : e ≤ n) (hn : n ≤ 20000) :
    Calls Tryd.prog 71 #[.pointer (some ⟨RB, 0, none⟩), .int .i64 (p : Int), .int .i64 (e : Int)] w fun ev w' => STells RB a n cap lax pl (stagR lax bs p e) (fun t nx => .tuple #[.int .i64 t, .int .i64 (nx : Int)]) (fun v => ∃ i j : Int, v = .tuple #[.int .i64 i, .int .i64 j]) w ev w' := by
  have HR : Hid (Row w a n bs) := h
  have HBX : Hid (RBox RB w a n cap lax 0 pl) := hbx
  obtain ⟨c0, c1, c2, c3⟩ := hbx.cells
  obtain ⟨b, off, rfl, hb, hc⟩ := h.get p (by omega)
  have hby := h.byte p
  clear h hbx
  obtain ⟨x, hx⟩ : ∃ x, x = bs.getD p 0 := ⟨_, rfl⟩
  rw [← hx] at hc hby
  have HX : Hid (x = bs.getD p 0) := hx
  obtain ⟨hx0, hx1⟩ := hby
  have a31 := and31 x hx0 hx1
  have hpn : (p : Int) < (n : Int) := by omega
  obtain ⟨lo, hlo⟩ : ∃ lo, lo = x % 32 := ⟨_, rfl⟩
  rw [← hlo] at a31
  have HLO : Hid (lo = x % 32) := hlo
  have hlo0 : 0 ≤ lo := by omega
  have hlo1 : lo ≤ 31 := by omega
  clear hlo hx
  by_cases hl : lo < 31
  · have hf : Hid (stagR lax bs p e = .ok lo (p + 1)) := by show _ = _; unfold stagR; rw [← HX.out, ← HLO.out, if_pos hl]
    go_enter Tryd.func71, Tryd.ntmps71
    go_wp2
    go_ret2
    refine ⟨Touch.of_below (Below.refl _ _), ?_⟩
    rw [hf.out]
    exact ⟨rfl, HBX.out⟩
  have HS : Hid (stagR lax bs p e = match grpR bs p e 6 0 (p + 1) with
    | .no c q => .no c q
    | .ok t q => if 268435455 < t ∨ (lax = false ∧ (bs.getD (p + 1) 0 = 128 ∨ t < 31)) then .no 2 p else .ok t q) := by show _ = _; unfold stagR; rw [← HX.out, ← HLO.out, if_neg hl]
  go_enter Tryd.func71, Tryd.ntmps71
  go_wp2
  go_loop [10, 9, 11] (fun t i c => ∃ (m : Nat) (tg : Int) (q : Nat), m ≤ 6 ∧ q ≤ e ∧ p < q ∧ t = .int .i64 tg ∧ i = .int .i64 (q : Int) ∧ c = .int .i64 (7 - (m : Int)) ∧ 0 ≤ tg ∧ (tg + 1) * 128 ^ m ≤ 4398046511104 ∧ grpR bs p e 6 0 (p + 1) = grpR bs p e m tg q) (fun _ _ c => 7 - (intOf c).toNat)
  case atStart => exact ⟨6, 0, p + 1, by omega, by omega, by omega, rfl, by go_num, rfl, by omega, by decide, rfl⟩
  case round =>
    obtain ⟨m, tg, q, hm, hqe, hpq, rfl, rfl, rfl, ht0, htb, hg⟩ := hrel
    have HG2 : Hid (grpR bs p e 6 0 (p + 1) = grpR bs p e m tg q) := hg
    have htl := tg_small tg m ht0 htb
    have HTB : Hid (_ ≤ _) := htb
    clear hg htb
    have FA : ∀ (c p : Int), Hid (Calls Tryd.prog 45 #[.pointer (some ⟨RB, 0, none⟩), .int .i64 c, .int .i64 p] w fun e w' => e = .returned (.tuple #[]) ∧ RBox RB w' (some ⟨b, off, none⟩) n cap lax c p ∧ Touch RB (RB + 1) w w') := fun c p => fail_any RB (some ⟨b, off, none⟩) n cap lax pl c p w HBX.out
    by_cases h0 : q = e
    · subst h0
      have hf : Hid (stagR lax bs p q = .no 1 q) := by show _ = _; rw [HS.out, HG2.out, grpR_end]
      go_wp2_with (go_at_call 45; refine (FA 1 (q : Int)).out.mono ?_; rintro e w1 ⟨rfl, hbx1, t1⟩)
      go_ret2
      refine ⟨t1, ?_⟩
      rw [hf.out]
      exact ⟨_, rfl, ⟨_, _, rfl⟩, hbx1⟩
    · have h0' : ¬ (e : Int) ≤ (q : Int) := by omega
      obtain ⟨b1, off1, e1, _, hcq⟩ := HR.out.get q (by omega)
      simp only [Option.some.injEq, Addr.mk.injEq, and_true] at e1
      obtain ⟨rfl, rfl⟩ := e1
      have hbq := HR.out.byte q
      obtain ⟨y, hy⟩ : ∃ y, y = bs.getD q 0 := ⟨_, rfl⟩
      rw [← hy] at hcq hbq
      have HY : Hid (y = bs.getD q 0) := hy
      have hqn : (q : Int) < (n : Int) := by omega
      obtain ⟨hy0, hy1⟩ := hbq
      clear hy
      have ha7 : bits .and .u8 y 127 = y % 128 := and7 y hy0 hy1
      obtain ⟨z, hz⟩ : ∃ z, z = y % 128 := ⟨_, rfl⟩
      rw [← hz] at ha7
      have hz0 : 0 ≤ z := by omega
      have hz1 : z < 128 := by omega
      have HZ : Hid (z = y % 128) := hz
      have hor : bits .or .i64 (tg * 128) z = tg * 128 + z := or7 tg z ht0 (by omega) hz0 hz1
      clear hz
      obtain ⟨t, ht⟩ : ∃ t, t = tg * 128 + z := ⟨_, rfl⟩
      rw [← ht] at hor
      have ht1 : 0 ≤ t := by omega
      have HT : Hid (t = tg * 128 + z) := ht
      clear ht
      have hq1 : (0 : Int) ≤ (q : Int) + 1 - 1 := by omega
      cases m with
      | zero =>
        have hf : Hid (stagR lax bs p e = .no 2 p) := by show _ = _; rw [HS.out, HG2.out, grpR_0 h0]
        go_wp2_with (go_at_call 45; refine (FA 2 (p : Int)).out.mono ?_; rintro e w1 ⟨rfl, hbx1, t1⟩)
        go_ret2
        refine ⟨t1, ?_⟩
        rw [hf.out]
        exact ⟨_, rfl, ⟨_, _, rfl⟩, hbx1⟩
      | succ m =>
        have hm6 : ¬ (6 : Int) < 7 - ((m + 1 : Nat) : Int) := by omega
        by_cases h1 : y < 128
        · have hzy : z = y := by have := HZ.out; omega
          have hgo : Hid (grpR bs p e 6 0 (p + 1) = .ok t (q + 1)) := by show _ = _; rw [HG2.out, grpR_ok h0 (by rw [← HY.out]; exact h1), ← HY.out, HT.out, hzy]
          have HS2 : Hid (stagR lax bs p e = if 268435455 < t ∨ (lax = false ∧ (bs.getD (p + 1) 0 = 128 ∨ t < 31)) then .no 2 p else .ok t (q + 1)) := by show _ = _; rw [HS.out, hgo.out]
          clear hzy hgo
          by_cases k1 : 268435455 < t
          · have hf : Hid (stagR lax bs p e = .no 2 p) := by show _ = _; rw [HS2.out, if_pos (.inl k1)]
            go_wp2_with (go_at_call 45; refine (FA 2 (p : Int)).out.mono ?_; rintro e w1 ⟨rfl, hbx1, t1⟩)
            go_ret2
            refine ⟨t1, ?_⟩
            rw [hf.out]
            exact ⟨_, rfl, ⟨_, _, rfl⟩, hbx1⟩
          · cases lax with
            | true =>
              have hf : Hid (stagR true bs p e = .ok t (q + 1)) := by show _ = _; rw [HS2.out, if_neg (by intro h; rcases h with h | h; exact k1 h; exact absurd h.1 (by decide))]
              go_wp2
              go_ret2
              refine ⟨Touch.of_below (Below.refl _ _), ?_⟩
              rw [hf.out]
              exact ⟨rfl, HBX.out⟩
            | false =>
              obtain ⟨b2, off2, e2, _, hc2⟩ := HR.out.get (p + 1) (by omega)
              simp only [Option.some.injEq, Addr.mk.injEq, and_true] at e2
              obtain ⟨rfl, rfl⟩ := e2
              obtain ⟨y2, hy2⟩ : ∃ y2, y2 = bs.getD (p + 1) 0 := ⟨_, rfl⟩
              rw [← hy2] at hc2
              have HY2 : Hid (y2 = bs.getD (p + 1) 0) := hy2
              have hp1 : (0 : Int) ≤ (p : Int) + 1 ∧ (p : Int) + 1 < (n : Int) := by omega
              have hcN : w.cell? ⟨b, off + ((p : Int) + 1).toNat, none⟩ = some (.int .u8 y2) := by rw [show ((p : Int) + 1).toNat = p + 1 by omega]; exact hc2
              clear hy2
              by_cases h2 : y2 = 128
              · subst h2
                have hf : Hid (stagR false bs p e = .no 2 p) := by show _ = _; rw [HS2.out, if_pos (.inr ⟨rfl, .inl HY2.out.symm⟩)]
                go_wp2_with (go_at_call 45; refine (FA 2 (p : Int)).out.mono ?_; rintro e w1 ⟨rfl, hbx1, t1⟩)
                go_ret2
                refine ⟨t1, ?_⟩
                rw [hf.out]
                exact ⟨_, rfl, ⟨_, _, rfl⟩, hbx1⟩
              · have h2' : (y2 == 128) = false := by simp [h2]
                by_cases h3 : t < 31
                · have hf : Hid (stagR false bs p e = .no 2 p) := by show _ = _; rw [HS2.out, if_pos (.inr ⟨rfl, .inr h3⟩)]
                  go_wp2_with (go_at_call 45; refine (FA 2 (p : Int)).out.mono ?_; rintro e w1 ⟨rfl, hbx1, t1⟩)
                  go_ret2
                  refine ⟨t1, ?_⟩
                  rw [hf.out]
                  exact ⟨_, rfl, ⟨_, _, rfl⟩, hbx1⟩
                · have hf : Hid (stagR false bs p e = .ok t (q + 1)) := by show _ = _; rw [HS2.out, if_neg (by rw [← HY2.out]; intro h; rcases h with h | h; exact k1 h; rcases h.2 with h | h; exact h2 h; exact h3 h)]
                  go_wp2
                  go_ret2
                  refine ⟨Touch.of_below (Below.refl _ _), ?_⟩
                  rw [hf.out]
                  exact ⟨rfl, HBX.out⟩
        · have hnext : Hid (grpR bs p e 6 0 (p + 1) = grpR bs p e m t (q + 1)) := by
            show _ = _
            rw [HG2.out, grpR_next h0 (by rw [← HY.out]; exact h1), ← HY.out, HT.out]
            congr 1
            have := HZ.out
            omega
          have hbd : (t + 1) * 128 ^ m ≤ 4398046511104 := by rw [HT.out]; exact tg_next tg z m hz1 HTB.out
          have HBD : Hid (_ ≤ _) := hbd
          clear hbd
          go_wp2
          go_round
          case rel => exact ⟨m, t, q + 1, by omega, by omega, by omega, rfl, by go_num, by go_num, ht1, HBD.out, hnext.out⟩
          case measure => simp [intOf]; omega

end Go.Proofs.YtjkkokjojaknkaaDoor
