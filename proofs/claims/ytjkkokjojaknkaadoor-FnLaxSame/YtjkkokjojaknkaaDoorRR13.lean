import Derived.Test.YtjkkokjojaknkaaDoorRR12
import Derived.Test.YtjkkokjojaknkaaDoorFN
namespace Go.Proofs.YtjkkokjojaknkaaDoor
open Go.RowKit

def slenV (o : Option Nat) (nx : Nat) : Value := .tuple #[.int .i64 (match o with | none => -1 | some m => (m : Int)), .int .i64 (nx : Int)]

set_option maxRecDepth 10000 in
set_option maxHeartbeats 4000000 in
theorem slength_any (RB : Nat) (a : Option Addr) (n cap : Nat) (lax cons : Bool) (pl : Int) (bs : List Int) (q e : Nat) (w : World) (h : Row w a n bs) (hbx : RBox RB w a n cap lax 0 pl) (hq : q ≤ e) (he : e ≤ n) (hn : n ≤ 20000) :
    Calls Tryd.prog 72 #[.pointer (some ⟨RB, 0, none⟩), .int .i64 (q : Int), .int .i64 (e : Int), .bool cons] w fun ev w' => STells RB a n cap lax pl (lenR lax cons bs q e) slenV (fun v => ∃ i j : Int, v = .tuple #[.int .i64 i, .int .i64 j]) w ev w' := by
  have HR : Hid (Row w a n bs) := h
  have HBX : Hid (RBox RB w a n cap lax 0 pl) := hbx
  obtain ⟨c0, c1, c2, c3⟩ := hbx.cells
  have FA : ∀ (c p : Int), Hid (Calls Tryd.prog 45 #[.pointer (some ⟨RB, 0, none⟩), .int .i64 c, .int .i64 p] w fun e w' => e = .returned (.tuple #[]) ∧ RBox RB w' a n cap lax c p ∧ Touch RB (RB + 1) w w') := fun c p => fail_any RB a n cap lax pl c p w HBX.out
  by_cases h0 : q = e
  · subst h0
    have hf : Hid (lenR lax cons bs q q = .no 1 q) := by show _ = _; unfold lenR; rw [if_pos rfl]
    clear h hbx
    go_enter Tryd.func72, Tryd.ntmps72
    go_wp2_with (go_at_call 45; refine (FA 1 (q : Int)).out.mono ?_; rintro e w1 ⟨rfl, hbx1, t1⟩)
    go_ret2
    refine ⟨t1, ?_⟩
    rw [hf.out]
    exact ⟨_, rfl, ⟨_, _, rfl⟩, hbx1⟩
  · have h0' : ¬ (e : Int) ≤ (q : Int) := by omega
    have hlen := h.len
    obtain ⟨b, off, rfl, hb, hc⟩ := h.get q (by omega)
    have hby := h.byte q
    clear h hbx
    obtain ⟨x, hx⟩ : ∃ x, x = bs.getD q 0 := ⟨_, rfl⟩
    rw [← hx] at hc hby
    have HX : Hid (x = bs.getD q 0) := hx
    obtain ⟨hx0, hx1⟩ := hby
    have hqn : (q : Int) < (n : Int) := by omega
    have HL : Hid (lenR lax cons bs q e = if x < 128 then .ok (some x.toNat) (q + 1) else if x = 128 ∧ lax = true ∧ cons = true then .ok none (q + 1) else if x = 128 ∨ 132 < x then .no 3 q else if e < q + 1 + (x - 128).toNat then .no 1 e else if lax = false ∧ (bs.getD (q + 1) 0 = 0 ∨ digR bs (q + 1) (x - 128).toNat < 128) then .no 3 q else .ok (some (digR bs (q + 1) (x - 128).toNat).toNat) (q + 1 + (x - 128).toNat)) := by
      show _ = _
      rw [hx]
      unfold lenR
      rw [if_neg h0]
    clear hx
    by_cases h1 : x < 128
    · have hf : Hid (lenR lax cons bs q e = .ok (some x.toNat) (q + 1)) := by show _ = _; rw [HL.out, if_pos h1]
      go_enter Tryd.func72, Tryd.ntmps72
      go_wp2
      go_ret2
      refine ⟨Touch.of_below (Below.refl _ _), ?_⟩
      rw [hf.out]
      refine ⟨?_, HBX.out⟩
      show _ = Ending.returned (slenV _ _)
      unfold slenV
      simp only [Int.toNat_of_nonneg hx0]
      rfl
    by_cases h2 : x = 128
    · subst h2
      by_cases h3 : lax = true
      · subst h3
        by_cases h4 : cons = true
        · subst h4
          have hf : Hid (lenR true true bs q e = .ok none (q + 1)) := by show _ = _; rw [HL.out, if_neg h1, if_pos ⟨rfl, rfl, rfl⟩]
          go_enter Tryd.func72, Tryd.ntmps72
          go_wp2
          go_ret2
          refine ⟨Touch.of_below (Below.refl _ _), ?_⟩
          rw [hf.out]
          refine ⟨?_, HBX.out⟩
          rfl
        · obtain rfl : cons = false := by cases cons <;> simp_all
          have hf : Hid (lenR true false bs q e = .no 3 q) := by show _ = _; rw [HL.out, if_neg h1, if_neg (by simp), if_pos (.inl rfl)]
          go_enter Tryd.func72, Tryd.ntmps72
          go_wp2_with (go_at_call 45; refine (FA 3 (q : Int)).out.mono ?_; rintro e w1 ⟨rfl, hbx1, t1⟩)
          go_ret2
          refine ⟨t1, ?_⟩
          rw [hf.out]
          exact ⟨_, rfl, ⟨_, _, rfl⟩, hbx1⟩
      · obtain rfl : lax = false := by cases lax <;> simp_all
        have hf : Hid (lenR false cons bs q e = .no 3 q) := by show _ = _; rw [HL.out, if_neg h1, if_neg (by simp), if_pos (.inl rfl)]
        go_enter Tryd.func72, Tryd.ntmps72
        go_wp2_with (go_at_call 45; refine (FA 3 (q : Int)).out.mono ?_; rintro e w1 ⟨rfl, hbx1, t1⟩)
        go_ret2
        refine ⟨t1, ?_⟩
        rw [hf.out]
        exact ⟨_, rfl, ⟨_, _, rfl⟩, hbx1⟩
    have h2' : (x == 128) = false := by simp [h2]
    by_cases h3 : 132 < x
    · have hf : Hid (lenR lax cons bs q e = .no 3 q) := by show _ = _; rw [HL.out, if_neg h1, if_neg (by intro h; exact h2 h.1), if_pos (.inr h3)]
      have h4 : (4 : Int) < x - 128 := by omega
      have h5 : (x - 128 == 0) = false := by simp; omega
      go_enter Tryd.func72, Tryd.ntmps72
      go_wp2_with (go_at_call 45; refine (FA 3 (q : Int)).out.mono ?_; rintro e w1 ⟨rfl, hbx1, t1⟩)
      go_ret2
      refine ⟨t1, ?_⟩
      rw [hf.out]
      exact ⟨_, rfl, ⟨_, _, rfl⟩, hbx1⟩
    obtain ⟨m, hm⟩ : ∃ m : Nat, x = 128 + (m : Int) := ⟨(x - 128).toNat, by omega⟩
    have hm1 : 1 ≤ m := by omega
    have hm4 : m ≤ 4 := by omega
    have em : (x - 128).toNat = m := by omega
    have HL2 : Hid (lenR lax cons bs q e = if e < q + 1 + m then .no 1 e else if lax = false ∧ (bs.getD (q + 1) 0 = 0 ∨ digR bs (q + 1) m < 128) then .no 3 q else .ok (some (digR bs (q + 1) m).toNat) (q + 1 + m)) := by
      show _ = _
      rw [HL.out, if_neg h1, if_neg (by intro h; exact h2 h.1), if_neg (by intro h; rcases h with h | h; exact h2 h; exact h3 h), em]
    clear HL
    subst hm
    clear h1 h2 h3 hx0 hx1 em h2'
    have g1 : ¬ (128 : Int) + (m : Int) < 128 := by omega
    have g2 : ((128 : Int) + (m : Int) == 128) = false := by simp; omega
    have em2 : (128 : Int) + (m : Int) - 128 = (m : Int) := by omega
    have g4 : ¬ (4 : Int) < (m : Int) := by omega
    have g5 : ((m : Int) == 0) = false := by simp; omega
    by_cases h5 : e < q + 1 + m
    · have hf : Hid (lenR lax cons bs q e = .no 1 e) := by show _ = _; rw [HL2.out, if_pos h5]
      have g6 : (e : Int) < (q : Int) + 1 + (m : Int) := by omega
      go_enter Tryd.func72, Tryd.ntmps72
      go_wp2_with (go_at_call 45; refine (FA 1 (e : Int)).out.mono ?_; rintro e w1 ⟨rfl, hbx1, t1⟩)
      go_ret2
      refine ⟨t1, ?_⟩
      rw [hf.out]
      exact ⟨_, rfl, ⟨_, _, rfl⟩, hbx1⟩
    have HL3 : Hid (lenR lax cons bs q e = if lax = false ∧ (bs.getD (q + 1) 0 = 0 ∨ digR bs (q + 1) m < 128) then .no 3 q else .ok (some (digR bs (q + 1) m).toNat) (q + 1 + m)) := by show _ = _; rw [HL2.out, if_neg h5]
    clear HL2
    have g6 : ¬ (e : Int) < (q : Int) + 1 + (m : Int) := by omega
    have HB : Hid (∀ k, k ≤ m → 0 ≤ digR bs (q + 1) k ∧ digR bs (q + 1) k + 1 ≤ 256 ^ k) := fun k hk => digR_bounds bs (q + 1) HR.out.byte k (by omega)
    go_enter Tryd.func72, Tryd.ntmps72
    go_wp2
    go_loop [12, 13] (fun acc i => ∃ k : Nat, k ≤ m ∧ i = .int .i64 (1 + (k : Int)) ∧ acc = .int .i64 (digR bs (q + 1) k)) (fun _ i => m + 1 - (intOf i).toNat)
    case atStart => exact ⟨0, Nat.zero_le _, by go_num, by rw [digR_zero]⟩
    case round =>
      obtain ⟨k, hk, rfl, rfl⟩ := hrel
      have hbk := HB.out k hk
      have hp4 : (256 : Int) ^ k ≤ 4294967296 := by
        have hc : k = 0 ∨ k = 1 ∨ k = 2 ∨ k = 3 ∨ k = 4 := by omega
        rcases hc with rfl | rfl | rfl | rfl | rfl <;> decide
      have hd0 : 0 ≤ digR bs (q + 1) k := hbk.1
      have hd1 : digR bs (q + 1) k < 4294967296 := by omega
      clear hbk hp4
      by_cases hkm : k < m
      · obtain ⟨b1, off1, e1, _, hck⟩ := HR.out.get (q + 1 + k) (by omega)
        simp only [Option.some.injEq, Addr.mk.injEq, and_true] at e1
        obtain ⟨rfl, rfl⟩ := e1
        have hyb := HR.out.byte (q + 1 + k)
        have hnx := digR_succ bs (q + 1) k (by omega)
        obtain ⟨y, hy⟩ : ∃ y, y = bs.getD (q + 1 + k) 0 := ⟨_, rfl⟩
        rw [← hy] at hck hyb hnx
        clear hy
        obtain ⟨d, hd⟩ : ∃ d, d = digR bs (q + 1) k := ⟨_, rfl⟩
        rw [← hd] at hd0 hd1 hnx ⊢
        have HN : Hid (digR bs (q + 1) (k + 1) = d * 256 + y) := hnx
        clear hd hnx
        obtain ⟨hy0, hy1⟩ := hyb
        have hor : bits .or .i64 (d * 256) y = d * 256 + y := or8s d y hd0 (by omega) hy0 (by omega)
        have hkmi : 1 + (k : Int) ≤ (m : Int) := by omega
        have hix : (0 : Int) ≤ (q : Int) + (1 + (k : Int)) ∧ (q : Int) + (1 + (k : Int)) < (n : Int) := by omega
        have hck1 : w.cell? ⟨b, off + ((q : Int) + (1 + (k : Int))).toNat, none⟩ = some (.int .u8 y) := by rw [show ((q : Int) + (1 + (k : Int))).toNat = q + 1 + k by omega]; exact hck
        have hck2 : w.cell? ⟨b, off + (q + (1 + k)), none⟩ = some (.int .u8 y) := by rw [← Nat.add_assoc q 1 k]; exact hck
        go_wp2
        go_round
        case rel => exact ⟨k + 1, by omega, by go_num, by rw [HN.out]⟩
        case measure => simp [intOf]; omega
      · obtain rfl : k = m := by omega
        have hkmi : ¬ 1 + (k : Int) ≤ (k : Int) := by omega
        obtain ⟨d, hd⟩ : ∃ d, d = digR bs (q + 1) k := ⟨_, rfl⟩
        rw [← hd] at hd0 hd1 HL3 ⊢
        clear hd
        have ed : ((d.toNat : Nat) : Int) = d := Int.toNat_of_nonneg hd0
        cases lax with
        | true =>
          have hf : Hid (lenR true cons bs q e = .ok (some d.toNat) (q + 1 + k)) := by show _ = _; rw [HL3.out, if_neg (by simp)]
          go_wp2
          go_ret2
          refine ⟨Touch.of_below (Below.refl _ _), ?_⟩
          rw [hf.out]
          refine ⟨?_, HBX.out⟩
          show _ = Ending.returned (slenV _ _)
          unfold slenV
          simp only [ed]
          rfl
        | false =>
          obtain ⟨b2, off2, e2, _, hc2⟩ := HR.out.get (q + 1) (by omega)
          simp only [Option.some.injEq, Addr.mk.injEq, and_true] at e2
          obtain ⟨rfl, rfl⟩ := e2
          obtain ⟨y2, hy2⟩ : ∃ y2, y2 = bs.getD (q + 1) 0 := ⟨_, rfl⟩
          rw [← hy2] at hc2 HL3
          clear hy2
          have hp1 : (0 : Int) ≤ (q : Int) + 1 ∧ (q : Int) + 1 < (n : Int) := by omega
          have hcN : w.cell? ⟨b, off + ((q : Int) + 1).toNat, none⟩ = some (.int .u8 y2) := by rw [show ((q : Int) + 1).toNat = q + 1 by omega]; exact hc2
          by_cases h6 : y2 = 0
          · subst h6
            have hf : Hid (lenR false cons bs q e = .no 3 q) := by show _ = _; rw [HL3.out, if_pos ⟨rfl, .inl rfl⟩]
            go_wp2_with (go_at_call 45; refine (FA 3 (q : Int)).out.mono ?_; rintro e w1 ⟨rfl, hbx1, t1⟩)
            go_ret2
            refine ⟨t1, ?_⟩
            rw [hf.out]
            exact ⟨_, rfl, ⟨_, _, rfl⟩, hbx1⟩
          · have h6' : (y2 == 0) = false := by simp [h6]
            by_cases h7 : d < 128
            · have hf : Hid (lenR false cons bs q e = .no 3 q) := by show _ = _; rw [HL3.out, if_pos ⟨rfl, .inr h7⟩]
              go_wp2_with (go_at_call 45; refine (FA 3 (q : Int)).out.mono ?_; rintro e w1 ⟨rfl, hbx1, t1⟩)
              go_ret2
              refine ⟨t1, ?_⟩
              rw [hf.out]
              exact ⟨_, rfl, ⟨_, _, rfl⟩, hbx1⟩
            · have hf : Hid (lenR false cons bs q e = .ok (some d.toNat) (q + 1 + k)) := by show _ = _; rw [HL3.out, if_neg (by intro h; rcases h.2 with h | h; exact h6 h; exact h7 h)]
              go_wp2
              go_ret2
              refine ⟨Touch.of_below (Below.refl _ _), ?_⟩
              rw [hf.out]
              refine ⟨?_, HBX.out⟩
              show _ = Ending.returned (slenV _ _)
              unfold slenV
              simp only [ed]
              rfl

end Go.Proofs.YtjkkokjojaknkaaDoor
