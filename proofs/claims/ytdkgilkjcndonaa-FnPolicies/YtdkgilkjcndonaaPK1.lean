import Derived.Test.YtdkgilkjcndonaaPL5
namespace Go.Proofs.Ytdkgilkjcndonaa
open Go.RowKit

set_option maxHeartbeats 1000000 in
theorem hasNum_any (a : Option Addr) (n c : Nat) (zs : List Int) (x : Int) (w : World) (h : Row64 w a n zs) (hn : n ≤ 9223372036854775807) :
    Calls Try.prog 18 #[.slice a n c, .int .i64 x] w fun e w' => e = .returned (.bool (decide (x ∈ zs))) ∧ w' = w := by
  have H0 : Hid (Row64 w a n zs) := h
  have HL : Hid (zs.length = n) := h.len
  clear h
  go_enter Try.func18, Try.ntmps18
  go_wp2
  go_loopw [5] (fun i wr => ∃ k : Nat, k ≤ n ∧ i = .int .i64 k ∧ Hid (x ∉ zs.take k) ∧ w = wr) (fun i _ => n - (intOf i).toNat)
  case atStart => exact ⟨0, Nat.zero_le _, rfl, (by show _ ∉ _; simp), rfl⟩
  case round =>
    obtain ⟨k, hk, rfl, HA, rfl⟩ := hrel
    by_cases hlt : k < n
    · obtain ⟨b, off, rfl, hb, hc⟩ := H0.out.get k hlt
      obtain ⟨z, hz⟩ : ∃ z, z = zs.getD k 0 := ⟨_, rfl⟩
      rw [← hz] at hc
      have HZ : Hid (z = zs.getD k 0) := hz
      have HM : Hid (k < zs.length) := by show _ < _; rw [HL.out]; exact hlt
      have hlti : (k : Int) < (n : Int) := by omega
      clear hz
      by_cases he : z = x
      · have HT : Hid (decide (x ∈ zs) = true) := decide_eq_true (by rw [← he, HZ.out]; exact getD_mem zs k HM.out)
        have ze : (z == x) = true := beq_iff_eq.2 he
        clear he
        go_wp2
        go_ret
        exact ⟨by rw [HT.out]; rfl, rfl⟩
      · have HN : Hid (x ∉ zs.take (k + 1)) := by
          show _ ∉ _
          rw [mem_next zs k HM.out]
          rintro (h | h)
          · exact HA.out h
          · exact he (by rw [HZ.out]; exact h.symm)
        have ze : (z == x) = false := beq_false_of_ne he
        clear he HA
        go_wp2
        go_roundw
        case rel => exact ⟨k + 1, by omega, by go_num, HN, by trivial⟩
        case measure => simp [intOf]; omega
    · obtain rfl : k = n := by omega
      have HN : Hid (decide (x ∈ zs) = false) := decide_eq_false (by have := HA.out; rwa [mem_all zs k (by rw [HL.out]; exact Nat.le_refl _)] at this)
      go_wp2
      go_ret
      exact ⟨by rw [HN.out]; rfl, rfl⟩

set_option maxHeartbeats 400000 in
theorem in_t (x lo hi : Int) (w : World) (h : lo ≤ x ∧ x ≤ hi) : Calls Try.prog 13 #[.int .i64 x, .int .i64 lo, .int .i64 hi] w fun e w' => e = .returned (.bool true) ∧ w' = w := by
  obtain ⟨h1, h2⟩ := h
  go_enter Try.func13, Try.ntmps13
  go_wp2
  go_ret
  exact ⟨by simp [*], rfl⟩

set_option maxHeartbeats 400000 in
theorem in_f (x lo hi : Int) (w : World) (h : ¬ (lo ≤ x ∧ x ≤ hi)) : Calls Try.prog 13 #[.int .i64 x, .int .i64 lo, .int .i64 hi] w fun e w' => e = .returned (.bool false) ∧ w' = w := by
  by_cases h1 : lo ≤ x
  · have h2 : hi < x := by omega
    clear h
    go_enter Try.func13, Try.ntmps13
    go_wp2
    go_ret
    exact ⟨by simp [*], rfl⟩
  · have h2 : x < lo := by omega
    clear h h1
    go_enter Try.func13, Try.ntmps13
    go_wp2
    go_ret
    exact ⟨by simp [*], rfl⟩

theorem in_d (x lo hi : Int) (w : World) : Calls Try.prog 13 #[.int .i64 x, .int .i64 lo, .int .i64 hi] w fun e w' => e = .returned (.bool (decide (lo ≤ x ∧ x ≤ hi))) ∧ w' = w := by
  by_cases h : lo ≤ x ∧ x ≤ hi
  · rw [decide_eq_true h]; exact in_t x lo hi w h
  · rw [decide_eq_false h]; exact in_f x lo hi w h

theorem nxt_t (c says : Int) : nxt c true says = if 0 ≤ says ∧ says < c then says else c := by
  unfold nxt
  simp only [Bool.true_eq_false, false_and, if_false]
theorem nxt_p (c says : Int) (h : 0 < c) : nxt c false says = if 0 ≤ says ∧ says < c - 1 then says else c - 1 := by
  unfold nxt
  rw [if_pos (⟨rfl, h⟩ : false = false ∧ 0 < c)]
theorem nxt_z (c says : Int) (h : ¬ 0 < c) : nxt c false says = if 0 ≤ says ∧ says < c then says else c := by
  unfold nxt
  rw [if_neg (fun k : false = false ∧ 0 < c => h k.2)]

set_option maxHeartbeats 2000000 in
theorem ahead_true (ap : Option Addr) (np cp : Nat) (xs : List PC) (zero : Bool) (i : Nat) (w : World) (h : Pcs w ap np xs) (hp : pathP xs) (hi : i ≤ np) :
    Calls Try.prog 35 #[.slice ap np cp, .int .i64 i, .bool true, .bool zero] w fun e w' => e = .returned (.int .i64 (ctr PC.nomap (ctr0 zero np) xs i)) ∧ w' = w := by
  have H0 : Hid (Pcs w ap np xs) := h
  have HP : Hid (pathP xs) := hp
  have HL : Hid (xs.length = np) := h.len
  have hn8 : np ≤ 8 := by rw [← h.len]; exact hp.1.2
  obtain ⟨c0, hc0⟩ : ∃ c0, c0 = ctr0 zero np := ⟨_, rfl⟩
  have bc0 := ctr0_bounds zero np hn8
  rw [← hc0] at bc0 ⊢
  have HC0 : Hid (c0 = ctr0 zero np) := hc0
  have HCB : Hid (∀ j, 0 ≤ ctr PC.nomap c0 xs j ∧ ctr PC.nomap c0 xs j ≤ 9) := fun j => ctr_bounds _ xs bc0.1 bc0.2 j
  have hw1 : IntKind.i64.wrap ((np : Int) + 1) = (np : Int) + 1 := by rw [IntKind.wrap_i64]; omega
  obtain ⟨R, hR⟩ : ∃ R, R = ctr PC.nomap c0 xs i := ⟨_, rfl⟩
  rw [← hR]
  have HR : Hid (R = ctr PC.nomap c0 xs i) := hR
  clear h hp hc0 bc0 hR
  have LOOP : Hid (c0 = if zero then 0 else (np : Int) + 1) := HC0.out
  cases zero with
  | true =>
    obtain rfl : c0 = 0 := LOOP.out
    go_enter Try.func35, Try.ntmps35
    go_wp2
    go_loopw [9, 10] (fun v j wr => ∃ k : Nat, k ≤ i ∧ v = .int .i64 (ctr PC.nomap 0 xs k) ∧ j = .int .i64 k ∧ w = wr) (fun _ j _ => i - (intOf j).toNat)
    case atStart => exact ⟨0, Nat.zero_le _, rfl, rfl, rfl⟩
    case round =>
      obtain ⟨k, hk, rfl, rfl, rfl⟩ := hrel
      by_cases hlt : k < i
      · obtain ⟨b, off, a1, n1, d1, a2, n2, d2, rfl, hlb, hc, hpc⟩ := H0.out.get k (by omega)
        obtain ⟨y, hy⟩ : ∃ y, y = xs.getD k default := ⟨_, rfl⟩
        rw [← hy] at hc
        obtain ⟨sf, hsf⟩ : ∃ sf, sf = y.self := ⟨_, rfl⟩
        obtain ⟨lk, hlk⟩ : ∃ lk, lk = y.nomap := ⟨_, rfl⟩
        have k2 := hc.c2
        have k4 := hc.c4
        have k5 := hc.c5
        rw [← hsf] at k2
        rw [← hlk] at k4
        have bl : -1 ≤ lk := by
          have hcp := HP.out.2 k (by rw [HL.out]; omega)
          rw [← hy] at hcp
          rw [hlk]
          exact hcp.2.1.2.1.1
        obtain ⟨ck, hck⟩ : ∃ ck, ck = ctr PC.nomap 0 xs k := ⟨_, rfl⟩
        have bc := HCB.out k
        rw [← hck] at bc ⊢
        have HN : Hid (ctr PC.nomap 0 xs (k + 1) = nxt ck sf lk) := by show _ = _; rw [hck, hsf, hlk, hy]; rfl
        have hlti : (k : Int) < (i : Int) := by omega
        have hknp : (k : Int) < (np : Int) := by omega
        clear hy hsf hlk hck hc hpc
        cases sf with
        | true =>
          by_cases hl : lk = -1
          · have hln : (lk != -1) = false := by simp [hl]
            have HE : Hid (ck = ctr PC.nomap 0 xs (k + 1)) := by show _ = _; rw [HN.out, nxt_t, if_neg (fun h => by omega)]
            clear HN hl
            go_wp2
            go_roundw
            case rel => exact ⟨k + 1, by omega, by rw [← HE.out], by go_num, by trivial⟩
            case measure => simp [intOf]; omega
          · have hln : (lk != -1) = true := by simp [hl]
            by_cases hlt2 : lk < ck
            · have HE : Hid (lk = ctr PC.nomap 0 xs (k + 1)) := by show _ = _; rw [HN.out, nxt_t, if_pos ⟨by omega, hlt2⟩]
              clear HN hl
              go_wp2
              go_roundw
              case rel => exact ⟨k + 1, by omega, by rw [← HE.out], by go_num, by trivial⟩
              case measure => simp [intOf]; omega
            · have HE : Hid (ck = ctr PC.nomap 0 xs (k + 1)) := by show _ = _; rw [HN.out, nxt_t, if_neg (fun h => hlt2 h.2)]
              clear HN hl
              go_wp2
              go_roundw
              case rel => exact ⟨k + 1, by omega, by rw [← HE.out], by go_num, by trivial⟩
              case measure => simp [intOf]; omega
        | false =>
          by_cases hpos : 0 < ck
          · by_cases hl : lk = -1
            · have hln : (lk != -1) = false := by simp [hl]
              have HE : Hid (ck - 1 = ctr PC.nomap 0 xs (k + 1)) := by show _ = _; rw [HN.out, nxt_p _ _ hpos, if_neg (fun h => by omega)]
              clear HN hl
              go_wp2
              go_roundw
              case rel => exact ⟨k + 1, by omega, by rw [← HE.out], by go_num, by trivial⟩
              case measure => simp [intOf]; omega
            · have hln : (lk != -1) = true := by simp [hl]
              by_cases hlt2 : lk < ck - 1
              · have HE : Hid (lk = ctr PC.nomap 0 xs (k + 1)) := by show _ = _; rw [HN.out, nxt_p _ _ hpos, if_pos ⟨by omega, hlt2⟩]
                clear HN hl
                go_wp2
                go_roundw
                case rel => exact ⟨k + 1, by omega, by rw [← HE.out], by go_num, by trivial⟩
                case measure => simp [intOf]; omega
              · have HE : Hid (ck - 1 = ctr PC.nomap 0 xs (k + 1)) := by show _ = _; rw [HN.out, nxt_p _ _ hpos, if_neg (fun h => hlt2 h.2)]
                clear HN hl
                go_wp2
                go_roundw
                case rel => exact ⟨k + 1, by omega, by rw [← HE.out], by go_num, by trivial⟩
                case measure => simp [intOf]; omega
          · by_cases hl : lk = -1
            · have hln : (lk != -1) = false := by simp [hl]
              have HE : Hid (ck = ctr PC.nomap 0 xs (k + 1)) := by show _ = _; rw [HN.out, nxt_z _ _ hpos, if_neg (fun h => by omega)]
              clear HN hl
              go_wp2
              go_roundw
              case rel => exact ⟨k + 1, by omega, by rw [← HE.out], by go_num, by trivial⟩
              case measure => simp [intOf]; omega
            · have hln : (lk != -1) = true := by simp [hl]
              by_cases hlt2 : lk < ck
              · have HE : Hid (lk = ctr PC.nomap 0 xs (k + 1)) := by show _ = _; rw [HN.out, nxt_z _ _ hpos, if_pos ⟨by omega, hlt2⟩]
                clear HN hl
                go_wp2
                go_roundw
                case rel => exact ⟨k + 1, by omega, by rw [← HE.out], by go_num, by trivial⟩
                case measure => simp [intOf]; omega
              · have HE : Hid (ck = ctr PC.nomap 0 xs (k + 1)) := by show _ = _; rw [HN.out, nxt_z _ _ hpos, if_neg (fun h => hlt2 h.2)]
                clear HN hl
                go_wp2
                go_roundw
                case rel => exact ⟨k + 1, by omega, by rw [← HE.out], by go_num, by trivial⟩
                case measure => simp [intOf]; omega
      · obtain rfl : k = i := by omega
        have hge : ¬ ((k : Int) < (k : Int)) := by omega
        rw [← HR.out]
        go_wp2
        go_ret
        exact ⟨rfl, rfl⟩
  | false =>
    obtain rfl : c0 = (np : Int) + 1 := LOOP.out
    go_enter Try.func35, Try.ntmps35
    go_wp2
    go_loopw [9, 10] (fun v j wr => ∃ k : Nat, k ≤ i ∧ v = .int .i64 (ctr PC.nomap ((np : Int) + 1) xs k) ∧ j = .int .i64 k ∧ w = wr) (fun _ j _ => i - (intOf j).toNat)
    case atStart => exact ⟨0, Nat.zero_le _, rfl, rfl, rfl⟩
    case round =>
      obtain ⟨k, hk, rfl, rfl, rfl⟩ := hrel
      by_cases hlt : k < i
      · obtain ⟨b, off, a1, n1, d1, a2, n2, d2, rfl, hlb, hc, hpc⟩ := H0.out.get k (by omega)
        obtain ⟨y, hy⟩ : ∃ y, y = xs.getD k default := ⟨_, rfl⟩
        rw [← hy] at hc
        obtain ⟨sf, hsf⟩ : ∃ sf, sf = y.self := ⟨_, rfl⟩
        obtain ⟨lk, hlk⟩ : ∃ lk, lk = y.nomap := ⟨_, rfl⟩
        have k2 := hc.c2
        have k4 := hc.c4
        have k5 := hc.c5
        rw [← hsf] at k2
        rw [← hlk] at k4
        have bl : -1 ≤ lk := by
          have hcp := HP.out.2 k (by rw [HL.out]; omega)
          rw [← hy] at hcp
          rw [hlk]
          exact hcp.2.1.2.1.1
        obtain ⟨ck, hck⟩ : ∃ ck, ck = ctr PC.nomap ((np : Int) + 1) xs k := ⟨_, rfl⟩
        have bc := HCB.out k
        rw [← hck] at bc ⊢
        have HN : Hid (ctr PC.nomap ((np : Int) + 1) xs (k + 1) = nxt ck sf lk) := by show _ = _; rw [hck, hsf, hlk, hy]; rfl
        have hlti : (k : Int) < (i : Int) := by omega
        have hknp : (k : Int) < (np : Int) := by omega
        clear hy hsf hlk hck hc hpc
        cases sf with
        | true =>
          by_cases hl : lk = -1
          · have hln : (lk != -1) = false := by simp [hl]
            have HE : Hid (ck = ctr PC.nomap ((np : Int) + 1) xs (k + 1)) := by show _ = _; rw [HN.out, nxt_t, if_neg (fun h => by omega)]
            clear HN hl
            go_wp2
            go_roundw
            case rel => exact ⟨k + 1, by omega, by rw [← HE.out], by go_num, by trivial⟩
            case measure => simp [intOf]; omega
          · have hln : (lk != -1) = true := by simp [hl]
            by_cases hlt2 : lk < ck
            · have HE : Hid (lk = ctr PC.nomap ((np : Int) + 1) xs (k + 1)) := by show _ = _; rw [HN.out, nxt_t, if_pos ⟨by omega, hlt2⟩]
              clear HN hl
              go_wp2
              go_roundw
              case rel => exact ⟨k + 1, by omega, by rw [← HE.out], by go_num, by trivial⟩
              case measure => simp [intOf]; omega
            · have HE : Hid (ck = ctr PC.nomap ((np : Int) + 1) xs (k + 1)) := by show _ = _; rw [HN.out, nxt_t, if_neg (fun h => hlt2 h.2)]
              clear HN hl
              go_wp2
              go_roundw
              case rel => exact ⟨k + 1, by omega, by rw [← HE.out], by go_num, by trivial⟩
              case measure => simp [intOf]; omega
        | false =>
          by_cases hpos : 0 < ck
          · by_cases hl : lk = -1
            · have hln : (lk != -1) = false := by simp [hl]
              have HE : Hid (ck - 1 = ctr PC.nomap ((np : Int) + 1) xs (k + 1)) := by show _ = _; rw [HN.out, nxt_p _ _ hpos, if_neg (fun h => by omega)]
              clear HN hl
              go_wp2
              go_roundw
              case rel => exact ⟨k + 1, by omega, by rw [← HE.out], by go_num, by trivial⟩
              case measure => simp [intOf]; omega
            · have hln : (lk != -1) = true := by simp [hl]
              by_cases hlt2 : lk < ck - 1
              · have HE : Hid (lk = ctr PC.nomap ((np : Int) + 1) xs (k + 1)) := by show _ = _; rw [HN.out, nxt_p _ _ hpos, if_pos ⟨by omega, hlt2⟩]
                clear HN hl
                go_wp2
                go_roundw
                case rel => exact ⟨k + 1, by omega, by rw [← HE.out], by go_num, by trivial⟩
                case measure => simp [intOf]; omega
              · have HE : Hid (ck - 1 = ctr PC.nomap ((np : Int) + 1) xs (k + 1)) := by show _ = _; rw [HN.out, nxt_p _ _ hpos, if_neg (fun h => hlt2 h.2)]
                clear HN hl
                go_wp2
                go_roundw
                case rel => exact ⟨k + 1, by omega, by rw [← HE.out], by go_num, by trivial⟩
                case measure => simp [intOf]; omega
          · by_cases hl : lk = -1
            · have hln : (lk != -1) = false := by simp [hl]
              have HE : Hid (ck = ctr PC.nomap ((np : Int) + 1) xs (k + 1)) := by show _ = _; rw [HN.out, nxt_z _ _ hpos, if_neg (fun h => by omega)]
              clear HN hl
              go_wp2
              go_roundw
              case rel => exact ⟨k + 1, by omega, by rw [← HE.out], by go_num, by trivial⟩
              case measure => simp [intOf]; omega
            · have hln : (lk != -1) = true := by simp [hl]
              by_cases hlt2 : lk < ck
              · have HE : Hid (lk = ctr PC.nomap ((np : Int) + 1) xs (k + 1)) := by show _ = _; rw [HN.out, nxt_z _ _ hpos, if_pos ⟨by omega, hlt2⟩]
                clear HN hl
                go_wp2
                go_roundw
                case rel => exact ⟨k + 1, by omega, by rw [← HE.out], by go_num, by trivial⟩
                case measure => simp [intOf]; omega
              · have HE : Hid (ck = ctr PC.nomap ((np : Int) + 1) xs (k + 1)) := by show _ = _; rw [HN.out, nxt_z _ _ hpos, if_neg (fun h => hlt2 h.2)]
                clear HN hl
                go_wp2
                go_roundw
                case rel => exact ⟨k + 1, by omega, by rw [← HE.out], by go_num, by trivial⟩
                case measure => simp [intOf]; omega
      · obtain rfl : k = i := by omega
        have hge : ¬ ((k : Int) < (k : Int)) := by omega
        rw [← HR.out]
        go_wp2
        go_ret
        exact ⟨rfl, rfl⟩

set_option maxHeartbeats 2000000 in
theorem ahead_false (ap : Option Addr) (np cp : Nat) (xs : List PC) (zero : Bool) (i : Nat) (w : World) (h : Pcs w ap np xs) (hp : pathP xs) (hi : i ≤ np) :
    Calls Try.prog 35 #[.slice ap np cp, .int .i64 i, .bool false, .bool zero] w fun e w' => e = .returned (.int .i64 (ctr PC.noany (ctr0 zero np) xs i)) ∧ w' = w := by
  have H0 : Hid (Pcs w ap np xs) := h
  have HP : Hid (pathP xs) := hp
  have HL : Hid (xs.length = np) := h.len
  have hn8 : np ≤ 8 := by rw [← h.len]; exact hp.1.2
  obtain ⟨c0, hc0⟩ : ∃ c0, c0 = ctr0 zero np := ⟨_, rfl⟩
  have bc0 := ctr0_bounds zero np hn8
  rw [← hc0] at bc0 ⊢
  have HC0 : Hid (c0 = ctr0 zero np) := hc0
  have HCB : Hid (∀ j, 0 ≤ ctr PC.noany c0 xs j ∧ ctr PC.noany c0 xs j ≤ 9) := fun j => ctr_bounds _ xs bc0.1 bc0.2 j
  have hw1 : IntKind.i64.wrap ((np : Int) + 1) = (np : Int) + 1 := by rw [IntKind.wrap_i64]; omega
  obtain ⟨R, hR⟩ : ∃ R, R = ctr PC.noany c0 xs i := ⟨_, rfl⟩
  rw [← hR]
  have HR : Hid (R = ctr PC.noany c0 xs i) := hR
  clear h hp hc0 bc0 hR
  have LOOP : Hid (c0 = if zero then 0 else (np : Int) + 1) := HC0.out
  cases zero with
  | true =>
    obtain rfl : c0 = 0 := LOOP.out
    go_enter Try.func35, Try.ntmps35
    go_wp2
    go_loopw [9, 10] (fun v j wr => ∃ k : Nat, k ≤ i ∧ v = .int .i64 (ctr PC.noany 0 xs k) ∧ j = .int .i64 k ∧ w = wr) (fun _ j _ => i - (intOf j).toNat)
    case atStart => exact ⟨0, Nat.zero_le _, rfl, rfl, rfl⟩
    case round =>
      obtain ⟨k, hk, rfl, rfl, rfl⟩ := hrel
      by_cases hlt : k < i
      · obtain ⟨b, off, a1, n1, d1, a2, n2, d2, rfl, hlb, hc, hpc⟩ := H0.out.get k (by omega)
        obtain ⟨y, hy⟩ : ∃ y, y = xs.getD k default := ⟨_, rfl⟩
        rw [← hy] at hc
        obtain ⟨sf, hsf⟩ : ∃ sf, sf = y.self := ⟨_, rfl⟩
        obtain ⟨lk, hlk⟩ : ∃ lk, lk = y.noany := ⟨_, rfl⟩
        have k2 := hc.c2
        have k4 := hc.c4
        have k5 := hc.c5
        rw [← hsf] at k2
        rw [← hlk] at k5
        have bl : -1 ≤ lk := by
          have hcp := HP.out.2 k (by rw [HL.out]; omega)
          rw [← hy] at hcp
          rw [hlk]
          exact hcp.2.1.2.2.1
        obtain ⟨ck, hck⟩ : ∃ ck, ck = ctr PC.noany 0 xs k := ⟨_, rfl⟩
        have bc := HCB.out k
        rw [← hck] at bc ⊢
        have HN : Hid (ctr PC.noany 0 xs (k + 1) = nxt ck sf lk) := by show _ = _; rw [hck, hsf, hlk, hy]; rfl
        have hlti : (k : Int) < (i : Int) := by omega
        have hknp : (k : Int) < (np : Int) := by omega
        clear hy hsf hlk hck hc hpc
        cases sf with
        | true =>
          by_cases hl : lk = -1
          · have hln : (lk != -1) = false := by simp [hl]
            have HE : Hid (ck = ctr PC.noany 0 xs (k + 1)) := by show _ = _; rw [HN.out, nxt_t, if_neg (fun h => by omega)]
            clear HN hl
            go_wp2
            go_roundw
            case rel => exact ⟨k + 1, by omega, by rw [← HE.out], by go_num, by trivial⟩
            case measure => simp [intOf]; omega
          · have hln : (lk != -1) = true := by simp [hl]
            by_cases hlt2 : lk < ck
            · have HE : Hid (lk = ctr PC.noany 0 xs (k + 1)) := by show _ = _; rw [HN.out, nxt_t, if_pos ⟨by omega, hlt2⟩]
              clear HN hl
              go_wp2
              go_roundw
              case rel => exact ⟨k + 1, by omega, by rw [← HE.out], by go_num, by trivial⟩
              case measure => simp [intOf]; omega
            · have HE : Hid (ck = ctr PC.noany 0 xs (k + 1)) := by show _ = _; rw [HN.out, nxt_t, if_neg (fun h => hlt2 h.2)]
              clear HN hl
              go_wp2
              go_roundw
              case rel => exact ⟨k + 1, by omega, by rw [← HE.out], by go_num, by trivial⟩
              case measure => simp [intOf]; omega
        | false =>
          by_cases hpos : 0 < ck
          · by_cases hl : lk = -1
            · have hln : (lk != -1) = false := by simp [hl]
              have HE : Hid (ck - 1 = ctr PC.noany 0 xs (k + 1)) := by show _ = _; rw [HN.out, nxt_p _ _ hpos, if_neg (fun h => by omega)]
              clear HN hl
              go_wp2
              go_roundw
              case rel => exact ⟨k + 1, by omega, by rw [← HE.out], by go_num, by trivial⟩
              case measure => simp [intOf]; omega
            · have hln : (lk != -1) = true := by simp [hl]
              by_cases hlt2 : lk < ck - 1
              · have HE : Hid (lk = ctr PC.noany 0 xs (k + 1)) := by show _ = _; rw [HN.out, nxt_p _ _ hpos, if_pos ⟨by omega, hlt2⟩]
                clear HN hl
                go_wp2
                go_roundw
                case rel => exact ⟨k + 1, by omega, by rw [← HE.out], by go_num, by trivial⟩
                case measure => simp [intOf]; omega
              · have HE : Hid (ck - 1 = ctr PC.noany 0 xs (k + 1)) := by show _ = _; rw [HN.out, nxt_p _ _ hpos, if_neg (fun h => hlt2 h.2)]
                clear HN hl
                go_wp2
                go_roundw
                case rel => exact ⟨k + 1, by omega, by rw [← HE.out], by go_num, by trivial⟩
                case measure => simp [intOf]; omega
          · by_cases hl : lk = -1
            · have hln : (lk != -1) = false := by simp [hl]
              have HE : Hid (ck = ctr PC.noany 0 xs (k + 1)) := by show _ = _; rw [HN.out, nxt_z _ _ hpos, if_neg (fun h => by omega)]
              clear HN hl
              go_wp2
              go_roundw
              case rel => exact ⟨k + 1, by omega, by rw [← HE.out], by go_num, by trivial⟩
              case measure => simp [intOf]; omega
            · have hln : (lk != -1) = true := by simp [hl]
              by_cases hlt2 : lk < ck
              · have HE : Hid (lk = ctr PC.noany 0 xs (k + 1)) := by show _ = _; rw [HN.out, nxt_z _ _ hpos, if_pos ⟨by omega, hlt2⟩]
                clear HN hl
                go_wp2
                go_roundw
                case rel => exact ⟨k + 1, by omega, by rw [← HE.out], by go_num, by trivial⟩
                case measure => simp [intOf]; omega
              · have HE : Hid (ck = ctr PC.noany 0 xs (k + 1)) := by show _ = _; rw [HN.out, nxt_z _ _ hpos, if_neg (fun h => hlt2 h.2)]
                clear HN hl
                go_wp2
                go_roundw
                case rel => exact ⟨k + 1, by omega, by rw [← HE.out], by go_num, by trivial⟩
                case measure => simp [intOf]; omega
      · obtain rfl : k = i := by omega
        have hge : ¬ ((k : Int) < (k : Int)) := by omega
        rw [← HR.out]
        go_wp2
        go_ret
        exact ⟨rfl, rfl⟩
  | false =>
    obtain rfl : c0 = (np : Int) + 1 := LOOP.out
    go_enter Try.func35, Try.ntmps35
    go_wp2
    go_loopw [9, 10] (fun v j wr => ∃ k : Nat, k ≤ i ∧ v = .int .i64 (ctr PC.noany ((np : Int) + 1) xs k) ∧ j = .int .i64 k ∧ w = wr) (fun _ j _ => i - (intOf j).toNat)
    case atStart => exact ⟨0, Nat.zero_le _, rfl, rfl, rfl⟩
    case round =>
      obtain ⟨k, hk, rfl, rfl, rfl⟩ := hrel
      by_cases hlt : k < i
      · obtain ⟨b, off, a1, n1, d1, a2, n2, d2, rfl, hlb, hc, hpc⟩ := H0.out.get k (by omega)
        obtain ⟨y, hy⟩ : ∃ y, y = xs.getD k default := ⟨_, rfl⟩
        rw [← hy] at hc
        obtain ⟨sf, hsf⟩ : ∃ sf, sf = y.self := ⟨_, rfl⟩
        obtain ⟨lk, hlk⟩ : ∃ lk, lk = y.noany := ⟨_, rfl⟩
        have k2 := hc.c2
        have k4 := hc.c4
        have k5 := hc.c5
        rw [← hsf] at k2
        rw [← hlk] at k5
        have bl : -1 ≤ lk := by
          have hcp := HP.out.2 k (by rw [HL.out]; omega)
          rw [← hy] at hcp
          rw [hlk]
          exact hcp.2.1.2.2.1
        obtain ⟨ck, hck⟩ : ∃ ck, ck = ctr PC.noany ((np : Int) + 1) xs k := ⟨_, rfl⟩
        have bc := HCB.out k
        rw [← hck] at bc ⊢
        have HN : Hid (ctr PC.noany ((np : Int) + 1) xs (k + 1) = nxt ck sf lk) := by show _ = _; rw [hck, hsf, hlk, hy]; rfl
        have hlti : (k : Int) < (i : Int) := by omega
        have hknp : (k : Int) < (np : Int) := by omega
        clear hy hsf hlk hck hc hpc
        cases sf with
        | true =>
          by_cases hl : lk = -1
          · have hln : (lk != -1) = false := by simp [hl]
            have HE : Hid (ck = ctr PC.noany ((np : Int) + 1) xs (k + 1)) := by show _ = _; rw [HN.out, nxt_t, if_neg (fun h => by omega)]
            clear HN hl
            go_wp2
            go_roundw
            case rel => exact ⟨k + 1, by omega, by rw [← HE.out], by go_num, by trivial⟩
            case measure => simp [intOf]; omega
          · have hln : (lk != -1) = true := by simp [hl]
            by_cases hlt2 : lk < ck
            · have HE : Hid (lk = ctr PC.noany ((np : Int) + 1) xs (k + 1)) := by show _ = _; rw [HN.out, nxt_t, if_pos ⟨by omega, hlt2⟩]
              clear HN hl
              go_wp2
              go_roundw
              case rel => exact ⟨k + 1, by omega, by rw [← HE.out], by go_num, by trivial⟩
              case measure => simp [intOf]; omega
            · have HE : Hid (ck = ctr PC.noany ((np : Int) + 1) xs (k + 1)) := by show _ = _; rw [HN.out, nxt_t, if_neg (fun h => hlt2 h.2)]
              clear HN hl
              go_wp2
              go_roundw
              case rel => exact ⟨k + 1, by omega, by rw [← HE.out], by go_num, by trivial⟩
              case measure => simp [intOf]; omega
        | false =>
          by_cases hpos : 0 < ck
          · by_cases hl : lk = -1
            · have hln : (lk != -1) = false := by simp [hl]
              have HE : Hid (ck - 1 = ctr PC.noany ((np : Int) + 1) xs (k + 1)) := by show _ = _; rw [HN.out, nxt_p _ _ hpos, if_neg (fun h => by omega)]
              clear HN hl
              go_wp2
              go_roundw
              case rel => exact ⟨k + 1, by omega, by rw [← HE.out], by go_num, by trivial⟩
              case measure => simp [intOf]; omega
            · have hln : (lk != -1) = true := by simp [hl]
              by_cases hlt2 : lk < ck - 1
              · have HE : Hid (lk = ctr PC.noany ((np : Int) + 1) xs (k + 1)) := by show _ = _; rw [HN.out, nxt_p _ _ hpos, if_pos ⟨by omega, hlt2⟩]
                clear HN hl
                go_wp2
                go_roundw
                case rel => exact ⟨k + 1, by omega, by rw [← HE.out], by go_num, by trivial⟩
                case measure => simp [intOf]; omega
              · have HE : Hid (ck - 1 = ctr PC.noany ((np : Int) + 1) xs (k + 1)) := by show _ = _; rw [HN.out, nxt_p _ _ hpos, if_neg (fun h => hlt2 h.2)]
                clear HN hl
                go_wp2
                go_roundw
                case rel => exact ⟨k + 1, by omega, by rw [← HE.out], by go_num, by trivial⟩
                case measure => simp [intOf]; omega
          · by_cases hl : lk = -1
            · have hln : (lk != -1) = false := by simp [hl]
              have HE : Hid (ck = ctr PC.noany ((np : Int) + 1) xs (k + 1)) := by show _ = _; rw [HN.out, nxt_z _ _ hpos, if_neg (fun h => by omega)]
              clear HN hl
              go_wp2
              go_roundw
              case rel => exact ⟨k + 1, by omega, by rw [← HE.out], by go_num, by trivial⟩
              case measure => simp [intOf]; omega
            · have hln : (lk != -1) = true := by simp [hl]
              by_cases hlt2 : lk < ck
              · have HE : Hid (lk = ctr PC.noany ((np : Int) + 1) xs (k + 1)) := by show _ = _; rw [HN.out, nxt_z _ _ hpos, if_pos ⟨by omega, hlt2⟩]
                clear HN hl
                go_wp2
                go_roundw
                case rel => exact ⟨k + 1, by omega, by rw [← HE.out], by go_num, by trivial⟩
                case measure => simp [intOf]; omega
              · have HE : Hid (ck = ctr PC.noany ((np : Int) + 1) xs (k + 1)) := by show _ = _; rw [HN.out, nxt_z _ _ hpos, if_neg (fun h => hlt2 h.2)]
                clear HN hl
                go_wp2
                go_roundw
                case rel => exact ⟨k + 1, by omega, by rw [← HE.out], by go_num, by trivial⟩
                case measure => simp [intOf]; omega
      · obtain rfl : k = i := by omega
        have hge : ¬ ((k : Int) < (k : Int)) := by omega
        rw [← HR.out]
        go_wp2
        go_ret
        exact ⟨rfl, rfl⟩

set_option maxRecDepth 10000 in
set_option maxHeartbeats 4000000 in
theorem lawPoliciesOk_any (ap : Option Addr) (np cp : Nat) (xs : List PC) (w : World) (h : Pcs w ap np xs) :
    Calls Try.prog 9 #[.slice ap np cp] w (SaysP (pathP xs) w) := by
  have HS : Hid (Pcs w ap np xs) := h
  have HLN : Hid (xs.length = np) := h.len
  have hnm := h.max
  clear h
  by_cases h1 : (np : Int) < 1
  · have HN : Hid (¬ pathP xs) := fun e => by have := e.1.1; rw [HLN.out] at this; omega
    go_enter Try.func9, Try.ntmps9
    go_wp2
    go_ret
    exact saysP_f HN.out (Below.refl _ _)
  by_cases h2 : 8 < (np : Int)
  · have HN : Hid (¬ pathP xs) := fun e => by have := e.1.2; rw [HLN.out] at this; omega
    go_enter Try.func9, Try.ntmps9
    go_wp2
    go_ret
    exact saysP_f HN.out (Below.refl _ _)
  go_enter Try.func9, Try.ntmps9
  go_wp2
  go_loopw [3] (fun i wr => ∃ k0 : Nat, k0 ≤ np ∧ i = .int .i64 k0 ∧ Hid (∀ j, j < k0 → certP (xs.getD j default)) ∧ Hid (Below w.heap.size w wr)) (fun i _ => np - (intOf i).toNat)
  case atStart => exact ⟨0, Nat.zero_le _, rfl, (fun j hj => absurd hj (Nat.not_lt_zero _)), Below.refl _ _⟩
  case round =>
    obtain ⟨k0, hk0, rfl, HA0, HBR0⟩ := hrel
    by_cases hlt0 : k0 < np
    · obtain ⟨b, off, a1, n1, c1, a2, n2, c2, rfl, hlb, hc, hpc⟩ := (HS.out.kept HBR0.out).get k0 hlt0
      obtain ⟨x, hx⟩ : ∃ x, x = xs.getD k0 default := ⟨_, rfl⟩
      rw [← hx] at hc hpc
      have HY : Hid (x = xs.getD k0 default) := hx
      obtain ⟨q0, q1, q2, q3, q4, q5⟩ := hc
      have CP : Hid (pathP xs → certP x) := fun e => by rw [hx]; exact e.2 k0 (by rw [HLN.out]; exact hlt0)
      have H0 : Hid (PcAt wr a1 n1 c1 a2 n2 x) := hpc
      have HL : Hid (x.pols.length = n1 ∧ x.maps.length = n2) := ⟨hpc.pol.len, hpc.mp.len⟩
      have hle := hpc.le
      have hmax := hpc.max
      have hmx2 := hpc.mp.max
      have hlt0i : (k0 : Int) < (np : Int) := by omega
      clear hpc hx
      obtain ⟨gw, hgw⟩ : ∃ gw, gw = wr.heap.size := ⟨_, rfl⟩
      obtain ⟨w0, hw0⟩ : ∃ w0, w0 = wr.alloc (.cells #[.slice a1 n1 c1, .slice a2 n2 c2, .bool x.self, .int .i64 x.need, .int .i64 x.nomap, .int .i64 x.noany] 41) := ⟨_, rfl⟩
      have HB0 : Hid (Below wr.heap.size wr w0) := by show Below _ _ _; rw [hw0]; exact (Below.refl _ _).alloc (Nat.le_refl _) _
      have hb0 : w0.heap[gw]? = some (.cells #[.slice a1 n1 c1, .slice a2 n2 c2, .bool x.self, .int .i64 x.need, .int .i64 x.nomap, .int .i64 x.noany] 41 (0, 0)) := by rw [hw0, hgw]; exact heap_alloc_new _ _
      have x0 : w0.cell? ⟨gw, 0, none⟩ = some (.slice a1 n1 c1) := (cell_of_row _ _ 0 _ 41 (0, 0) hb0).trans rfl
      have x1 : w0.cell? ⟨gw, 1, none⟩ = some (.slice a2 n2 c2) := (cell_of_row _ _ 1 _ 41 (0, 0) hb0).trans rfl
      have x3 : w0.cell? ⟨gw, 3, none⟩ = some (.int .i64 x.need) := (cell_of_row _ _ 3 _ 41 (0, 0) hb0).trans rfl
      have x4 : w0.cell? ⟨gw, 4, none⟩ = some (.int .i64 x.nomap) := (cell_of_row _ _ 4 _ 41 (0, 0) hb0).trans rfl
      have x5 : w0.cell? ⟨gw, 5, none⟩ = some (.int .i64 x.noany) := (cell_of_row _ _ 5 _ 41 (0, 0) hb0).trans rfl
      have lx : gw < w0.heap.size := (Array.getElem?_eq_some_iff.1 hb0).1
      have HW0 : Hid (_ = _) := hw0
      clear hw0 hb0
      go_upto_region 7 with fail
      rw [← HW0.out, ← hgw]
      clear HW0 hgw q0 q1 q2 q3 q4 q5
      by_cases h6 : ¬ (n1 ≤ 6)
      · have HN : Hid (¬ pathP xs) := fun e => h6 (by rw [← HL.out.1]; exact (CP.out e).1.1)
        have h6' : 6 < (n1 : Int) := by omega
        go_wp2
        go_ret
        exact saysP_f HN.out (keepP HBR0.out HB0.out)
      replace h6 := Classical.not_not.1 h6
      have h6' : ¬ (6 < (n1 : Int)) := by omega
      by_cases h7 : ¬ (n2 ≤ 6)
      · have HN : Hid (¬ pathP xs) := fun e => h7 (by rw [← HL.out.2]; exact (CP.out e).1.2)
        have h7' : 6 < (n2 : Int) := by omega
        go_wp2
        go_ret
        exact saysP_f HN.out (keepP HBR0.out HB0.out)
      replace h7 := Classical.not_not.1 h7
      have h7' : ¬ (6 < (n2 : Int)) := by omega
      by_cases g0 : ¬ (-1 ≤ x.need ∧ x.need ≤ 10)
      · have HN : Hid (¬ pathP xs) := fun e => g0 (CP.out e).2.1.1
        go_wp2_with fail
        refine (in_f x.need (-1) 10 _ g0).mono ?_
        rintro e w1 ⟨rfl, hw1⟩; have hw2 := hw1.symm; subst hw2
        clear g0
        go_wp2
        go_ret
        exact saysP_f HN.out (keepP HBR0.out HB0.out)
      replace g0 := Classical.not_not.1 g0
      go_wp2_with fail
      refine (in_t x.need (-1) 10 _ g0).mono ?_
      rintro e w1 ⟨rfl, hw1⟩; have hw2 := hw1.symm; subst hw2
      by_cases g1 : ¬ (-1 ≤ x.nomap ∧ x.nomap ≤ 10)
      · have HN : Hid (¬ pathP xs) := fun e => g1 (CP.out e).2.1.2.1
        go_wp2_with fail
        refine (in_f x.nomap (-1) 10 _ g1).mono ?_
        rintro e w1 ⟨rfl, hw1⟩; have hw2 := hw1.symm; subst hw2
        clear g1
        go_wp2
        go_ret
        exact saysP_f HN.out (keepP HBR0.out HB0.out)
      replace g1 := Classical.not_not.1 g1
      go_wp2_with fail
      refine (in_t x.nomap (-1) 10 _ g1).mono ?_
      rintro e w1 ⟨rfl, hw1⟩; have hw2 := hw1.symm; subst hw2
      by_cases g2 : ¬ (-1 ≤ x.noany ∧ x.noany ≤ 10)
      · have HN : Hid (¬ pathP xs) := fun e => g2 (CP.out e).2.1.2.2
        go_wp2_with fail
        refine (in_f x.noany (-1) 10 _ g2).mono ?_
        rintro e w1 ⟨rfl, hw1⟩; have hw2 := hw1.symm; subst hw2
        clear g2
        go_wp2
        go_ret
        exact saysP_f HN.out (keepP HBR0.out HB0.out)
      replace g2 := Classical.not_not.1 g2
      go_wp2_with fail
      refine (in_t x.noany (-1) 10 _ g2).mono ?_
      rintro e w1 ⟨rfl, hw1⟩; have hw2 := hw1.symm; subst hw2
      have HG : Hid ((x.pols.length ≤ 6 ∧ x.maps.length ≤ 6) ∧ (-1 ≤ x.need ∧ x.need ≤ 10) ∧ (-1 ≤ x.nomap ∧ x.nomap ≤ 10) ∧ (-1 ≤ x.noany ∧ x.noany ≤ 10)) := ⟨⟨by rw [HL.out.1]; exact h6, by rw [HL.out.2]; exact h7⟩, g0, g1, g2⟩
      clear g0 g1 g2 x3 x4 x5
      go_wp2
      go_loopw [5] (fun i wr => ∃ k : Nat, k ≤ n1 ∧ i = .int .i64 k ∧ Hid (∀ j, j < k → (0 ≤ x.pols.getD j 0 ∧ x.pols.getD j 0 ≤ 1000) ∧ x.pols.getD j 0 ∉ x.pols.take j) ∧ Below w0.heap.size w0 wr) (fun i _ => n1 - (intOf i).toNat)
      case atStart => exact ⟨0, Nat.zero_le _, rfl, (fun j hj => absurd hj (Nat.not_lt_zero _)), Below.refl _ _⟩
      case round =>
        obtain ⟨k, hk, rfl, HA, hbr⟩ := hrel
        have y0 : wr.cell? ⟨gw, 0, none⟩ = some (.slice a1 n1 c1) := (hbr.cell (p := ⟨gw, 0, none⟩) lx).trans x0
        have y1 : wr.cell? ⟨gw, 1, none⟩ = some (.slice a2 n2 c2) := (hbr.cell (p := ⟨gw, 1, none⟩) lx).trans x1
        have lr : gw < wr.heap.size := Nat.lt_of_lt_of_le lx hbr.size
        have HR0 : Hid (PcAt wr a1 n1 c1 a2 n2 x) := (H0.out.kept HB0.out).kept hbr
        by_cases hlt : k < n1
        · obtain ⟨b, off, rfl, hb, hcell⟩ := HR0.out.pol.get k hlt
          obtain ⟨z, hz⟩ : ∃ z, z = x.pols.getD k 0 := ⟨_, rfl⟩
          rw [← hz] at hcell
          have HR : Hid (Row64 wr (some ⟨b, off, none⟩) k (x.pols.take k)) := HR0.out.pol.take k (by omega)
          have HZ : Hid (z = x.pols.getD k 0) := hz
          have hlti : (k : Int) < (n1 : Int) := by omega
          have hkc : k ≤ c1 := by omega
          have FB : Hid (∀ nq, Below w0.heap.size w0 (wr.drewN nq)) := fun nq => below_drewNP hbr nq
          clear hz hbr HR0 x0 x1
          by_cases hs : 0 ≤ z ∧ z ≤ 1000
          · by_cases hin : z ∈ x.pols.take k
            · have HT : Hid (¬ pathP xs) := fun hh => (CP.out hh).2.2.2.1 k (by rw [HL.out.1]; exact hlt) (by rw [← HZ.out]; exact hin)
              have HD1 : Hid (decide (0 ≤ z ∧ z ≤ 1000) = true) := decide_eq_true hs
              have HD2 : Hid (decide (z ∈ x.pols.take k) = true) := decide_eq_true hin
              clear hs hin HA
              go_wp2_with fail
              go_quiet (first
                | (go_at_call 13; refine Calls.quiet_of_same (calls_boolP (in_d z 0 1000 _) HD1.out))
                | (go_at_call 18; refine Calls.quiet_of_same (calls_boolP (hasNum_any _ k c1 (x.pols.take k) z _ (HR.out.kept (below_drewNP (Below.refl _ _) _)) (by omega)) HD2.out)))
              go_wp2
              go_ret
              exact saysP_f HT.out (keepP HBR0.out (keepP HB0.out (FB.out _)))
            · have HN : Hid (∀ j, j < k + 1 → (0 ≤ x.pols.getD j 0 ∧ x.pols.getD j 0 ≤ 1000) ∧ x.pols.getD j 0 ∉ x.pols.take j) := fun j hj => by
                by_cases e : j = k
                · rw [e, ← HZ.out]; exact ⟨hs, hin⟩
                · exact HA.out j (by omega)
              have HD1 : Hid (decide (0 ≤ z ∧ z ≤ 1000) = true) := decide_eq_true hs
              have HD2 : Hid (decide (z ∈ x.pols.take k) = false) := decide_eq_false hin
              clear hs hin HA
              go_wp2_with fail
              go_quiet (first
                | (go_at_call 13; refine Calls.quiet_of_same (calls_boolP (in_d z 0 1000 _) HD1.out))
                | (go_at_call 18; refine Calls.quiet_of_same (calls_boolP (hasNum_any _ k c1 (x.pols.take k) z _ (HR.out.kept (below_drewNP (Below.refl _ _) _)) (by omega)) HD2.out)))
              go_wp2
              go_roundw
              case rel => exact ⟨k + 1, by omega, by go_num, HN, FB.out _⟩
              case measure => simp [intOf]; omega
          · have HT : Hid (¬ pathP xs) := fun hh => hs (by rw [HZ.out]; exact (CP.out hh).2.2.1 k (by rw [HL.out.1]; exact hlt))
            have HD1 : Hid (decide (0 ≤ z ∧ z ≤ 1000) = false) := decide_eq_false hs
            clear hs HA
            go_wp2_with fail
            go_quiet (first
              | (go_at_call 13; refine Calls.quiet_of_same (calls_boolP (in_d z 0 1000 _) HD1.out)))
            go_wp2
            go_ret
            exact saysP_f HT.out (keepP HBR0.out (keepP HB0.out (FB.out _)))
        · obtain rfl : k = n1 := by omega
          have hge : ¬ ((k : Int) < (k : Int)) := by omega
          have HPL : Hid (_) := HA
          have HBR : Hid (Below w0.heap.size w0 wr) := hbr
          obtain ⟨W1, hW1⟩ : ∃ W1, W1 = wr := ⟨_, rfl⟩
          rw [← hW1] at HBR y0 y1 lr HR0 ⊢
          clear hbr x0 x1 HA hW1
          go_wp2
          go_loopw [6] (fun i wr => ∃ j : Nat, j ≤ n2 ∧ i = .int .i64 j ∧ Hid (∀ t, t < j → (1 ≤ (x.maps.getD t (0, 0)).1 ∧ (x.maps.getD t (0, 0)).1 ≤ 1000) ∧ (1 ≤ (x.maps.getD t (0, 0)).2 ∧ (x.maps.getD t (0, 0)).2 ≤ 1000)) ∧ W1 = wr) (fun i _ => n2 - (intOf i).toNat)
          case atStart => exact ⟨0, Nat.zero_le _, rfl, (fun j hj => absurd hj (Nat.not_lt_zero _)), rfl⟩
          case round =>
            obtain ⟨j, hj, rfl, HE, rfl⟩ := hrel
            by_cases hjt : j < n2
            · obtain ⟨b, off, rfl, hb, m0, m1⟩ := HR0.out.mp.get j hjt
              obtain ⟨p, hp⟩ : ∃ p, p = x.maps.getD j (0, 0) := ⟨_, rfl⟩
              rw [← hp] at m0 m1
              have HPP : Hid (p = x.maps.getD j (0, 0)) := hp
              have hjti : (j : Int) < (n2 : Int) := by omega
              clear hp
              by_cases q1 : 1 ≤ p.1 ∧ p.1 ≤ 1000
              · go_wp2_with fail
                refine (in_t p.1 1 1000 _ q1).mono ?_
                rintro e w1 ⟨rfl, hw1⟩; have hw2 := hw1.symm; subst hw2
                by_cases q2 : 1 ≤ p.2 ∧ p.2 ≤ 1000
                · have HN : Hid (∀ t, t < j + 1 → (1 ≤ (x.maps.getD t (0, 0)).1 ∧ (x.maps.getD t (0, 0)).1 ≤ 1000) ∧ (1 ≤ (x.maps.getD t (0, 0)).2 ∧ (x.maps.getD t (0, 0)).2 ≤ 1000)) := fun t ht => by
                    by_cases e : t = j
                    · rw [e, ← HPP.out]; exact ⟨q1, q2⟩
                    · exact HE.out t (by omega)
                  go_wp2_with fail
                  refine (in_t p.2 1 1000 _ q2).mono ?_
                  rintro e w1 ⟨rfl, hw1⟩; have hw2 := hw1.symm; subst hw2
                  clear q1 q2 HE
                  go_wp2
                  go_roundw
                  case rel => exact ⟨j + 1, by omega, by go_num, HN, by trivial⟩
                  case measure => simp [intOf]; omega
                · have HT : Hid (¬ pathP xs) := fun hh => q2 (by rw [HPP.out]; exact ((CP.out hh).2.2.2.2 j (by rw [HL.out.2]; exact hjt)).2)
                  go_wp2_with fail
                  refine (in_f p.2 1 1000 _ q2).mono ?_
                  rintro e w1 ⟨rfl, hw1⟩; have hw2 := hw1.symm; subst hw2
                  clear q1 q2 HE
                  go_wp2
                  go_ret
                  exact saysP_f HT.out (keepP HBR0.out (keepP HB0.out HBR.out))
              · have HT : Hid (¬ pathP xs) := fun hh => q1 (by rw [HPP.out]; exact ((CP.out hh).2.2.2.2 j (by rw [HL.out.2]; exact hjt)).1)
                go_wp2_with fail
                refine (in_f p.1 1 1000 _ q1).mono ?_
                rintro e w1 ⟨rfl, hw1⟩; have hw2 := hw1.symm; subst hw2
                clear q1 HE
                go_wp2
                go_ret
                exact saysP_f HT.out (keepP HBR0.out (keepP HB0.out HBR.out))
            · obtain rfl : j = n2 := by omega
              have hge2 : ¬ ((j : Int) < (j : Int)) := by omega
              have HT : Hid (certP x) := ⟨HG.out.1, HG.out.2, fun t ht => (HPL.out t (by rw [HL.out.1] at ht; exact ht)).1, fun t ht => (HPL.out t (by rw [HL.out.1] at ht; exact ht)).2, fun t ht => HE.out t (by rw [HL.out.2] at ht; exact ht)⟩
              have HN : Hid (∀ j, j < k0 + 1 → certP (xs.getD j default)) := fun j' hj' => by
                by_cases e : j' < k0
                · exact HA0.out j' e
                · obtain rfl : j' = k0 := by omega
                  rw [← HY.out]; exact HT.out
              have BF : Hid (Below w.heap.size w W1) := (keepP (keepP HBR0.out HB0.out) HBR.out)
              go_wp2
              go_roundw
              case rel => exact ⟨k0 + 1, by omega, by go_num, HN, BF⟩
              case measure => simp [intOf]; omega

    · obtain rfl : k0 = np := by omega
      have hge : ¬ ((k0 : Int) < (k0 : Int)) := by omega
      have HT : Hid (pathP xs) := ⟨by rw [HLN.out]; omega, fun j hj => HA0.out j (by rw [HLN.out] at hj; exact hj)⟩
      go_wp2
      go_ret
      exact saysP_t HT.out HBR0.out

end Go.Proofs.Ytdkgilkjcndonaa
