import Derived.Test.YtjkkokjojaknkaaDoorRR3
namespace Go.Proofs.YtjkkokjojaknkaaDoor
open Go.RowKit

/-- How many bytes a length has. -/
def lnN (n : Int) : Nat := if n < 128 then 1 else if n < 256 then 2 else if n < 65536 then 3 else if n < 16777216 then 4 else 5
theorem lnN_small (n : Nat) (h : n < 16777216) : (lenL n).length = lnN (n : Int) := by
  unfold lenL lnN
  by_cases h1 : n < 128
  · have e1 : (n : Int) < 128 := by omega
    rw [if_pos h1, if_pos e1]; rfl
  have e1 : ¬ (n : Int) < 128 := by omega
  rw [if_neg h1, if_neg e1]
  by_cases h2 : n < 256
  · have e2 : (n : Int) < 256 := by omega
    rw [if_pos h2, if_pos e2]; rfl
  have e2 : ¬ (n : Int) < 256 := by omega
  rw [if_neg h2, if_neg e2]
  by_cases h3 : n < 65536
  · have e3 : (n : Int) < 65536 := by omega
    rw [if_pos h3, if_pos e3]; rfl
  have e3 : ¬ (n : Int) < 65536 := by omega
  have e4 : (n : Int) < 16777216 := by omega
  rw [if_neg h3, if_neg e3, if_pos e4]
  rfl
theorem eight_big (n : Nat) (h : n < 4294967296) (x0 x1 x2 x3 x4 x5 x6 x7 : Int) (he : [x0, x1, x2, x3, x4, x5, x6, x7] = eight n) :
    x0 = 0 ∧ x1 = 0 ∧ x2 = 0 ∧ x3 = 0 ∧ x4 = (n : Int) / 16777216 ∧ x5 = (n : Int) / 65536 % 256 ∧ x6 = (n : Int) / 256 % 256 ∧ x7 = (n : Int) % 256 := by
  simp only [eight, List.cons.injEq] at he
  omega

set_option maxRecDepth 10000 in
set_option maxHeartbeats 1000000 in
theorem lengthBytes_big (n : Nat) (w : World) (h0 : 16777216 ≤ n) (h : n < 4294967296) :
    Calls Tryd.prog 74 #[.int .i64 n] w fun e w' => ∃ a cap, e = .returned (.slice a 5 cap) ∧ Below w.heap.size w w' := by
  obtain ⟨i0, hi, hz0, hz1, hz2⟩ := info_parts Tryd.info5
  have h1' : ¬ (n : Int) < 128 := by omega
  go_enter Tryd.func74, Tryd.ntmps74
  go_wp2_with fail
  refine (eight_any n _ (by omega)).mono ?_
  rintro e w1 ⟨x0, x1, x2, x3, x4, x5, x6, x7, rfl, he, hb1⟩
  obtain ⟨rfl, rfl, rfl, rfl, h4, h5, h6, h7⟩ := eight_big n h _ _ _ _ _ _ _ _ he
  clear he
  have hs1 := hb1.size
  have hne : (x4 == 0) = false := by simp; omega
  have b4 : 0 ≤ x4 ∧ x4 ≤ 255 := by omega
  have b5 : 0 ≤ x5 ∧ x5 ≤ 255 := by omega
  have b6 : 0 ≤ x6 ∧ x6 ≤ 255 := by omega
  have b7 : 0 ≤ x7 ∧ x7 ≤ 255 := by omega
  have HO : Hid (Own w.heap.size ((w1.alloc (.cells #[.int .u8 0, .int .u8 0, .int .u8 0, .int .u8 0, .int .u8 x4, .int .u8 x5, .int .u8 x6, .int .u8 x7] 86)).alloc (.cells #[.int .u8 132] 5)) (some ⟨w1.heap.size + 1, 0, none⟩) 1 1 [132]) := own_one w.heap.size (w1.alloc (.cells #[.int .u8 0, .int .u8 0, .int .u8 0, .int .u8 0, .int .u8 x4, .int .u8 x5, .int .u8 x6, .int .u8 x7] 86)) _ (by simp) (by simp; omega) 132 (by decide)
  have HR : Hid (Row ((w1.alloc (.cells #[.int .u8 0, .int .u8 0, .int .u8 0, .int .u8 0, .int .u8 x4, .int .u8 x5, .int .u8 x6, .int .u8 x7] 86)).alloc (.cells #[.int .u8 132] 5)) (some ⟨w1.heap.size, 4, none⟩) 4 [x4, x5, x6, x7]) := row_tail w1 (0) (0) (0) (0) (x4) (x5) (x6) (x7) 86 (.cells #[.int .u8 132] 5) 4 4 rfl [x4, x5, x6, x7] rfl (fun k => by match k with | 0 => simpa using b4 | 1 => simpa using b5 | 2 => simpa using b6 | 3 => simpa using b7 | k + 4 => simp)
  have hB2 : Below w.heap.size w ((w1.alloc (.cells #[.int .u8 0, .int .u8 0, .int .u8 0, .int .u8 0, .int .u8 x4, .int .u8 x5, .int .u8 x6, .int .u8 x7] 86)).alloc (.cells #[.int .u8 132] 5)) := (hb1.alloc hs1 _).alloc (by simp; omega) _
  clear h4 h5 h6 h7
  go_wp2
  refine wp_loop_rounds 9 ?_
  iterate 4 (rw [rounds_succ]; go_wp2)
  rw [rounds_succ]
  go_wp2_with (at_builtin; refine wpList_append_row _ rfl (.tmp 22) (.tmp 24) 22 rfl w.heap.size i0 Tryd.underlying22 hi hz0 hz1 hz2 _ _ _ rfl HO.out.row _ 4 4 [x4, x5, x6, x7] rfl HR.out (by simp) (by omega) (by simp; omega) ?_; intro v3 w3 hv3 hg3)
  obtain ⟨a3, c3, rfl, ho3⟩ := own_appended (xs := [132]) (ys := [x4, x5, x6, x7]) hv3 HO.out.byte HR.out.byte
  have hb3 : Below w.heap.size w w3 := below_appended hB2 (by simp; omega) HO.out.row hg3
  go_ret
  exact ⟨a3, c3, rfl, hb3⟩

theorem lengthBytes_len (n : Int) (w : World) (h0 : 0 ≤ n) (h : n < 4294967296) :
    Calls Tryd.prog 74 #[.int .i64 n] w fun e w' => ∃ a cap, e = .returned (.slice a (lnN n) cap) ∧ Below w.heap.size w w' := by
  obtain ⟨k, rfl⟩ := Int.eq_ofNat_of_zero_le h0
  by_cases h1 : k < 16777216
  · refine (lengthBytes_any k w h1).mono ?_
    rintro e w' ⟨a, cap, rfl, _, hb⟩
    exact ⟨a, cap, by rw [lnN_small k h1], hb⟩
  · refine (lengthBytes_big k w (by omega) (by omega)).mono ?_
    rintro e w' ⟨a, cap, rfl, hb⟩
    refine ⟨a, cap, ?_, hb⟩
    have : lnN (k : Int) = 5 := by unfold lnN; rw [if_neg (by omega), if_neg (by omega), if_neg (by omega), if_neg (by omega)]
    rw [this]

theorem bigL_snoc (xs : List Int) (x : Int) : ∀ a, bigL (xs ++ [x]) a = bigL xs a * 256 + x := by
  induction xs with
  | nil => intro a; rfl
  | cons y ys ih => intro a; exact ih _
theorem digR_zero (bs : List Int) (q : Nat) : digR bs q 0 = 0 := by unfold digR; rw [List.take_zero]; rfl
theorem digR_succ (bs : List Int) (q k : Nat) (h : q + k < bs.length) : digR bs q (k + 1) = digR bs q k * 256 + bs.getD (q + k) 0 := by
  unfold digR
  have e : (bs.drop q).take (k + 1) = (bs.drop q).take k ++ [bs.getD (q + k) 0] := by
    rw [List.take_add_one, List.getElem?_drop]
    simp [h]
  rw [e, bigL_snoc]
theorem digR_first (bs : List Int) (q : Nat) (hb : ∀ i, 0 ≤ bs.getD i 0 ∧ bs.getD i 0 ≤ 255) : ∀ k, q + k < bs.length → bs.getD q 0 * 256 ^ k ≤ digR bs q (k + 1) ∧ digR bs q (k + 1) < (bs.getD q 0 + 1) * 256 ^ k := by
  intro k
  induction k with
  | zero => intro h; rw [digR_succ bs q 0 h, digR_zero]; simp only [Int.pow_zero, Nat.add_zero]; omega
  | succ k ih =>
    intro h
    have h1 := ih (by omega)
    have h2 := hb (q + (k + 1))
    rw [digR_succ bs q (k + 1) h]
    have e1 : bs.getD q 0 * 256 ^ (k + 1) = bs.getD q 0 * 256 ^ k * 256 := by rw [Int.pow_succ, Int.mul_assoc]
    have e2 : (bs.getD q 0 + 1) * 256 ^ (k + 1) = (bs.getD q 0 + 1) * 256 ^ k * 256 := by rw [Int.pow_succ, Int.mul_assoc]
    rw [e1, e2]
    omega
theorem digR_bounds (bs : List Int) (q : Nat) (hb : ∀ i, 0 ≤ bs.getD i 0 ∧ bs.getD i 0 ≤ 255) : ∀ k, q + k ≤ bs.length → 0 ≤ digR bs q k ∧ digR bs q k + 1 ≤ 256 ^ k := by
  intro k
  induction k with
  | zero => intro _; rw [digR_zero]; decide
  | succ k ih =>
    intro h
    have h1 := ih (by omega)
    have h2 := hb (q + k)
    rw [digR_succ bs q k (by omega), Int.pow_succ]
    omega
/-- A length in fewer bytes than it has. -/
theorem lnN_iff (bs : List Int) (q m : Nat) (hb : ∀ i, 0 ≤ bs.getD i 0 ∧ bs.getD i 0 ≤ 255) (h1 : 1 ≤ m) (h4 : m ≤ 4) (hl : q + m ≤ bs.length) : lnN (digR bs q m) < 1 + m ↔ (bs.getD q 0 = 0 ∨ digR bs q m < 128) := by
  obtain ⟨k, rfl⟩ : ∃ k, m = k + 1 := ⟨m - 1, by omega⟩
  have h2 := digR_first bs q hb k (by omega)
  have h3 := hb q
  generalize bs.getD q 0 = d at *
  generalize digR bs q (k + 1) = n at *
  have hk : k = 0 ∨ k = 1 ∨ k = 2 ∨ k = 3 := by omega
  have p1 : (256 : Int) ^ 1 = 256 := by decide
  have p2 : (256 : Int) ^ 2 = 65536 := by decide
  have p3 : (256 : Int) ^ 3 = 16777216 := by decide
  have p0 : (256 : Int) ^ 0 = 1 := by decide
  unfold lnN
  rcases hk with rfl | rfl | rfl | rfl
  · rw [p0] at h2; repeat (first | omega | split)
  · rw [p1] at h2; repeat (first | omega | split)
  · rw [p2] at h2; repeat (first | omega | split)
  · rw [p3] at h2; repeat (first | omega | split)

end Go.Proofs.YtjkkokjojaknkaaDoor

namespace Go.Proofs.YtjkkokjojaknkaaDoor
open Go.RowKit

def lenV (o : Option Nat) (nx : Nat) : Value := .tuple #[.int .i64 ((o.getD 0 : Nat) : Int), .bool o.isNone, .int .i64 (nx : Int)]
theorem or8s (m x : Int) (hm : 0 ≤ m) (hm' : m < 36028797018963968) (hx : 0 ≤ x) (hx' : x < 256) : bits .or .i64 (m * 256) x = m * 256 + x :=
  bits_join .i64 63 (by decide) wraps_i64 8 (m * 256) x (by omega) (by omega) (by omega) hx hx' (by omega)

set_option maxRecDepth 10000 in
set_option maxHeartbeats 4000000 in
theorem readLength_any (a : Option Addr) (n cap : Nat) (lax cons : Bool) (bs : List Int) (q e : Nat) (w : World) (h : Row w a n bs) (hq : q ≤ e) (he : e ≤ n) (hn : n ≤ 20000) (hcap : n ≤ cap) :
    Calls Tryd.prog 78 #[.agg #[.slice a n cap, .bool lax], .int .i64 (q : Int), .int .i64 (e : Int), .bool cons] w fun ev w' => Tells2 (lenR lax cons bs q e) lenV ev ∧ Below w.heap.size w w' := by
  have HR : Hid (Row w a n bs) := h
  have hbl : Below w.heap.size w (w.alloc (.cells #[.slice a n cap, .bool lax] 93)) := (Below.refl _ _).alloc (Nat.le_refl _) _
  by_cases h0 : q = e
  · subst h0
    have hf : Hid (lenR lax cons bs q q = .no 1 q) := by show _ = _; unfold lenR; rw [if_pos rfl]
    clear h
    go_enter Tryd.func78, Tryd.ntmps78
    go_wp2_with (go_at_call 63; refine (giveUp_any 1 q _).mono ?_; rintro e w1 ⟨rfl, rfl⟩)
    exact ⟨rfl, Tells2.no hf _, hbl⟩
  · have h0' : ¬ (q : Int) = (e : Int) := by omega
    have hlen := h.len
    obtain ⟨b, off, rfl, hb, hc⟩ := h.get q (by omega)
    have hby := h.byte q
    clear h
    obtain ⟨x, hx⟩ : ∃ x, x = bs.getD q 0 := ⟨_, rfl⟩
    rw [← hx] at hc hby
    have HX : Hid (x = bs.getD q 0) := hx
    obtain ⟨hx0, hx1⟩ := hby
    have hqn : (q : Int) < (n : Int) := by omega
    have HL : Hid (lenR lax cons bs q e = if x < 128 then .ok (some x.toNat) (q + 1) else if x = 128 ∧ lax = true ∧ cons = true then .ok none (q + 1) else if x = 128 ∨ 132 < x then .no 3 q else if e < q + 1 + (x - 128).toNat then .no 1 e else if lax = false ∧ (bs.getD (q + 1) 0 = 0 ∨ digR bs (q + 1) (x - 128).toNat < 128) then .no 3 q else .ok (some (digR bs (q + 1) (x - 128).toNat).toNat) (q + 1 + (x - 128).toNat)) := by
      show _ = _
      rw [hx]
      unfold lenR
      rw [if_neg h0]
    clear hx
    by_cases h1 : x < 128
    · have hf : Hid (lenR lax cons bs q e = .ok (some x.toNat) (q + 1)) := by show _ = _; rw [HL.out, if_pos h1]
      go_enter Tryd.func78, Tryd.ntmps78
      go_wp2
      go_ret3
      refine ⟨?_, hbl⟩
      rw [hf.out]
      show _ = Ending.returned (lenV _ _)
      unfold lenV
      simp only [Option.getD_some, Int.toNat_of_nonneg hx0]
      rfl
    by_cases h2 : x = 128
    · subst h2
      by_cases h3 : lax = true
      · subst h3
        by_cases h4 : cons = true
        · subst h4
          have hf : Hid (lenR true true bs q e = .ok none (q + 1)) := by show _ = _; rw [HL.out, if_neg h1, if_pos ⟨rfl, rfl, rfl⟩]
          go_enter Tryd.func78, Tryd.ntmps78
          go_wp2
          go_ret3
          exact ⟨Tells2.ok hf _, hbl⟩
        · obtain rfl : cons = false := by cases cons <;> simp_all
          have hf : Hid (lenR true false bs q e = .no 3 q) := by show _ = _; rw [HL.out, if_neg h1, if_neg (by simp), if_pos (.inl rfl)]
          go_enter Tryd.func78, Tryd.ntmps78
          go_wp2_with (go_at_call 63; refine (giveUp_any 3 q _).mono ?_; rintro e w1 ⟨rfl, rfl⟩)
          exact ⟨rfl, Tells2.no hf _, hbl⟩
      · obtain rfl : lax = false := by cases lax <;> simp_all
        have hf : Hid (lenR false cons bs q e = .no 3 q) := by show _ = _; rw [HL.out, if_neg h1, if_neg (by simp), if_pos (.inl rfl)]
        go_enter Tryd.func78, Tryd.ntmps78
        go_wp2_with (go_at_call 63; refine (giveUp_any 3 q _).mono ?_; rintro e w1 ⟨rfl, rfl⟩)
        exact ⟨rfl, Tells2.no hf _, hbl⟩
    have h2' : (x == 128) = false := by simp [h2]
    by_cases h3 : 132 < x
    · have hf : Hid (lenR lax cons bs q e = .no 3 q) := by show _ = _; rw [HL.out, if_neg h1, if_neg (by intro h; exact h2 h.1), if_pos (.inr h3)]
      go_enter Tryd.func78, Tryd.ntmps78
      go_wp2_with (go_at_call 63; refine (giveUp_any 3 q _).mono ?_; rintro e w1 ⟨rfl, rfl⟩)
      exact ⟨rfl, Tells2.no hf _, hbl⟩
    obtain ⟨m, hm⟩ : ∃ m : Nat, x = 128 + (m : Int) := ⟨(x - 128).toNat, by omega⟩
    have hm1 : 1 ≤ m := by omega
    have hm4 : m ≤ 4 := by omega
    have em : (x - 128).toNat = m := by omega
    have HL2 : Hid (lenR lax cons bs q e = if e < q + 1 + m then .no 1 e else if lax = false ∧ (bs.getD (q + 1) 0 = 0 ∨ digR bs (q + 1) m < 128) then .no 3 q else .ok (some (digR bs (q + 1) m).toNat) (q + 1 + m)) := by
      show _ = _
      rw [HL.out, if_neg h1, if_neg (by intro h; exact h2 h.1), if_neg (by intro h; rcases h with h | h; exact h2 h; exact h3 h), em]
    clear HL
    subst hm
    clear h1 h2 h3 hx0 hx1 em h2'
    have g1 : ¬ (128 : Int) + (m : Int) < 128 := by omega
    have g2 : ((128 : Int) + (m : Int) == 128) = false := by simp; omega
    have g3 : ¬ (132 : Int) < 128 + (m : Int) := by omega
    have g4 : (q : Int) + 1 + (128 + (m : Int)) - 128 = ((q + 1 + m : Nat) : Int) := by omega
    by_cases h5 : e < q + 1 + m
    · have hf : Hid (lenR lax cons bs q e = .no 1 e) := by show _ = _; rw [HL2.out, if_pos h5]
      go_enter Tryd.func78, Tryd.ntmps78
      go_wp2_with (go_at_call 63; refine (giveUp_any 1 e _).mono ?_; rintro e w1 ⟨rfl, rfl⟩)
      exact ⟨rfl, Tells2.no hf _, hbl⟩
    have HL3 : Hid (lenR lax cons bs q e = if lax = false ∧ (bs.getD (q + 1) 0 = 0 ∨ digR bs (q + 1) m < 128) then .no 3 q else .ok (some (digR bs (q + 1) m).toNat) (q + 1 + m)) := by show _ = _; rw [HL2.out, if_neg h5]
    clear HL2
    have HB : Hid (∀ k, k ≤ m → 0 ≤ digR bs (q + 1) k ∧ digR bs (q + 1) k + 1 ≤ 256 ^ k) := fun k hk => digR_bounds bs (q + 1) HR.out.byte k (by omega)
    go_enter Tryd.func78, Tryd.ntmps78
    have s1 : ¬ (cap : Int) < (q : Int) + 1 + (m : Int) := by omega
    have s2 : ¬ (q : Int) + 1 + (m : Int) < (q : Int) + 1 := by omega
    have s3 : ¬ (q : Int) + 1 < 0 := by omega
    have s4 : (q : Int) + 1 + (m : Int) - ((q : Int) + 1) = (m : Int) := by omega
    have s5 : ((q : Int) + 1 + (m : Int) - ((q : Int) + 1)).toNat = m := by omega
    have s6 : ((q : Int) + 1).toNat = q + 1 := by omega
    go_wp2
    go_loop [13, 68] (fun acc i => ∃ k : Nat, k ≤ m ∧ i = .int .i64 (k : Int) ∧ acc = .int .i64 (digR bs (q + 1) k)) (fun _ i => m - (intOf i).toNat)
    case atStart => exact ⟨0, Nat.zero_le _, rfl, by rw [digR_zero]⟩
    case round =>
      obtain ⟨k, hk, rfl, rfl⟩ := hrel
      have hbk := HB.out k hk
      have hp4 : (256 : Int) ^ k ≤ 4294967296 := by
        have hc : k = 0 ∨ k = 1 ∨ k = 2 ∨ k = 3 ∨ k = 4 := by omega
        rcases hc with rfl | rfl | rfl | rfl | rfl <;> decide
      have hd0 : 0 ≤ digR bs (q + 1) k := hbk.1
      have hd1 : digR bs (q + 1) k < 4294967296 := by omega
      clear hbk hp4
      by_cases hkm : k < m
      · obtain ⟨b1, off1, e1, _, hck⟩ := HR.out.get (q + 1 + k) (by omega)
        simp only [Option.some.injEq, Addr.mk.injEq, and_true] at e1
        obtain ⟨rfl, rfl⟩ := e1
        have hyb := HR.out.byte (q + 1 + k)
        have hnx := digR_succ bs (q + 1) k (by omega)
        obtain ⟨y, hy⟩ : ∃ y, y = bs.getD (q + 1 + k) 0 := ⟨_, rfl⟩
        rw [← hy] at hck hyb hnx
        clear hy
        obtain ⟨d, hd⟩ : ∃ d, d = digR bs (q + 1) k := ⟨_, rfl⟩
        rw [← hd] at hd0 hd1 hnx ⊢
        have HN : Hid (digR bs (q + 1) (k + 1) = d * 256 + y) := hnx
        clear hd hnx
        obtain ⟨hy0, hy1⟩ := hyb
        have hor : bits .or .i64 (d * 256) y = d * 256 + y := or8s d y hd0 (by omega) hy0 (by omega)
        have hkmi : (k : Int) < (m : Int) := by omega
        have hck1 : w.cell? ⟨b, off + (q + 1) + k, none⟩ = some (.int .u8 y) := by rw [Nat.add_assoc]; exact hck
        go_wp2
        go_round
        case rel => exact ⟨k + 1, by omega, by go_num, by rw [HN.out]⟩
        case measure => simp [intOf]; omega
      · obtain rfl : k = m := by omega
        have hcmp := lnN_iff bs (q + 1) k HR.out.byte hm1 hm4 (by omega)
        obtain ⟨d, hd⟩ : ∃ d, d = digR bs (q + 1) k := ⟨_, rfl⟩
        rw [← hd] at hd0 hd1 hcmp HL3 ⊢
        clear hd
        have ed : ((d.toNat : Nat) : Int) = d := Int.toNat_of_nonneg hd0
        have hv : (q : Int) + 1 + (k : Int) - (q : Int) = (k : Int) + 1 := by omega
        cases lax with
        | true =>
          have hf : Hid (lenR true cons bs q e = .ok (some d.toNat) (q + 1 + k)) := by show _ = _; rw [HL3.out, if_neg (by simp)]
          go_wp2
          go_ret3
          refine ⟨?_, hbl⟩
          rw [hf.out]
          show _ = Ending.returned (lenV _ _)
          unfold lenV
          simp only [Option.getD_some, ed]
          rfl
        | false =>
          have HBL : Hid (Below w.heap.size w (w.alloc (.cells #[.slice (some ⟨b, off, none⟩) n cap, .bool false] 93))) := hbl
          have HLB := lengthBytes_len d (w.alloc (.cells #[.slice (some ⟨b, off, none⟩) n cap, .bool false] 93)) hd0 hd1
          by_cases hbad : bs.getD (q + 1) 0 = 0 ∨ d < 128
          · have hf : Hid (lenR false cons bs q e = .no 3 q) := by show _ = _; rw [HL3.out, if_pos ⟨rfl, hbad⟩]
            have hlt : ((lnN d : Nat) : Int) < (k : Int) + 1 := by have := hcmp.2 hbad; omega
            clear hcmp hbad
            go_wp2_with (first | (go_at_call 74; refine HLB.mono ?_; rintro ev w1 ⟨a1, c1, rfl, hb1⟩; have hb2 := HBL.out.trans (hb1.mono (by simp))) | (go_at_call 63; refine (giveUp_any 3 q _).mono ?_; rintro e w2 ⟨rfl, rfl⟩))
            exact ⟨rfl, Tells2.no hf _, hb2⟩
          · have hf : Hid (lenR false cons bs q e = .ok (some d.toNat) (q + 1 + k)) := by show _ = _; rw [HL3.out, if_neg (by intro h; exact hbad h.2)]
            have hlt : ¬ ((lnN d : Nat) : Int) < (k : Int) + 1 := by intro h; exact hbad (hcmp.1 (by omega))
            clear hcmp hbad
            go_wp2_with (first | (go_at_call 74; refine HLB.mono ?_; rintro ev w1 ⟨a1, c1, rfl, hb1⟩; have hb2 := HBL.out.trans (hb1.mono (by simp))))
            go_ret3
            refine ⟨?_, hb2⟩
            rw [hf.out]
            show _ = Ending.returned (lenV _ _)
            unfold lenV
            simp only [Option.getD_some, ed]
            rfl

end Go.Proofs.YtjkkokjojaknkaaDoor
