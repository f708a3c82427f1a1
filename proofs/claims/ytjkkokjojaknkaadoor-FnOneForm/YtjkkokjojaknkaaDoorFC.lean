import Derived.Test.YtjkkokjojaknkaaDoorFA
import Derived.Test.YtjkkokjojaknkaaDoorBase
import Derived.Deep.RegionLaw
import Derived.Laws.AppendOwnNone
import Derived.Laws.CopyOwn
namespace Go.Proofs.YtjkkokjojaknkaaDoor
open Go.RowKit

def mix (x : Int) : Int := IntKind.u64.wrap (IntKind.u64.wrap (x * 6364136223846793005) + 1442695040888963407)
def stir (h b : Int) : Int := bits .xor .u64 (mix (bits .xor .u64 h b)) (mix (bits .xor .u64 h b) / 536870912)

set_option maxRecDepth 10000 in
set_option maxHeartbeats 400000 in
theorem specStir_any (h b : Int) (w : World) (hb : 0 ≤ b) (hb' : b ≤ 255) :
    Calls Tryd.prog 61 #[.int .u64 h, .int .u8 b] w fun e w' => e = .returned (.int .u64 (stir h b)) ∧ w' = w := by
  go_enter Tryd.func61, Tryd.ntmps61
  go_wp2
  go_ret
  exact ⟨rfl, rfl⟩

set_option maxRecDepth 10000 in
set_option maxHeartbeats 400000 in
theorem implStir_any (h b : Int) (w : World) (hb : 0 ≤ b) (hb' : b ≤ 255) :
    Calls Tryd.prog 59 #[.int .u64 h, .int .u8 b] w fun e w' => e = .returned (.int .u64 (stir h b)) ∧ w' = w := by
  go_enter Tryd.func59, Tryd.ntmps59
  go_wp2
  go_ret
  exact ⟨rfl, rfl⟩

/-- The eight bytes of a number, the highest first. -/
def eight (n : Nat) : List Int := [(n : Int) / 72057594037927936 % 256, (n : Int) / 281474976710656 % 256, (n : Int) / 1099511627776 % 256, (n : Int) / 4294967296 % 256, (n : Int) / 16777216 % 256, (n : Int) / 65536 % 256, (n : Int) / 256 % 256, (n : Int) % 256]

theorem eight_byte (n : Nat) : ∀ k, 0 ≤ (eight n).getD k 0 ∧ (eight n).getD k 0 ≤ 255 := by
  intro k
  match k with
  | 0 | 1 | 2 | 3 | 4 | 5 | 6 | 7 => simp [eight]; omega
  | k + 8 => simp [eight]

theorem eight_mem (n : Nat) : ∀ x ∈ eight n, 0 ≤ x ∧ x ≤ 255 := by
  intro x hx
  simp only [eight, List.mem_cons, List.not_mem_nil, or_false] at hx
  omega

theorem eight_div (n : Nat) (h : (n : Int) ≤ 18446744073709551615) : [(n : Int) / 256 / 256 / 256 / 256 / 256 / 256 / 256, (n : Int) / 256 / 256 / 256 / 256 / 256 / 256 % 256, (n : Int) / 256 / 256 / 256 / 256 / 256 % 256, (n : Int) / 256 / 256 / 256 / 256 % 256, (n : Int) / 256 / 256 / 256 % 256, (n : Int) / 256 / 256 % 256, (n : Int) / 256 % 256, (n : Int) % 256] = eight n := by
  simp only [eight, List.cons.injEq]
  refine ⟨by omega, by omega, by omega, by omega, by omega, by omega, trivial⟩

set_option maxRecDepth 10000 in
set_option maxHeartbeats 400000 in
theorem eight_any (n : Nat) (w : World) (hn : (n : Int) ≤ 18446744073709551615) :
    Calls Tryd.prog 60 #[.int .u64 n] w fun e w' => ∃ x0 x1 x2 x3 x4 x5 x6 x7 : Int, e = .returned (.agg #[.int .u8 x0, .int .u8 x1, .int .u8 x2, .int .u8 x3, .int .u8 x4, .int .u8 x5, .int .u8 x6, .int .u8 x7]) ∧ [x0, x1, x2, x3, x4, x5, x6, x7] = eight n ∧ Below w.heap.size w w' := by
  have hd := eight_div n hn
  have HD : Hid (_ = eight n) := hd
  clear hd
  go_enter Tryd.func60, Tryd.ntmps60
  go_wp2
  refine wp_loop_rounds 9 ?_
  iterate 9 (rw [rounds_succ]; go_wp2)
  refine bodyPost_ret (v := .agg #[.int .u8 ((n : Int) / 256 / 256 / 256 / 256 / 256 / 256 / 256), .int .u8 ((n : Int) / 256 / 256 / 256 / 256 / 256 / 256 % 256), .int .u8 ((n : Int) / 256 / 256 / 256 / 256 / 256 % 256), .int .u8 ((n : Int) / 256 / 256 / 256 / 256 % 256), .int .u8 ((n : Int) / 256 / 256 / 256 % 256), .int .u8 ((n : Int) / 256 / 256 % 256), .int .u8 ((n : Int) / 256 % 256), .int .u8 ((n : Int) % 256)]) (by simp [results, Tryd.results60, go_sem]) rfl ?_
  exact ⟨_, _, _, _, _, _, _, _, rfl, HD.out, ((Below.refl _ _).alloc (Nat.le_refl _) _).alloc (by simp) _⟩

def start : Int := 7809847782465536322
def stirs (h : Int) (l : List Int) : Int := l.foldl stir h
def hashL (bs : List Int) : Int := stirs (stirs start bs) (eight bs.length)

theorem stirs_next (h : Int) (bs : List Int) (k : Nat) (hk : k < bs.length) : stirs h (bs.take (k + 1)) = stir (stirs h (bs.take k)) (bs.getD k 0) := by
  unfold stirs
  rw [List.take_succ_eq_append_getElem hk, List.foldl_append]
  simp [hk]

set_option maxRecDepth 10000 in
set_option maxHeartbeats 1000000 in
theorem specHash_any (a : Option Addr) (n cap : Nat) (bs : List Int) (w : World) (h : Row w a n bs) (hn : n ≤ 1000000000000) :
    Calls Tryd.prog 39 #[.slice a n cap] w fun e w' => e = .returned (.int .u64 (hashL bs)) ∧ w' = w := by
  have H0 : Hid (Row w a n bs) := h
  have hby := h.byte
  have HL : Hid (bs.length = n) := h.len
  clear h
  go_enter Tryd.func39, Tryd.ntmps39
  go_wp2
  go_loop [3, 4] (fun t i => ∃ k : Nat, ∃ hh : Int, k ≤ n ∧ i = .int .i64 k ∧ t = .int .u64 hh ∧ Hid (hh = stirs start (bs.take k))) (fun _ i => n - (intOf i).toNat)
  case atStart => exact ⟨0, _, Nat.zero_le _, rfl, rfl, rfl⟩
  case round =>
    obtain ⟨k, hh, hk, rfl, rfl, HH⟩ := hrel
    by_cases hlt : k < n
    · obtain ⟨b, off, rfl, hb, hc⟩ := H0.out.get k hlt
      obtain ⟨x, hx⟩ : ∃ x, x = bs.getD k 0 := ⟨_, rfl⟩
      have hxb := hby k
      rw [← hx] at hc hxb
      obtain ⟨hx0, hx1⟩ := hxb
      have HX : Hid (x = bs.getD k 0) := hx
      clear hx
      go_wp2_with (go_at_call 61; refine (specStir_any _ _ _ hx0 hx1).mono ?_; rintro e w' ⟨rfl, rfl⟩)
      go_round
      case rel => exact ⟨k + 1, _, by omega, by go_num, rfl, by show _ = _; rw [stirs_next start bs k (by have := HL.out; omega), ← HH.out, ← HX.out]⟩
      case measure => simp [intOf]; omega
    · have hkn : k = n := by omega
      subst hkn
      have HH2 : Hid (hh = stirs start bs) := by have := HH.out; rw [List.take_of_length_le (by have := HL.out; omega)] at this; exact this
      clear HH
      have h8 : [(k : Int) / 72057594037927936, (k : Int) / 281474976710656, (k : Int) / 1099511627776, (k : Int) / 4294967296, (k : Int) / 16777216 % 256, (k : Int) / 65536 % 256, (k : Int) / 256 % 256, (k : Int) % 256] = eight k := by
        simp only [eight, List.cons.injEq]
        refine ⟨by omega, by omega, by omega, by omega, trivial⟩
      have HE : Hid (_ = eight k) := h8
      clear h8
      go_wp2
      refine wp_loop_rounds 9 ?_
      iterate 9 (rw [rounds_succ]; go_wp2_with (go_at_call 61; refine (specStir_any _ _ _ (by omega) (by omega)).mono ?_; rintro e w' ⟨rfl, rfl⟩))
      go_ret
      refine ⟨?_, rfl⟩
      unfold hashL
      rw [HL.out, ← HE.out, ← HH2.out]
      rfl

theorem index8 (x0 x1 x2 x3 x4 x5 x6 x7 : Value) (w : World) :
    (Instr.index 86 (.agg #[x0, x1, x2, x3, x4, x5, x6, x7]) (.int .i64 0)).run Tryd.prog w = .ok x0 w ∧ (Instr.index 86 (.agg #[x0, x1, x2, x3, x4, x5, x6, x7]) (.int .i64 1)).run Tryd.prog w = .ok x1 w ∧
    (Instr.index 86 (.agg #[x0, x1, x2, x3, x4, x5, x6, x7]) (.int .i64 2)).run Tryd.prog w = .ok x2 w ∧ (Instr.index 86 (.agg #[x0, x1, x2, x3, x4, x5, x6, x7]) (.int .i64 3)).run Tryd.prog w = .ok x3 w ∧
    (Instr.index 86 (.agg #[x0, x1, x2, x3, x4, x5, x6, x7]) (.int .i64 4)).run Tryd.prog w = .ok x4 w ∧ (Instr.index 86 (.agg #[x0, x1, x2, x3, x4, x5, x6, x7]) (.int .i64 5)).run Tryd.prog w = .ok x5 w ∧
    (Instr.index 86 (.agg #[x0, x1, x2, x3, x4, x5, x6, x7]) (.int .i64 6)).run Tryd.prog w = .ok x6 w ∧ (Instr.index 86 (.agg #[x0, x1, x2, x3, x4, x5, x6, x7]) (.int .i64 7)).run Tryd.prog w = .ok x7 w := by
  refine ⟨?_, ?_, ?_, ?_, ?_, ?_, ?_, ?_⟩ <;> kernel_rfl

set_option maxRecDepth 10000 in
set_option maxHeartbeats 1000000 in
theorem implHash_any (a : Option Addr) (n cap : Nat) (bs : List Int) (w : World) (h : Row w a n bs) (hn : n ≤ 1000000000000) :
    Calls Tryd.prog 38 #[.slice a n cap] w fun e w' => e = .returned (.int .u64 (hashL bs)) ∧ Below w.heap.size w w' := by
  have H0 : Hid (Row w a n bs) := h
  have hby := h.byte
  have HL : Hid (bs.length = n) := h.len
  clear h
  go_enter Tryd.func38, Tryd.ntmps38
  go_wp2
  go_loop [3, 10] (fun t i => ∃ k : Nat, ∃ hh : Int, k ≤ n ∧ i = .int .i64 k ∧ t = .int .u64 hh ∧ Hid (hh = stirs start (bs.take k))) (fun _ i => n - (intOf i).toNat)
  case atStart => exact ⟨0, _, Nat.zero_le _, rfl, rfl, rfl⟩
  case round =>
    obtain ⟨k, hh, hk, rfl, rfl, HH⟩ := hrel
    by_cases hlt : k < n
    · obtain ⟨b, off, rfl, hb, hc⟩ := H0.out.get k hlt
      obtain ⟨x, hx⟩ : ∃ x, x = bs.getD k 0 := ⟨_, rfl⟩
      have hxb := hby k
      rw [← hx] at hc hxb
      obtain ⟨hx0, hx1⟩ := hxb
      have HX : Hid (x = bs.getD k 0) := hx
      clear hx
      go_wp2_with (go_at_call 59; refine (implStir_any _ _ _ hx0 hx1).mono ?_; rintro e w' ⟨rfl, rfl⟩)
      go_round
      case rel => exact ⟨k + 1, _, by omega, by go_num, rfl, by show _ = _; rw [stirs_next start bs k (by have := HL.out; omega), ← HH.out, ← HX.out]⟩
      case measure => simp [intOf]; omega
    · have hkn : k = n := by omega
      subst hkn
      have HH2 : Hid (hh = stirs start bs) := by have := HH.out; rw [List.take_of_length_le (by have := HL.out; omega)] at this; exact this
      clear HH
      go_wp2_with fail
      refine (eight_any k _ (by omega)).mono ?_
      rintro e w1 ⟨x0, x1, x2, x3, x4, x5, x6, x7, rfl, h8, hb1⟩
      have hm := eight_mem k
      rw [← h8] at hm
      simp only [List.forall_mem_cons, List.not_mem_nil, false_implies, implies_true, and_true] at hm
      obtain ⟨⟨l0, u0⟩, ⟨l1, u1⟩, ⟨l2, u2⟩, ⟨l3, u3⟩, ⟨l4, u4⟩, ⟨l5, u5⟩, ⟨l6, u6⟩, ⟨l7, u7⟩⟩ := hm
      have HE : Hid (_ = eight k) := h8
      clear h8
      obtain ⟨i0, i1, i2, i3, i4, i5, i6, i7⟩ := index8 (.int .u8 x0) (.int .u8 x1) (.int .u8 x2) (.int .u8 x3) (.int .u8 x4) (.int .u8 x5) (.int .u8 x6) (.int .u8 x7) w1
      go_wp2
      refine wp_loop_rounds 9 ?_
      iterate 9 (rw [rounds_succ]; go_wp2_with (go_at_call 59; refine (implStir_any _ _ _ (by omega) (by omega)).mono ?_; rintro e w' ⟨rfl, rfl⟩))
      go_ret
      refine ⟨?_, hb1⟩
      unfold hashL
      rw [HL.out, ← HE.out, ← HH2.out]
      rfl

end Go.Proofs.YtjkkokjojaknkaaDoor

namespace Go.Proofs.YtjkkokjojaknkaaDoor
open Go.RowKit

theorem row_cells {w : World} {ad : Addr} {m : Nat} {ys : List Int} (h : Row w (some ad) m ys) : ∀ j u, (ys.map (Value.int .u8))[j]? = some u → w.cell? (ad.add j) = some u := by
  intro j u hj
  have hjl : j < ys.length := by
    have := (List.getElem?_eq_some_iff.1 hj).1
    simpa using this
  obtain ⟨b, off, ha, _, hc⟩ := h.get j (by rw [← h.len]; exact hjl)
  simp only [Option.some.injEq] at ha
  subst ha
  rw [Addr.add_lit, hc]
  simp [hjl] at hj
  simp [hjl, hj]

theorem row_none {w : World} {m : Nat} {ys : List Int} (h : Row w none m ys) : m = 0 ∧ ys = [] := by
  rcases Nat.eq_zero_or_pos m with h0 | h0
  · exact ⟨h0, List.eq_nil_of_length_eq_zero (by rw [h.len]; exact h0)⟩
  · obtain ⟨b, off, ha, _⟩ := h.get 0 h0
    simp at ha

/-- append(out, ys...): out our own, ys whatever is read, nil too. -/
theorem wpList_append_row {P : Program} (w : World) {ops : Array Oper} {rest : List Oper} {o : Oper} {a : Act} {Q : Exit → Act → World → Prop}
    (hg : o.guard = none) (s x : Operand) (t : TypeId) (hop : o.op = Op.call { callee := Callee.builtin Builtin.append, args := #[s, x], argTypes := #[t, t] })
    (base : Nat) (i : TypeInfo) (h1 : P.underlying t = some (.slice 5)) (h2 : P.info? 5 = some i) (h3 : i.zero = some (.int .u8 0)) (h4 : i.size = 1) (h5 : i.bytes = 1)
    (v : Value) (n : Nat) (xs : List Value) (hs : a.eval s = v) (hown : w.ownsRow base 5 1 v n xs)
    (ao : Option Addr) (m c : Nat) (ys : List Int) (hx : a.eval x = .slice ao m c) (hrow : Row w ao m ys) (hnil : ao = none → c = 0)
    (b1 : n + m ≤ 140737488355328) (b3 : base ≤ w.heap.size)
    (hK : ∀ v' w', w'.ownsRow base 5 1 v' (n + m) (xs ++ ys.map (Value.int .u8)) → w.grownBy w' v.ownBlock → wpList P ops Q rest (a.put o.dst v') w') :
    wpList P ops Q (o :: rest) a w := by
  cases ao with
  | some ad =>
    refine wpList_append_own w hg s x t hop base 5 i (.int .u8 0) 1 1 h1 h2 h3 h4 h5 rfl (by decide) v n xs hs hown ad m c (ys.map (Value.int .u8)) hx (by rw [List.length_map, hrow.len, Nat.mul_one]) (row_cells hrow) (ints_oneCell _ _) (by unfold maxLen; omega) (by omega) b3 ?_
    intro v' w' r1 r2 _
    exact hK v' w' r1 r2
  | none =>
    obtain ⟨rfl, rfl⟩ := row_none hrow
    obtain rfl := hnil rfl
    refine wpList_append_own_none hg s x t hop base 5 i 1 h1 h2 v n xs hs hown hx ?_
    exact hK v w (by simpa using hown) (World.grownBy.refl _ _)

end Go.Proofs.YtjkkokjojaknkaaDoor
