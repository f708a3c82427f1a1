import Derived.Test.YtmmdklaajejeiaaW2
import Derived.Deep.RegionLaw
import Derived.Laws.BytesArg
namespace Go.Proofs.Ytmmdklaajejeiaa
open Go.RowKit

theorem step_append_own {P : Program} {ops : Array Oper} {o : Oper} {a : Act} {w : World} {K : Act → World → Prop} {Q : Exit → Act → World → Prop} {E : Prop}
    (hg : o.guard = none) (s x : Operand) (t : TypeId) (hop : o.op = Op.call { callee := Callee.builtin Builtin.append, args := #[s, x], argTypes := #[t, t] })
    (base : Nat) (e : TypeId) (i : TypeInfo) (z : Value) (size bytes : Nat) (h1 : P.underlying t = some (.slice e)) (h2 : P.info? e = some i) (h3 : i.zero = some z) (h4 : i.size = size) (h5 : i.bytes = bytes) (h6 : z.cells.size = size) (h7 : 0 < size)
    (v : Value) (n : Nat) (xs : List Value) (hs : a.eval s = v) (hown : w.ownsRow base e size v n xs)
    (ad : Addr) (m c : Nat) (news : List Value) (hx : a.eval x = .slice (some ad) m c) (hn : news.length = m * size) (hc : ∀ j u, news[j]? = some u → w.cell? (ad.add j) = some u) (h1c : ∀ u ∈ news, u.oneCell' = true)
    (b1 : n + m ≤ maxLen) (b2 : (n + m) * bytes ≤ 140737488355328) (b3 : base ≤ w.heap.size)
    (hK : ∀ v' w', w'.ownsRow base e size v' (n + m) (xs ++ news) → w.grownBy w' v.ownBlock → K (a.put o.dst v') w') :
    if Region.wanted o (yielded ops a.tmps) = true then Oper.wp P o a w K Q else E := by
  have hw : Region.wanted o (yielded ops a.tmps) = true := by simp [Region.wanted, hg]
  rw [if_pos hw]
  obtain ⟨v', w', hrun, r1, r2, _⟩ := run_append_own (P := P) w base t o.type e i z size bytes h1 h2 h3 h4 h5 h6 h7 v n xs hown ad m c news hn hc h1c b1 b2 b3
  unfold Oper.wp
  simp [execOp, hop, resolve, invoke, builtin, hs, hx, hrun, Result.andThen]
  exact hK v' w' r1 r2

/-- The digit of a number below 16. -/
def hexD (q : Int) : Int := if q < 10 then q + 48 else q + 87
theorem hexD_byte (q : Int) (h0 : 0 ≤ q) (h1 : q ≤ 15) : 0 ≤ hexD q ∧ hexD q ≤ 255 := by unfold hexD; split <;> omega

theorem index_digit (q : Int) (h0 : 0 ≤ q) (h1 : q ≤ 15) (w : World) :
    (Instr.index 9 (.string ⟨#[48, 49, 50, 51, 52, 53, 54, 55, 56, 57, 97, 98, 99, 100, 101, 102]⟩) (.int .u8 q)).run Try.prog w = .ok (.int .u8 (hexD q)) w := by
  obtain ⟨k, rfl⟩ := Int.eq_ofNat_of_zero_le h0
  have hk : k < 16 := by omega
  have hc : k = 0 ∨ k = 1 ∨ k = 2 ∨ k = 3 ∨ k = 4 ∨ k = 5 ∨ k = 6 ∨ k = 7 ∨ k = 8 ∨ k = 9 ∨ k = 10 ∨ k = 11 ∨ k = 12 ∨ k = 13 ∨ k = 14 ∨ k = 15 := by omega
  clear hk h0 h1
  rcases hc with rfl | rfl | rfl | rfl | rfl | rfl | rfl | rfl | rfl | rfl | rfl | rfl | rfl | rfl | rfl | rfl
  all_goals (change _ = _; kernel_rfl)

/-- Two digits each. -/
def hexT : List Int → List Int
  | [] => []
  | x :: r => hexD (x / 16) :: hexD (x % 16) :: hexT r
theorem hexT_len (bs : List Int) : (hexT bs).length = 2 * bs.length := by
  induction bs with
  | nil => rfl
  | cons x r ih => simp [hexT, ih]; omega
theorem hexT_append (a b : List Int) : hexT (a ++ b) = hexT a ++ hexT b := by
  induction a with
  | nil => rfl
  | cons x r ih => simp [hexT, ih]
theorem hexT_next (bs : List Int) (k : Nat) (h : k < bs.length) : hexT (bs.take (k + 1)) = hexT (bs.take k) ++ [hexD (bs.getD k 0 / 16), hexD (bs.getD k 0 % 16)] := by
  rw [List.take_succ_eq_append_getElem h, hexT_append]
  simp [hexT, h]

theorem convert_own {B : Nat} {w : World} {a : Option Addr} {n cap : Nat} {bs : List Int} (h : Own B w a n cap bs) : (convert 22 9 (.slice a n cap)).run Try.prog w = .ok (.string (strOfNums bs)) w := by
  have hr := h.toRow
  rcases h.row.2 with ⟨hv, h0⟩ | ⟨g, cap', cur, hv, _⟩
  · simp only [Value.slice.injEq] at hv
    obtain ⟨rfl, _, rfl⟩ := hv
    have hb : bs = [] := List.eq_nil_of_length_eq_zero (by rw [hr.len]; exact h0)
    subst hb
    exact run_convert_bytes_nil w 22 5 Try.underlying22 Try.underlying5 _ _ 9 Try.underlying9
  · simp only [Value.slice.injEq] at hv
    obtain ⟨rfl, _, rfl⟩ := hv
    refine run_convert_bytes_arg w 22 5 Try.underlying22 Try.underlying5 g 0 n cap bs hr.len (fun i hi => ?_) 9 Try.underlying9
    obtain ⟨b, off, ha, _, hc⟩ := hr.get i hi
    simp at ha
    obtain ⟨rfl, rfl⟩ := ha
    exact hc

set_option maxHeartbeats 1000000 in
theorem specHexText_any (a : Option Addr) (n cap : Nat) (bs : List Int) (w : World) (h : Row w a n bs) (hn : n ≤ 1048576) :
    Calls Try.prog 27 #[.slice a n cap] w fun e w' => e = .returned (.string (strOfNums (hexT bs))) ∧ Below w.heap.size w w' := by
  obtain ⟨i0, hi, hz0, hz1, hz2⟩ := info_parts Try.info5
  have H0 : Hid (Row w a n bs) := h
  have hby := h.byte
  have HL : Hid (bs.length = n) := h.len
  clear h
  have hoe : Own w.heap.size (w.alloc (.cells #[] 5)) (some ⟨w.heap.size, 0, none⟩) 0 0 [] := ⟨World.ownsRow_lit w #[] 0 (Nat.le_refl _) (Nat.zero_le _) rfl, by simp⟩
  have hbe : Below w.heap.size w (w.alloc (.cells #[] 5)) := (Below.refl _ _).alloc (Nat.le_refl _) _
  go_enter Try.func27, Try.ntmps27
  go_wp2
  go_loopw [4, 5] (fun o i wr => ∃ (k len cp : Nat) (ao : Option Addr), k ≤ n ∧ len = 2 * k ∧ i = .int .i64 k ∧ o = .slice ao len cp ∧ Own w.heap.size wr ao len cp (hexT (bs.take k)) ∧ Below w.heap.size w wr) (fun _ i _ => n - (intOf i).toNat)
  case atStart => exact ⟨0, 0, 0, _, Nat.zero_le _, rfl, rfl, rfl, hoe, hbe⟩
  case round =>
    obtain ⟨k, len, cp, ao, hk, hlen, rfl, rfl, hor, hbr⟩ := hrel
    have HLen : Hid (len = 2 * k) := hlen
    have hle : len ≤ 2 * n := by omega
    clear hlen
    have hws : w.heap.size ≤ wr.heap.size := hbr.size
    by_cases hlt : k < n
    · obtain ⟨b, off, rfl, hb, hc⟩ := H0.out.get k hlt
      have hcr : wr.cell? ⟨b, off + k, none⟩ = some (.int .u8 (bs.getD k 0)) := (hbr.cell (p := ⟨b, off + k, none⟩) hb).trans hc
      clear hc
      obtain ⟨x, hx⟩ : ∃ x, x = bs.getD k 0 := ⟨_, rfl⟩
      have hxb := hby k
      rw [← hx] at hcr hxb
      obtain ⟨hx0, hx1⟩ := hxb
      have HX : Hid (x = bs.getD k 0) := hx
      clear hx
      have hand : bits .and .u8 x 15 = x % 16 := u8_and15 x hx0 (by omega)
      have ix1 := index_digit (x / 16) (by omega) (by omega)
      have ix2 := index_digit (x % 16) (by omega) (by omega)
      have hlti : (k : Int) < (n : Int) := by omega
      go_wp2
      go_region_law ((refine step_append_own rfl _ _ 22 rfl w.heap.size 5 i0 (.int .u8 0) 1 1 Try.underlying22 hi hz0 hz1 hz2 rfl (by decide) _ _ _ rfl (by exact hor.row.alloc _) ⟨wr.heap.size, 0, none⟩ 2 2 [.int .u8 (hexD (x / 16)), .int .u8 (hexD (x % 16))] rfl rfl (by exact cell_two_new _ _ _ _) (by intro u hu; simp only [List.mem_cons, List.not_mem_nil, or_false] at hu; rcases hu with rfl | rfl <;> rfl) (by unfold maxLen; omega) (by omega) (by simp; omega) ?_); intro v' w1 hown' hgrow')
      all_goals
        have hb1 : Below w.heap.size w w1 := below_appended (hbr.alloc hws _).drew (by simp; omega) (hor.row.alloc _).drew hgrow'
        obtain ⟨a', cap', hv', ho'⟩ := own_appended (ys := [hexD (x / 16), hexD (x % 16)]) hown' hor.byte (append_byte (xs := [_]) (snoc_byte (xs := []) (by simp) _ (hexD_byte _ (by omega) (by omega))) (snoc_byte (xs := []) (by simp) _ (hexD_byte _ (by omega) (by omega))))
        subst hv'
        rw [HX.out, ← hexT_next bs k (by have := HL.out; omega)] at ho'
        clear hown' hgrow'
        go_wp2
        go_roundw
        case rel => exact ⟨k + 1, len + 2, cap', a', by omega, by have := HLen.out; omega, by go_num, rfl, ho', hb1⟩
        case measure => simp [intOf]; omega
    · have hkn : k = n := by omega
      subst hkn
      rw [List.take_of_length_le (by have := HL.out; omega)] at hor
      have hcv := convert_own hor
      go_wp2
      go_ret
      exact ⟨rfl, hbr⟩

set_option maxHeartbeats 1000000 in
theorem implHexText_any (a : Option Addr) (n cap : Nat) (bs : List Int) (w : World) (h : Row w a n bs) (hn : n ≤ 1048576) :
    Calls Try.prog 13 #[.slice a n cap] w fun e w' => e = .returned (.string (strOfNums (hexT bs))) ∧ Below w.heap.size w w' := by
  obtain ⟨i0, hi, hz0, hz1, hz2⟩ := info_parts Try.info5
  have H0 : Hid (Row w a n bs) := h
  have hby := h.byte
  have HL : Hid (bs.length = n) := h.len
  clear h
  go_enter Try.func13, Try.ntmps13
  go_wp2_with (at_make; refine wpList_make_own _ rfl _ _ 22 rfl w.heap.size 5 i0 (.int .u8 0) 1 Try.underlying22 hi hz0 hz1 _ _ _ (2 * n) rfl rfl (by omega) (by rw [hz2]; omega) (by unfold maxLen; omega) (by exact Nat.le_refl _) ?_; intro w1 hown hgrow)
  have hoe : Own w.heap.size w1 (some ⟨w.heap.size, 0, none⟩) 0 (2 * n) [] := ⟨hown, by simp⟩
  have hbe : Below w.heap.size w w1 := (Below.refl _ _).grown hgrow (Nat.le_refl _) (by simp)
  clear hown hgrow
  go_loopw [3, 12] (fun o i wr => ∃ (k len cp : Nat) (ao : Option Addr), k ≤ n ∧ len = 2 * k ∧ i = .int .i64 k ∧ o = .slice ao len cp ∧ Own w.heap.size wr ao len cp (hexT (bs.take k)) ∧ Below w.heap.size w wr) (fun _ i _ => n - (intOf i).toNat)
  case atStart => exact ⟨0, 0, _, _, Nat.zero_le _, rfl, rfl, rfl, hoe, hbe⟩
  case round =>
    obtain ⟨k, len, cp, ao, hk, hlen, rfl, rfl, hor, hbr⟩ := hrel
    have HLen : Hid (len = 2 * k) := hlen
    have hle : len ≤ 2 * n := by omega
    clear hlen
    have hws : w.heap.size ≤ wr.heap.size := hbr.size
    by_cases hlt : k < n
    · obtain ⟨b, off, rfl, hb, hc⟩ := H0.out.get k hlt
      have hcr : wr.cell? ⟨b, off + k, none⟩ = some (.int .u8 (bs.getD k 0)) := (hbr.cell (p := ⟨b, off + k, none⟩) hb).trans hc
      clear hc
      obtain ⟨x, hx⟩ : ∃ x, x = bs.getD k 0 := ⟨_, rfl⟩
      have hxb := hby k
      rw [← hx] at hcr hxb
      obtain ⟨hx0, hx1⟩ := hxb
      have HX : Hid (x = bs.getD k 0) := hx
      clear hx
      have hand : bits .and .u8 x 15 = x % 16 := u8_and15 x hx0 (by omega)
      have ix1 := index_digit (x / 16) (by omega) (by omega)
      have ix2 := index_digit (x % 16) (by omega) (by omega)
      have hlti : (k : Int) < (n : Int) := by omega
      go_wp2
      go_region_law ((refine step_append_own rfl _ _ 22 rfl w.heap.size 5 i0 (.int .u8 0) 1 1 Try.underlying22 hi hz0 hz1 hz2 rfl (by decide) _ _ _ rfl (by exact hor.row.alloc _) ⟨wr.heap.size, 0, none⟩ 2 2 [.int .u8 (hexD (x / 16)), .int .u8 (hexD (x % 16))] rfl rfl (by exact cell_two_new _ _ _ _) (by intro u hu; simp only [List.mem_cons, List.not_mem_nil, or_false] at hu; rcases hu with rfl | rfl <;> rfl) (by unfold maxLen; omega) (by omega) (by simp; omega) ?_); intro v' w1 hown' hgrow')
      all_goals
        have hb1 : Below w.heap.size w w1 := below_appended (hbr.alloc hws _).drew (by simp; omega) (hor.row.alloc _).drew hgrow'
        obtain ⟨a', cap', hv', ho'⟩ := own_appended (ys := [hexD (x / 16), hexD (x % 16)]) hown' hor.byte (append_byte (xs := [_]) (snoc_byte (xs := []) (by simp) _ (hexD_byte _ (by omega) (by omega))) (snoc_byte (xs := []) (by simp) _ (hexD_byte _ (by omega) (by omega))))
        subst hv'
        rw [HX.out, ← hexT_next bs k (by have := HL.out; omega)] at ho'
        clear hown' hgrow'
        go_wp2
        go_roundw
        case rel => exact ⟨k + 1, len + 2, cap', a', by omega, by have := HLen.out; omega, by go_num, rfl, ho', hb1⟩
        case measure => simp [intOf]; omega
    · have hkn : k = n := by omega
      subst hkn
      rw [List.take_of_length_le (by have := HL.out; omega)] at hor
      have hcv := convert_own hor
      go_wp2
      go_ret
      exact ⟨rfl, hbr⟩

end Go.Proofs.Ytmmdklaajejeiaa
