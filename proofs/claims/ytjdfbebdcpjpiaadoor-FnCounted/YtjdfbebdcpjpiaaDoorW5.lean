import Derived.Test.YtjdfbebdcpjpiaaDoorW2
namespace Go.Proofs.YtjdfbebdcpjpiaaDoor
open Go.RowKit

theorem wraps_i64 (n : Int) (h₀ : 0 ≤ n) (h₁ : n < 2 ^ 63) : IntKind.i64.wrap n = n := by rw [IntKind.wrap_i64]; omega
theorem or7 (m x : Int) (hm : 0 ≤ m) (hm' : m < 72057594037927936) (hx : 0 ≤ x) (hx' : x < 128) : bits .or .i64 (m * 128) x = m * 128 + x :=
  bits_join .i64 63 (by decide) wraps_i64 7 (m * 128) x (by omega) (by omega) (by omega) hx hx' (by omega)
theorem and7 (x : Int) (hx : 0 ≤ x) (hx' : x ≤ 255) : bits .and .u8 x 127 = x % 128 := bits_mask .u8 8 (by decide) wraps_u8 7 (by decide) x hx (by omega)

/-- The number in groups that begins the row, with m read ahead of it, at the place p. -/
def getL : List Int → Int → Int → Int × Int × Int
  | [], _, _ => (0, 0, 1)
  | x :: r, m, p => if 72057594037927936 ≤ m then (0, 0, 2) else if x < 128 then (m * 128 + x % 128, p + 1, 0) else getL r (m * 128 + x % 128) (p + 1)
def getN (bs : List Int) (p : Int) : Int × Int × Int :=
  if p < 0 ∨ (bs.length : Int) < p then (0, 0, 3) else if (bs.getD p.toNat 0) = 128 then (0, 0, 2) else getL (bs.drop p.toNat) 0 p

theorem drop_cons {bs : List Int} {k : Nat} (h : k < bs.length) : bs.drop k = bs.getD k 0 :: bs.drop (k + 1) := by
  rw [List.drop_eq_getElem_cons h]; simp [h]
theorem getL_big {bs : List Int} {k : Nat} (h : k < bs.length) {m p : Int} (hm : 72057594037927936 ≤ m) : getL (bs.drop k) m p = (0, 0, 2) := by
  rw [drop_cons h, getL, if_pos hm]
theorem getL_last {bs : List Int} {k : Nat} (h : k < bs.length) {m p : Int} (hm : ¬ 72057594037927936 ≤ m) (hx : bs.getD k 0 < 128) : getL (bs.drop k) m p = (m * 128 + bs.getD k 0 % 128, p + 1, 0) := by
  rw [drop_cons h, getL, if_neg hm, if_pos hx]
theorem getL_next {bs : List Int} {k : Nat} (h : k < bs.length) {m p : Int} (hm : ¬ 72057594037927936 ≤ m) (hx : ¬ bs.getD k 0 < 128) : getL (bs.drop k) m p = getL (bs.drop (k + 1)) (m * 128 + bs.getD k 0 % 128) (p + 1) := by
  rw [drop_cons h, getL, if_neg hm, if_neg hx]
theorem getL_end {bs : List Int} {k : Nat} (h : bs.length ≤ k) {m p : Int} : getL (bs.drop k) m p = (0, 0, 1) := by
  rw [List.drop_eq_nil_of_le h, getL]

def trip (t : Int × Int × Int) : Value := .tuple #[.int .i64 t.1, .int .i64 t.2.1, .int .i64 t.2.2]

set_option maxRecDepth 10000 in
set_option maxHeartbeats 1000000 in
theorem specGetNum_any (a : Option Addr) (n cap : Nat) (bs : List Int) (p : Int) (w : World) (h : Row w a n bs) (hn : n ≤ 1000000000000) :
    Calls Tryd.prog 31 #[.slice a n cap, .int .i64 p] w fun e w' => e = .returned (trip (getN bs p)) ∧ w' = w := by
  have H0 : Hid (Row w a n bs) := h
  have hby := h.byte
  have HL : Hid (bs.length = n) := h.len
  clear h
  by_cases hp : p < 0
  · have hf : Hid (getN bs p = (0, 0, 3)) := by show _ = _; rw [getN, if_pos (.inl hp)]
    go_enter Tryd.func31, Tryd.ntmps31
    go_wp2
    go_ret3
    exact ⟨by rw [hf.out]; rfl, rfl⟩
  · by_cases hpn : (n : Int) < p
    · have hf : Hid (getN bs p = (0, 0, 3)) := by show _ = _; rw [getN, if_pos (.inr (by rw [HL.out]; exact hpn))]
      go_enter Tryd.func31, Tryd.ntmps31
      go_wp2
      go_ret3
      exact ⟨by rw [hf.out]; rfl, rfl⟩
    · obtain ⟨s, rfl⟩ := Int.eq_ofNat_of_zero_le (show 0 ≤ p by omega)
      have hG : getN bs (s : Int) = if (bs.getD s 0) = 128 then (0, 0, 2) else getL (bs.drop s) 0 s := by
        rw [getN, if_neg (by rw [HL.out]; omega), Int.toNat_natCast]
      have HG : Hid (getN bs (s : Int) = if (bs.getD s 0) = 128 then (0, 0, 2) else getL (bs.drop s) 0 s) := hG
      clear hG
      go_enter Tryd.func31, Tryd.ntmps31
      go_wp2
      go_loop [7, 8] (fun m i => ∃ (k : Nat) (mm : Int), s ≤ k ∧ k ≤ n ∧ i = .int .i64 k ∧ m = .int .i64 mm ∧ 0 ≤ mm ∧ mm ≤ 9223372036854775807 ∧ (k = s → mm = 0) ∧ (s < k → bs.getD s 0 ≠ 128) ∧ getL (bs.drop s) 0 s = getL (bs.drop k) mm k) (fun _ i => n + 1 - (intOf i).toNat)
      case atStart => exact ⟨s, 0, by omega, by omega, rfl, rfl, by omega, by omega, fun _ => rfl, fun h => absurd h (Nat.lt_irrefl _), rfl⟩
      case round =>
        obtain ⟨k, mm, hsk, hkn, rfl, rfl, hm0, hm1, hz, hf, hg⟩ := hrel
        have HG2 : Hid (getL (bs.drop s) 0 s = getL (bs.drop k) mm k) := hg
        have HZ : Hid (k = s → mm = 0) := hz
        have HF : Hid (s < k → bs.getD s 0 ≠ 128) := hf
        clear hg hz hf
        by_cases hlt : k < n
        · have hlb : k < bs.length := by have := HL.out; omega
          obtain ⟨b, off, rfl, hb, hc⟩ := H0.out.get k hlt
          obtain ⟨x, hx⟩ : ∃ x, x = bs.getD k 0 := ⟨_, rfl⟩
          have hxb := hby k
          rw [← hx] at hc hxb
          obtain ⟨hx0, hx1⟩ := hxb
          have HX : Hid (x = bs.getD k 0) := hx
          clear hx
          have hand : bits .and .u8 x 127 = x % 128 := and7 x hx0 hx1
          by_cases hc1 : k = s ∧ x = 128
          · obtain ⟨hks, h128⟩ := hc1
            have hfin : Hid (getN bs (s : Int) = (0, 0, 2)) := by show _ = _; rw [HG.out, ← hks, if_pos (by rw [← HX.out]; exact h128)]
            have e1 : ((k : Int) == (s : Int)) = true := by simp [hks]
            have e2 : (x == 128) = true := by simp [h128]
            clear hks h128
            go_wp2
            go_ret3
            exact ⟨by rw [hfin.out]; rfl, rfl⟩
          · have hgn : Hid (getN bs (s : Int) = getL (bs.drop k) mm k) := by
              show _ = _
              rw [HG.out, if_neg ?_, HG2.out]
              by_cases hks : k = s
              · subst hks
                intro e; exact hc1 ⟨rfl, by rw [HX.out]; exact e⟩
              · exact HF.out (by omega)
            have hfirst : Hid (bs.getD s 0 ≠ 128) := by
              show _ ≠ _
              by_cases hks : k = s
              · subst hks
                intro e; exact hc1 ⟨rfl, by rw [HX.out]; exact e⟩
              · exact HF.out (by omega)
            have hcase : (((k : Int) == (s : Int)) = true ∧ (x == 128) = false ∧ mm ≤ 0) ∨ ((k : Int) == (s : Int)) = false := by
              by_cases hks : k = s
              · left
                refine ⟨by simp [hks], ?_, by have := HZ.out hks; omega⟩
                simp; intro e; exact hc1 ⟨hks, e⟩
              · right; simp; omega
            clear hc1
            by_cases hbig : 72057594037927936 ≤ mm
            · have hfin : Hid (getN bs (s : Int) = (0, 0, 2)) := by show _ = _; rw [hgn.out, getL_big hlb hbig]
              have e1 : ((k : Int) == (s : Int)) = false := by
                rcases hcase with ⟨_, _, h0⟩ | h0
                · omega
                · exact h0
              clear hcase
              go_wp2
              go_ret3
              exact ⟨by rw [hfin.out]; rfl, rfl⟩
            · have hor : bits .or .i64 (mm * 128) (x % 128) = mm * 128 + x % 128 := or7 mm (x % 128) hm0 (by omega) (by omega) (by omega)
              by_cases hx128 : x < 128
              · have hfin : Hid (getN bs (s : Int) = (mm * 128 + x % 128, (k : Int) + 1, 0)) := by show _ = _; rw [hgn.out, getL_last hlb hbig (by rw [← HX.out]; exact hx128), ← HX.out]
                rcases hcase with ⟨e1, e2, e3⟩ | e1
                all_goals
                  go_wp2
                  go_ret3
                  exact ⟨by rw [hfin.out]; rfl, rfl⟩
              · have hnext : Hid (getL (bs.drop s) 0 s = getL (bs.drop (k + 1)) (mm * 128 + x % 128) ((k : Int) + 1)) := by
                  show _ = _; rw [HG2.out, getL_next hlb hbig (by rw [← HX.out]; exact hx128), ← HX.out]
                rcases hcase with ⟨e1, e2, e3⟩ | e1
                all_goals
                  go_wp2
                  go_round
                  case rel => exact ⟨k + 1, mm * 128 + x % 128, by omega, by omega, by go_num, rfl, by omega, by omega, fun e => by omega, fun _ => hfirst.out, by rw [hnext.out]; rfl⟩
                  case measure => simp [intOf]; omega
        · have hkn' : k = n := by omega
          subst hkn'
          have hfin : Hid (getN bs (s : Int) = (0, 0, 1)) := by
            show _ = _
            rw [HG.out]
            have hl := HL.out
            rw [if_neg ?_, HG2.out, getL_end (by omega)]
            by_cases hsk' : s < k
            · exact HF.out hsk'
            · rw [List.getD_eq_getElem?_getD, List.getElem?_eq_none (by omega)]; simp
          go_wp2
          go_ret3
          exact ⟨by rw [hfin.out]; rfl, rfl⟩

set_option maxRecDepth 10000 in
set_option maxHeartbeats 1000000 in
theorem implGetNum_any (a : Option Addr) (n cap : Nat) (bs : List Int) (p : Int) (w : World) (h : Row w a n bs) (hn : n ≤ 1000000000000) :
    Calls Tryd.prog 29 #[.slice a n cap, .int .i64 p] w fun e w' => e = .returned (trip (getN bs p)) ∧ w' = w := by
  have H0 : Hid (Row w a n bs) := h
  have hby := h.byte
  have HL : Hid (bs.length = n) := h.len
  clear h
  by_cases hp : p < 0
  · have hf : Hid (getN bs p = (0, 0, 3)) := by show _ = _; rw [getN, if_pos (.inl hp)]
    go_enter Tryd.func29, Tryd.ntmps29
    go_wp2
    go_ret3
    exact ⟨by rw [hf.out]; rfl, rfl⟩
  · by_cases hpn : (n : Int) < p
    · have hf : Hid (getN bs p = (0, 0, 3)) := by show _ = _; rw [getN, if_pos (.inr (by rw [HL.out]; exact hpn))]
      go_enter Tryd.func29, Tryd.ntmps29
      go_wp2
      go_ret3
      exact ⟨by rw [hf.out]; rfl, rfl⟩
    · obtain ⟨s, rfl⟩ := Int.eq_ofNat_of_zero_le (show 0 ≤ p by omega)
      have hG : getN bs (s : Int) = if (bs.getD s 0) = 128 then (0, 0, 2) else getL (bs.drop s) 0 s := by
        rw [getN, if_neg (by rw [HL.out]; omega), Int.toNat_natCast]
      have HG : Hid (getN bs (s : Int) = if (bs.getD s 0) = 128 then (0, 0, 2) else getL (bs.drop s) 0 s) := hG
      clear hG
      by_cases hc1 : s < n ∧ bs.getD s 0 = 128
      · obtain ⟨hsn, h128⟩ := hc1
        obtain ⟨b, off, rfl, hb, hc⟩ := H0.out.get s hsn
        rw [h128] at hc
        have hfin : Hid (getN bs (s : Int) = (0, 0, 2)) := by show _ = _; rw [HG.out, if_pos h128]
        clear h128
        go_enter Tryd.func29, Tryd.ntmps29
        go_wp2
        go_ret3
        exact ⟨by rw [hfin.out]; rfl, rfl⟩
      · have hgn : Hid (getN bs (s : Int) = getL (bs.drop s) 0 s) := by
          show _ = _
          rw [HG.out, if_neg ?_]
          intro e
          by_cases hsn : s < n
          · exact hc1 ⟨hsn, e⟩
          · rw [List.getD_eq_getElem?_getD, List.getElem?_eq_none (by have := HL.out; omega)] at e; simp at e
        have hsx : s < n → ∃ b off x, a = some ⟨b, off, none⟩ ∧ w.cell? ⟨b, off + s, none⟩ = some (.int .u8 x) ∧ (x == 128) = false := by
          intro hsn
          obtain ⟨b, off, ha, _, hc⟩ := H0.out.get s hsn
          exact ⟨b, off, _, ha, hc, by simp only [beq_eq_false_iff_ne]; exact fun e => hc1 ⟨hsn, e⟩⟩
        have HSX : Hid (s < n → ∃ b off x, a = some ⟨b, off, none⟩ ∧ w.cell? ⟨b, off + s, none⟩ = some (.int .u8 x) ∧ (x == 128) = false) := hsx
        clear hsx hc1
        by_cases hsn : s < n
        · obtain ⟨b0, off0, x0, rfl, hx0c, hx0n⟩ := HSX.out hsn
          go_enter Tryd.func29, Tryd.ntmps29
          go_wp2
          go_loop [8, 9] (fun m i => ∃ (k : Nat) (mm : Int), k ≤ n ∧ i = .int .i64 k ∧ m = .int .i64 mm ∧ 0 ≤ mm ∧ mm ≤ 9223372036854775807 ∧ getL (bs.drop s) 0 s = getL (bs.drop k) mm k) (fun _ i => n + 1 - (intOf i).toNat)
          case atStart => exact ⟨s, 0, by omega, rfl, rfl, by omega, by omega, rfl⟩
          case round =>
            obtain ⟨k, mm, hkn, rfl, rfl, hm0, hm1, hg⟩ := hrel
            have HG2 : Hid (getL (bs.drop s) 0 s = getL (bs.drop k) mm k) := hg
            clear hg
            by_cases hlt : k < n
            · have hlb : k < bs.length := by have := HL.out; omega
              obtain ⟨b, off, ha, hb, hc⟩ := H0.out.get k hlt
              simp only [Option.some.injEq, Addr.mk.injEq, and_true] at ha
              obtain ⟨rfl, rfl⟩ := ha
              obtain ⟨x, hx⟩ : ∃ x, x = bs.getD k 0 := ⟨_, rfl⟩
              have hxb := hby k
              rw [← hx] at hc hxb
              obtain ⟨hx0, hx1⟩ := hxb
              have HX : Hid (x = bs.getD k 0) := hx
              clear hx
              have hand : bits .and .u8 x 127 = x % 128 := and7 x hx0 hx1
              by_cases hbig : 72057594037927936 ≤ mm
              · have hfin : Hid (getN bs (s : Int) = (0, 0, 2)) := by show _ = _; rw [hgn.out, HG2.out, getL_big hlb hbig]
                go_wp2
                go_ret3
                exact ⟨by rw [hfin.out]; rfl, rfl⟩
              · have hor : bits .or .i64 (mm * 128) (x % 128) = mm * 128 + x % 128 := or7 mm (x % 128) hm0 (by omega) (by omega) (by omega)
                by_cases hx128 : x < 128
                · have hfin : Hid (getN bs (s : Int) = (mm * 128 + x % 128, (k : Int) + 1, 0)) := by show _ = _; rw [hgn.out, HG2.out, getL_last hlb hbig (by rw [← HX.out]; exact hx128), ← HX.out]
                  go_wp2
                  go_ret3
                  exact ⟨by rw [hfin.out]; rfl, rfl⟩
                · have hnext : Hid (getL (bs.drop s) 0 s = getL (bs.drop (k + 1)) (mm * 128 + x % 128) ((k : Int) + 1)) := by
                    show _ = _; rw [HG2.out, getL_next hlb hbig (by rw [← HX.out]; exact hx128), ← HX.out]
                  go_wp2
                  go_round
                  case rel => exact ⟨k + 1, mm * 128 + x % 128, by omega, by go_num, rfl, by omega, by omega, by rw [hnext.out]; rfl⟩
                  case measure => simp [intOf]; omega
            · have hfin : Hid (getN bs (s : Int) = (0, 0, 1)) := by
                show _ = _
                rw [hgn.out, HG2.out, getL_end (by have := HL.out; omega)]
              go_wp2
              go_ret3
              exact ⟨by rw [hfin.out]; rfl, rfl⟩
        · have hfin : Hid (getN bs (s : Int) = (0, 0, 1)) := by
            show _ = _
            rw [hgn.out, getL_end (by have := HL.out; omega)]
          go_enter Tryd.func29, Tryd.ntmps29
          go_wp2
          refine wp_loop_rounds 1 ?_
          rw [rounds_succ]
          go_wp2
          go_ret3
          exact ⟨by rw [hfin.out]; rfl, rfl⟩

end Go.Proofs.YtjdfbebdcpjpiaaDoor
