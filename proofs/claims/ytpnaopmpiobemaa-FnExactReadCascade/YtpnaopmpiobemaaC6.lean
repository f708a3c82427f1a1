import Derived.Test.YtpnaopmpiobemaaC5
import Derived.Deep.RegionWith
import Derived.Deep.Matrix
namespace Go.Proofs.Ytpnaopmpiobemaa
open Go.RowKit

theorem Try.infoRow : (Try.prog.info? 54).map (fun i => (i.zero, i.size, i.bytes)) = some (some (.agg #[.slice none 0 0]), 1, 24) := by kernel_rfl

set_option maxRecDepth 10000 in
set_option maxHeartbeats 400000 in
theorem szByteS_any (a : Option Addr) (n cap : Nat) (l : Int) (w : World) (hl0 : 0 ≤ l) (hl : l ≤ 1048576) (hn : n ≤ 9223372036854775807) :
    Calls Try.prog 92 #[.slice a n cap, .int .i64 l] w fun e w' => e = .returned (.int .i64 (if l < n then -1 else l - n)) ∧ w = w' := by
  by_cases h : l < n
  · have h' : l - (n : Int) < 0 := by omega
    rw [if_pos h]
    go_enter Try.func92, Try.ntmps92
    go_wp2
    go_ret
    exact ⟨rfl, rfl⟩
  · have h' : 0 ≤ l - (n : Int) := by omega
    rw [if_neg h]
    go_enter Try.func92, Try.ntmps92
    go_wp2
    go_ret
    exact ⟨rfl, rfl⟩

set_option maxRecDepth 10000 in
set_option maxHeartbeats 400000 in
theorem szRow_any (a : Option Addr) (n cap : Nat) (l : Int) (w : World) (hl0 : 0 ≤ l) (hl : l ≤ 1048576) (hn : n ≤ 9223372036854775807) :
    Calls Try.prog 61 #[.agg #[.slice a n cap], .int .i64 l] w fun e w' => e = .returned (.int .i64 (if l < n then -1 else l - n)) ∧ Below w.heap.size w w' := by
  by_cases h : l < n
  · have e1 : (if l < (n : Int) then (-1 : Int) else l - n) = -1 := if_pos h
    go_enter Try.func61, Try.ntmps61
    go_wp2_with fail
    refine (szByteS_any a n cap l _ hl0 hl hn).mono ?_
    rintro e w' ⟨rfl, hw'⟩
    subst hw'
    rw [e1]
    clear e1
    go_wp2
    go_ret
    exact ⟨rfl, (Below.refl _ _).alloc (Nat.le_refl _) _⟩
  · have e1 : (if l < (n : Int) then (-1 : Int) else l - n) = l - n := if_neg h
    have h2 : 0 ≤ l - (n : Int) := by omega
    go_enter Try.func61, Try.ntmps61
    go_wp2_with fail
    refine (szByteS_any a n cap l _ hl0 hl hn).mono ?_
    rintro e w' ⟨rfl, hw'⟩
    subst hw'
    rw [e1]
    clear e1
    go_wp2
    go_ret
    exact ⟨rfl, (Below.refl _ _).alloc (Nat.le_refl _) _⟩

set_option maxRecDepth 10000 in
set_option maxHeartbeats 1000000 in
theorem szRowS_any (a : Option Addr) (n cap : Nat) (bss : List (List Int)) (w : World) (h : Rows2 w a n bss) (hn : n ≤ 9223372036854775807) (hp : ∀ k, k < n → (bss.getD k []).length ≤ 9223372036854775807) :
    Calls Try.prog 36 #[.slice a n cap, .int .i64 1048576] w fun e w' => ∃ r : Int, e = .returned (.int .i64 r) ∧ (r < 0 ∨ n + total bss ≤ 1048576) ∧ Below w.heap.size w w' := by
  have H0 : Hid (Rows2 w a n bss) := h
  have HL : Hid (bss.length = n) := h.len
  have HP : Hid (∀ k, k < n → (bss.getD k []).length ≤ 9223372036854775807) := hp
  clear h hp
  by_cases hbig : 1048576 < n
  · have h' : (1048576 : Int) - (n : Int) < 0 := by omega
    go_enter Try.func36, Try.ntmps36
    go_wp2
    go_ret
    exact ⟨-1, rfl, .inl (by decide), Below.refl _ _⟩
  · have h' : 0 ≤ (1048576 : Int) - (n : Int) := by omega
    go_enter Try.func36, Try.ntmps36
    go_wp2
    go_loopw [1, 5] (fun l i wr => ∃ (k : Nat) (ll : Int), k ≤ n ∧ i = .int .i64 k ∧ l = .int .i64 ll ∧ 0 ≤ ll ∧ ll ≤ 1048576 ∧ Hid (ll + n + total (bss.take k) = 1048576) ∧ Below w.heap.size w wr) (fun _ i _ => n - (intOf i).toNat)
    case atStart => exact ⟨0, 1048576 - n, Nat.zero_le _, rfl, rfl, by omega, by omega, by show _ = _; simp [total], Below.refl _ _⟩
    case round =>
      obtain ⟨k, ll, hk, rfl, rfl, h0, h1, HS, hbr⟩ := hrel
      have hws := hbr.size
      by_cases hlt : k < n
      · obtain ⟨b, off, rfl, hb, ak, nk, ck, hc, hrk, hnk⟩ := H0.out.get k hlt
        have hcr : wr.cell? ⟨b, off + k, none⟩ = some (.slice ak nk ck) := (hbr.cell (p := ⟨b, off + k, none⟩) hb).trans hc
        have hkl : k < bss.length := by have := HL.out; omega
        have hnk' : nk ≤ 9223372036854775807 := by rw [← hrk.len]; exact HP.out k hlt
        have hsp : Hid (total (bss.take (k + 1)) = total (bss.take k) + nk) := by show _ = _; rw [total_split bss k hkl, hrk.len]
        have hlti : (k : Int) < (n : Int) := by omega
        clear hrk hnk hc
        by_cases hlo : ll < (nk : Int)
        · have e1 : (if ll < (nk : Int) then (-1 : Int) else ll - nk) = -1 := if_pos hlo
          go_wp2_with fail
          refine (szRow_any ak nk ck ll _ h0 h1 hnk').mono ?_
          rintro e w' ⟨rfl, hw'⟩
          rw [e1]
          clear e1
          go_wp2
          go_ret
          exact ⟨-1, rfl, .inl (by decide), keepT hbr hw'⟩
        · have e1 : (if ll < (nk : Int) then (-1 : Int) else ll - nk) = ll - nk := if_neg hlo
          have h2 : 0 ≤ ll - (nk : Int) := by omega
          go_wp2_with fail
          refine (szRow_any ak nk ck ll _ h0 h1 hnk').mono ?_
          rintro e w' ⟨rfl, hw'⟩
          rw [e1]
          clear e1
          go_wp2
          go_roundw
          case rel => exact ⟨k + 1, ll - nk, by omega, by go_num, rfl, h2, by omega, by have := HS.out; have := hsp.out; show _ = _; omega, keepT hbr hw'⟩
          case measure => simp [intOf]; omega
      · have hkn : k = n := by omega
        subst hkn
        have hfin : Hid (k + total bss ≤ 1048576) := by
          show _ ≤ _
          have := HS.out
          rw [List.take_of_length_le (by have := HL.out; omega)] at this
          omega
        go_wp2
        go_ret
        exact ⟨ll, rfl, .inr hfin.out, hbr⟩

set_option maxRecDepth 10000 in
set_option maxHeartbeats 1000000 in
theorem szCascade_any (a : Option Addr) (n cap : Nat) (bss : List (List Int)) (w : World) (h : Rows2 w a n bss) (hn : n ≤ 9223372036854775807) (hp : ∀ k, k < n → (bss.getD k []).length ≤ 9223372036854775807) :
    Calls Try.prog 15 #[.agg #[.slice a n cap], .int .i64 1048576] w fun e w' => ∃ r : Int, e = .returned (.int .i64 r) ∧ Hid (r < 0 ∨ n + total bss ≤ 1048576) ∧ Below w.heap.size w w' := by
  have hbb : Below w.heap.size w (w.alloc (.cells #[.slice a n cap] 35)) := (Below.refl _ _).alloc (Nat.le_refl _) _
  have HR := h.kept hbb
  go_enter Try.func15, Try.ntmps15
  go_wp2_with fail
  refine (szRowS_any a n cap bss _ HR hn hp).mono ?_
  rintro e w' ⟨r, rfl, hr, hw'⟩
  have HRR : Hid (_ ∨ _) := hr
  clear hr
  by_cases hr0 : r < 0
  · go_wp2
    go_ret
    exact ⟨-1, rfl, .inl (by decide), keepT hbb hw'⟩
  · go_wp2
    go_ret
    exact ⟨r, rfl, HRR, keepT hbb hw'⟩

set_option maxRecDepth 10000 in
set_option maxHeartbeats 1000000 in
theorem eqRow_any (a b : Option Addr) (n m ca cb : Nat) (xs ys : List Int) (w : World) (hx : Row w a n xs) (hy : Row w b m ys) (hn : n ≤ maxLen) (hm : m ≤ maxLen) :
    Calls Try.prog 60 #[.agg #[.slice a n ca], .agg #[.slice b m cb]] w fun e w' => e = .returned (.bool (decide (xs = ys))) ∧ Below w.heap.size w w' := by
  have hb1 : Below w.heap.size w ((w.alloc (.cells #[.slice a n ca] 54)).alloc (.cells #[.slice b m cb] 54)) := ((Below.refl _ _).alloc (Nat.le_refl _) _).alloc (by simp) _
  go_enter Try.func60, Try.ntmps60
  go_wp2_with fail
  refine (eqByteS_any a b n m ca cb xs ys _ (hx.kept hb1) (hy.kept hb1) hn hm).mono ?_
  rintro e w' ⟨rfl, hw'⟩
  have B := keepT hb1 hw'
  clear hb1 hw'
  by_cases e : xs = ys
  · rw [decide_eq_true e]
    go_wp2
    go_ret
    exact ⟨by rw [decide_eq_true e]; rfl, B⟩
  · rw [decide_eq_false e]
    go_wp2
    go_ret
    exact ⟨by rw [decide_eq_false e]; rfl, B⟩

set_option maxRecDepth 10000 in
set_option maxHeartbeats 1000000 in
theorem eqRowS_same (a b : Option Addr) (n ca cb : Nat) (bss : List (List Int)) (w : World) (hx : Rows2 w a n bss) (hy : Rows2 w b n bss) (hn : n ≤ 1048576) (ht : total bss ≤ 1048576) :
    Calls Try.prog 33 #[.slice a n ca, .slice b n cb] w fun e w' => e = .returned (.bool true) ∧ Below w.heap.size w w' := by
  have HX : Hid (Rows2 w a n bss) := hx
  have HY : Hid (Rows2 w b n bss) := hy
  have HL : Hid (bss.length = n) := hx.len
  have HT : Hid (total bss ≤ 1048576) := ht
  clear hx hy ht
  go_enter Try.func33, Try.ntmps33
  go_wp2
  go_loopw [5] (fun i wr => ∃ k : Nat, k ≤ n ∧ i = .int .i64 k ∧ Below w.heap.size w wr) (fun i _ => n - (intOf i).toNat)
  case atStart => exact ⟨0, Nat.zero_le _, rfl, Below.refl _ _⟩
  case round =>
    obtain ⟨k, hk, rfl, hbr⟩ := hrel
    have hws := hbr.size
    by_cases hlt : k < n
    · obtain ⟨b1, off1, rfl, hb1, a1, n1, c1, hc1, hr1, hn1⟩ := HX.out.get k hlt
      obtain ⟨b2, off2, rfl, hb2, a2, n2, c2, hc2, hr2, hn2⟩ := HY.out.get k hlt
      have hd1 : wr.cell? ⟨b1, off1 + k, none⟩ = some (.slice a1 n1 c1) := (hbr.cell (p := ⟨b1, off1 + k, none⟩) hb1).trans hc1
      have hd2 : wr.cell? ⟨b2, off2 + k, none⟩ = some (.slice a2 n2 c2) := (hbr.cell (p := ⟨b2, off2 + k, none⟩) hb2).trans hc2
      have hkl : k < bss.length := by have := HL.out; omega
      have hp1 : n1 ≤ maxLen := by rw [← hr1.len]; have := part_le bss k hkl HT.out; unfold maxLen; omega
      have hp2 : n2 ≤ maxLen := by rw [← hr2.len]; have := part_le bss k hkl HT.out; unfold maxLen; omega
      have R1 : Hid (Row wr.drew a1 n1 (bss.getD k [])) := (hr1.kept hbr).drew
      have R2 : Hid (Row wr.drew a2 n2 (bss.getD k [])) := (hr2.kept hbr).drew
      have hlti : (k : Int) < (n : Int) := by omega
      clear hc1 hc2 hr1 hr2 hn1 hn2
      go_wp2
      go_region_with (go_at_call 60; refine (eqRow_any a1 a2 n1 n2 c1 c2 (bss.getD k []) (bss.getD k []) _ R1.out R2.out hp1 hp2).mono ?_; rintro e w5 ⟨rfl, hb5⟩; rw [decide_eq_true (rfl : bss.getD k [] = bss.getD k [])])
      all_goals
        have b5 : Below w.heap.size w w5 := hbr.drew.trans (hb5.mono hws)
        go_wp2
        go_roundw
        case rel => exact ⟨k + 1, by omega, by go_num, b5⟩
        case measure => simp [intOf]; omega
    · go_wp2
      go_ret
      exact ⟨rfl, hbr⟩

set_option maxRecDepth 10000 in
set_option maxHeartbeats 1000000 in
theorem eqCascade_same (a b : Option Addr) (n ca cb : Nat) (bss : List (List Int)) (w : World) (hx : Rows2 w a n bss) (hy : Rows2 w b n bss) (hn : n ≤ 1048576) (ht : total bss ≤ 1048576) :
    Calls Try.prog 10 #[.agg #[.slice a n ca], .agg #[.slice b n cb]] w fun e w' => e = .returned (.bool true) ∧ Below w.heap.size w w' := by
  have hb1 : Below w.heap.size w ((w.alloc (.cells #[.slice a n ca] 25)).alloc (.cells #[.slice b n cb] 25)) := ((Below.refl _ _).alloc (Nat.le_refl _) _).alloc (by simp) _
  go_enter Try.func10, Try.ntmps10
  go_wp2_with fail
  refine (eqRowS_same a b n ca cb bss _ (hx.kept hb1) (hy.kept hb1) hn ht).mono ?_
  rintro e w' ⟨rfl, hw'⟩
  have B := keepT hb1 hw'
  clear hb1 hw'
  go_wp2
  go_ret
  exact ⟨rfl, B⟩

end Go.Proofs.Ytpnaopmpiobemaa
