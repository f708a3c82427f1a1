import Derived.Test.YtodbdjkkidfbdaaW8
import Derived.Test.YtodbdjkkidfbdaaTouch
import Derived.Deep.RegionWith
import Derived.Deep.Matrix
namespace Go.Proofs.Ytodbdjkkidfbdaa
open Go.RowKit

theorem Try.info22 : (Try.prog.info? 22).map (fun i => (i.zero, i.size, i.bytes)) = some (some (.slice none 0 0), 1, 24) := by kernel_rfl

set_option maxHeartbeats 400000 in
theorem szByteS_any (a : Option Addr) (n cap : Nat) (l : Int) (w : World) (hl0 : 0 ≤ l) (hl : l ≤ 1048576) (hn : n ≤ 9223372036854775807) :
    Calls Try.prog 31 #[.slice a n cap, .int .i64 l] w fun e w' => e = .returned (.int .i64 (if l < n then -1 else l - n)) ∧ w = w' := by
  by_cases h : l < n
  · have h' : l - (n : Int) < 0 := by omega
    rw [if_pos h]
    go_enter Try.func31, Try.ntmps31
    go_wp2
    go_ret
    exact ⟨rfl, rfl⟩
  · have h' : 0 ≤ l - (n : Int) := by omega
    rw [if_neg h]
    go_enter Try.func31, Try.ntmps31
    go_wp2
    go_ret
    exact ⟨rfl, rfl⟩

set_option maxHeartbeats 1000000 in
theorem szByteSS_any (a : Option Addr) (n cap : Nat) (bss : List (List Int)) (w : World) (h : Rows2 w a n bss) (hn : n ≤ 9223372036854775807) (hp : ∀ k, k < n → (bss.getD k []).length ≤ 9223372036854775807) :
    Calls Try.prog 13 #[.slice a n cap, .int .i64 1048576] w fun e w' => ∃ r : Int, e = .returned (.int .i64 r) ∧ (r < 0 ∨ n + total bss ≤ 1048576) ∧ w = w' := by
  have H0 : Hid (Rows2 w a n bss) := h
  have HL : Hid (bss.length = n) := h.len
  have HP : Hid (∀ k, k < n → (bss.getD k []).length ≤ 9223372036854775807) := hp
  clear h hp
  by_cases hbig : 1048576 < n
  · have h' : (1048576 : Int) - (n : Int) < 0 := by omega
    go_enter Try.func13, Try.ntmps13
    go_wp2
    go_ret
    exact ⟨-1, rfl, .inl (by decide), rfl⟩
  · have h' : 0 ≤ (1048576 : Int) - (n : Int) := by omega
    go_enter Try.func13, Try.ntmps13
    go_wp2
    go_loop [1, 5] (fun l i => ∃ (k : Nat) (ll : Int), k ≤ n ∧ i = .int .i64 k ∧ l = .int .i64 ll ∧ 0 ≤ ll ∧ ll ≤ 1048576 ∧ ll + n + total (bss.take k) = 1048576) (fun _ i => n - (intOf i).toNat)
    case atStart => exact ⟨0, 1048576 - n, Nat.zero_le _, rfl, rfl, by omega, by omega, by simp [total]⟩
    case round =>
      obtain ⟨k, ll, hk, rfl, rfl, h0, h1, hs⟩ := hrel
      have HS : Hid (ll + n + total (bss.take k) = 1048576) := hs
      clear hs
      by_cases hlt : k < n
      · obtain ⟨b, off, rfl, hb, ak, nk, ck, hc, hrk, hnk⟩ := H0.out.get k hlt
        have hkl : k < bss.length := by have := HL.out; omega
        have hnk' : nk ≤ 9223372036854775807 := by rw [← hrk.len]; exact HP.out k hlt
        have hsp : Hid (total (bss.take (k + 1)) = total (bss.take k) + nk) := by show _ = _; rw [total_split bss k hkl, hrk.len]
        clear hrk hnk
        by_cases hlo : ll < (nk : Int)
        · have e1 : (if ll < (nk : Int) then (-1 : Int) else ll - nk) = -1 := if_pos hlo
          go_wp2_with fail
          refine (szByteS_any ak nk ck ll _ h0 h1 hnk').mono ?_
          rintro e w' ⟨rfl, hw'⟩
          subst hw'
          rw [e1]
          go_wp2
          go_ret
          exact ⟨-1, rfl, .inl (by decide), rfl⟩
        · have e1 : (if ll < (nk : Int) then (-1 : Int) else ll - nk) = ll - nk := if_neg hlo
          have h2 : 0 ≤ ll - (nk : Int) := by omega
          go_wp2_with fail
          refine (szByteS_any ak nk ck ll _ h0 h1 hnk').mono ?_
          rintro e w' ⟨rfl, hw'⟩
          subst hw'
          rw [e1]
          clear e1
          go_wp2
          go_round
          case rel => exact ⟨k + 1, ll - nk, by omega, by go_num, rfl, h2, by omega, by have := HS.out; have := hsp.out; omega⟩
          case measure => simp [intOf]; omega
      · have hkn : k = n := by omega
        subst hkn
        have hfin : Hid (k + total bss ≤ 1048576) := by
          show _ ≤ _
          have := HS.out
          rw [List.take_of_length_le (by have := HL.out; omega)] at this
          omega
        go_wp2
        go_ret
        exact ⟨ll, rfl, .inr hfin.out, rfl⟩

set_option maxHeartbeats 1000000 in
theorem eqByteSS_same (a b : Option Addr) (n ca cb : Nat) (bss : List (List Int)) (w : World) (hx : Rows2 w a n bss) (hy : Rows2 w b n bss) (hn : n ≤ 1048576) (ht : total bss ≤ 1048576) :
    Calls Try.prog 17 #[.slice a n ca, .slice b n cb] w fun e w' => e = .returned (.bool true) ∧ Below w.heap.size w w' := by
  have HX : Hid (Rows2 w a n bss) := hx
  have HY : Hid (Rows2 w b n bss) := hy
  have HL : Hid (bss.length = n) := hx.len
  have HT : Hid (total bss ≤ 1048576) := ht
  clear hx hy ht
  go_enter Try.func17, Try.ntmps17
  go_wp2
  go_loopw [5] (fun i wr => ∃ k : Nat, k ≤ n ∧ i = .int .i64 k ∧ Below w.heap.size w wr) (fun i _ => n - (intOf i).toNat)
  case atStart => exact ⟨0, Nat.zero_le _, rfl, Below.refl _ _⟩
  case round =>
    obtain ⟨k, hk, rfl, hbr⟩ := hrel
    have hws := hbr.size
    by_cases hlt : k < n
    · obtain ⟨b1, off1, rfl, hb1, a1, n1, c1, hc1, hr1, hn1⟩ := HX.out.get k hlt
      obtain ⟨b2, off2, rfl, hb2, a2, n2, c2, hc2, hr2, hn2⟩ := HY.out.get k hlt
      have hd1 : wr.cell? ⟨b1, off1 + k, none⟩ = some (.slice a1 n1 c1) := (hbr.cell (p := ⟨b1, off1 + k, none⟩) hb1).trans hc1
      have hd2 : wr.cell? ⟨b2, off2 + k, none⟩ = some (.slice a2 n2 c2) := (hbr.cell (p := ⟨b2, off2 + k, none⟩) hb2).trans hc2
      have hkl : k < bss.length := by have := HL.out; omega
      have hp1 : n1 ≤ maxLen := by rw [← hr1.len]; have := part_le bss k hkl HT.out; unfold maxLen; omega
      have hp2 : n2 ≤ maxLen := by rw [← hr2.len]; have := part_le bss k hkl HT.out; unfold maxLen; omega
      have R1 : Hid (Row wr.drew a1 n1 (bss.getD k [])) := (hr1.kept hbr).drew
      have R2 : Hid (Row wr.drew a2 n2 (bss.getD k [])) := (hr2.kept hbr).drew
      have hlti : (k : Int) < (n : Int) := by omega
      clear hc1 hc2 hr1 hr2 hn1 hn2
      go_wp2
      go_region_with (go_at_call 12; refine (eqByteS_any a1 a2 n1 n2 c1 c2 (bss.getD k []) (bss.getD k []) _ R1.out R2.out hp1 hp2).mono ?_; rintro e w5 ⟨rfl, hb5⟩; rw [decide_eq_true (rfl : bss.getD k [] = bss.getD k [])])
      all_goals
        have b5 : Below w.heap.size w w5 := hbr.drew.trans (hb5.mono hws)
        go_wp2
        go_roundw
        case rel => exact ⟨k + 1, by omega, by go_num, b5⟩
        case measure => simp [intOf]; omega
    · go_wp2
      go_ret
      exact ⟨rfl, hbr⟩

/-- What toByteSS has laid when k are done. -/
structure Laid2 (B : Nat) (w : World) (n k : Nat) (bss : List (List Int)) : Prop where
  owns : ∃ vs, w.ownsRow B 22 1 (.slice (some ⟨B, 0, none⟩) n n) n vs ∧ ∀ j, j < k → ∃ aj nj cj, vs[j]? = some (.slice aj nj cj) ∧ Row w aj nj (bss.getD j []) ∧ (aj = none → cj = 0) ∧ In aj nj (B + 1) w.heap.size

theorem Laid2.step {B n k : Nat} {w w1 : World} {bss : List (List Int)} {a : Option Addr} {m c : Nat} (h : Laid2 B w n k bss) (hk : k < n) (hb : Below w.heap.size w w1) (ho : Own w.heap.size w1 a m c (bss.getD k [])) :
    Laid2 B (w1.setCell ⟨B, k, none⟩ (.slice a m c)) n (k + 1) bss := by
  obtain ⟨vs, hv, hr⟩ := h.owns
  have hBw : B < w.heap.size := by
    rcases hv.2 with ⟨h', _⟩ | ⟨g, cap, cur, h', _, hg, _⟩
    · simp at h'
    · simp only [Value.slice.injEq, Option.some.injEq, Addr.mk.injEq, and_true] at h'
      obtain ⟨rfl, _⟩ := h'
      exact (Array.getElem?_eq_some_iff.1 hg).1
  have hv1 := ownsRow_below hv hb
  have hT : Touch B (B + 1) w1 (w1.setCell ⟨B, k, none⟩ (.slice a m c)) :=
    ⟨rfl, rfl, rfl, by simp [World.setCell], fun i hi' ho' => Below.heap_setCell _ _ _ _ (by show i ≠ B; omega)⟩
  have hsz : (w1.setCell ⟨B, k, none⟩ (.slice a m c)).heap.size = w1.heap.size := by simp [World.setCell]
  refine ⟨vs.set k (.slice a m c), (hv1.stored k _).1, fun j hj => ?_⟩
  by_cases e : j = k
  · subst e
    have hl : vs.length = n := by have := hv.1; omega
    refine ⟨a, m, c, by simp [hl, hk], ho.toRow.touch ho.in_ (.inr (by omega)) hT, ho.nil, ?_⟩
    intro b off hb' hm
    have := ho.in_ b off hb' hm
    rw [hsz]; omega
  · obtain ⟨aj, nj, cj, h1, h2, h3, h4⟩ := hr j (by omega)
    refine ⟨aj, nj, cj, by rw [List.getElem?_set_ne (by omega)]; exact h1, (h2.kept hb).touch h4 (.inr (Nat.le_refl _)) hT, h3, ?_⟩
    intro b off hb' hm
    have := h4 b off hb' hm
    rw [hsz]; have := hb.size; omega
theorem Laid2.rows {B n : Nat} {w : World} {bss : List (List Int)} (h : Laid2 B w n n bss) (hl : bss.length = n) : Rows2 w (some ⟨B, 0, none⟩) n bss := by
  obtain ⟨vs, hv, hr⟩ := h.owns
  refine ⟨hl, fun k hk => ?_⟩
  obtain ⟨aj, nj, cj, h1, h2, h3, h4⟩ := hr k hk
  have hBw : B < w.heap.size := by
    rcases hv.2 with ⟨h', _⟩ | ⟨g, cap, cur, h', _, hg, _⟩
    · simp at h'
    · simp only [Value.slice.injEq, Option.some.injEq, Addr.mk.injEq, and_true] at h'
      obtain ⟨rfl, _⟩ := h'
      exact (Array.getElem?_eq_some_iff.1 hg).1
  exact ⟨B, 0, rfl, hBw, aj, nj, cj, by rw [Nat.zero_add, hv.cellAt k (by omega), h1], h2, h3⟩

set_option maxHeartbeats 1000000 in
theorem toByteSS_any (a : Option Addr) (n cap : Nat) (bss : List (List Int)) (w : World) (h : Rows2 w a n bss) (hn : n ≤ 1048576) (ht : total bss ≤ 1048576) :
    Calls Try.prog 15 #[.slice a n cap] w fun e w' => ∃ a', e = .returned (.slice a' n n) ∧ Rows2 w' a' n bss ∧ Below w.heap.size w w' := by
  obtain ⟨i0, hi, hz0, hz1, hz2⟩ := info_parts Try.info22
  have H0 : Hid (Rows2 w a n bss) := h
  have HL : Hid (bss.length = n) := h.len
  have HT : Hid (total bss ≤ 1048576) := ht
  clear h ht
  go_enter Try.func15, Try.ntmps15
  go_wp2_with (at_make; refine wpList_make_full _ rfl _ _ 28 rfl w.heap.size 22 i0 (.slice none 0 0) 1 Try.underlying28 hi hz0 hz1 _ _ _ _ n rfl rfl rfl rfl (by rw [hz2]; omega) (by unfold maxLen; omega) (by exact Nat.le_refl _) ?_; intro w1 hown hgrow)
  have hl0 : Laid2 w.heap.size w1 n 0 bss := ⟨_, hown, fun j hj => absurd hj (Nat.not_lt_zero _)⟩
  have hbl : Below w.heap.size w w1 := (Below.refl _ _).grown hgrow (Nat.le_refl _) (by simp)
  clear hown hgrow hi hz0 hz1 hz2
  go_loopw [4] (fun i wr => ∃ k : Nat, k ≤ n ∧ i = .int .i64 k ∧ Laid2 w.heap.size wr n k bss ∧ Below w.heap.size w wr) (fun i _ => n - (intOf i).toNat)
  case atStart => exact ⟨0, Nat.zero_le _, rfl, hl0, hbl⟩
  case round =>
    obtain ⟨k, hk, rfl, hor, hbr⟩ := hrel
    have hws := hbr.size
    by_cases hlt : k < n
    · obtain ⟨b, off, rfl, hb, ak, nk, ck, hc, hrk, hnk⟩ := H0.out.get k hlt
      have hcr : wr.cell? ⟨b, off + k, none⟩ = some (.slice ak nk ck) := (hbr.cell (p := ⟨b, off + k, none⟩) hb).trans hc
      have hkl : k < bss.length := by have := HL.out; omega
      have hpk : nk ≤ 1048576 := by rw [← hrk.len]; exact part_le bss k hkl HT.out
      clear hc
      go_wp2_with fail
      refine (toByteS_any ak nk ck (bss.getD k []) _ (hrk.kept hbr) hpk).mono ?_
      rintro e w2 ⟨a2, rfl, ho2, hb2⟩
      have hst := hor.step hlt hb2 ho2
      have HST : Hid (Laid2 w.heap.size (w2.setCell ⟨w.heap.size, k, none⟩ (.slice a2 nk nk)) n (k + 1) bss) := hst
      have hb3 : Below w.heap.size w (w2.setCell ⟨w.heap.size, k, none⟩ (.slice a2 nk nk)) := (hbr.trans (hb2.mono hws)).setCell (Nat.le_refl _) _
      have HB3 : Hid (Below w.heap.size w (w2.setCell ⟨w.heap.size, k, none⟩ (.slice a2 nk nk))) := hb3
      obtain ⟨vs, hv, _⟩ := hor.owns
      have hv2 := ownsRow_below hv hb2
      have hfr : w2.frozen? ⟨w.heap.size, k, none⟩ = false := hv2.frozenAt k
      obtain ⟨z, hz⟩ : ∃ z, w2.cell? ⟨w.heap.size, k, none⟩ = some z := ⟨_, (hv2.cellAt k (by omega)).trans (List.getElem?_eq_getElem (by have := hv.1; omega))⟩
      clear hst hb3 hor hv hv2 ho2
      go_wp2
      go_roundw
      case rel => exact ⟨k + 1, by omega, by go_num, HST.out, HB3.out⟩
      case measure => simp [intOf]; omega
    · have hkn : k = n := by omega
      subst hkn
      go_wp2
      go_ret
      exact ⟨_, rfl, hor.rows HL.out, hbr⟩

/-- A row of rows that came in. -/
def IsRows2 (w : World) (a : Option Addr) (len _cap : Nat) (bss : List (List Int)) : Prop := Rows2 w a len bss ∧ len ≤ 9223372036854775807 ∧ (∀ k, k < len → (bss.getD k []).length ≤ 9223372036854775807)

theorem isRows2_nil (w : World) : IsRows2 w none 0 0 [] := ⟨⟨rfl, fun k hk => absurd hk (Nat.not_lt_zero _)⟩, by decide, fun k hk => absurd hk (Nat.not_lt_zero _)⟩
theorem isRows2_of {w : World} {a : Addr} {len cap : Nat} {A : Nat → Option Addr} {L C : Nat → Nat} {Z : Nat → List Int} {base : Nat} (hl : len ≤ cap) (hm : cap ≤ maxLen)
    (h : ∀ r, r < cap → w.cell? (a.add r) = some (.slice (A r) (L r) (C r)) ∧ L r ≤ C r ∧ C r ≤ maxLen ∧ (Z r).length = C r ∧ (∀ n ∈ Z r, (Lit.int .u8 n).wf = true) ∧ (A r = none → C r = 0) ∧
        ∀ a', A r = some a' → base ≤ a'.block ∧ ∀ c, c < C r → w.cell? (a'.add c) = some (.int .u8 ((Z r).getD c 0))) :
    IsRows2 w (some a) len cap ((List.range len).map fun r => (Z r).take (L r)) := by
  have hrow : ∀ r, r < cap → IsRow .u8 w (A r) (L r) (C r) (Z r) := by
    intro r hr
    obtain ⟨h1, h2, h3, h4, h5, h6, h7⟩ := h r hr
    cases hA : A r with
    | none =>
      have hc := h6 hA
      left
      refine ⟨rfl, by omega, hc, List.eq_nil_of_length_eq_zero (by omega)⟩
    | some x =>
      right
      exact ⟨x, rfl, h2, h3, h4, fun i hi' => (h7 x hA).2 i (by omega), h5⟩
  have hget : ∀ k, k < len → ((List.range len).map fun r => (Z r).take (L r)).getD k [] = (Z k).take (L k) := by intro k hk; simp [hk]
  unfold maxLen at hm
  refine ⟨⟨by simp, fun k hk => ?_⟩, by omega, fun k hk => ?_⟩
  · have h0 := (h 0 (by omega)).1
    have hk1 := (h k (by omega)).1
    obtain ⟨b, off, spot⟩ := a
    have hs : spot = none := by simpa [Addr.add] using World.cell?_spot h0
    subst hs
    have e : (⟨b, off, none⟩ : Addr).add k = ⟨b, off + k, none⟩ := Addr.add_lit ..
    rw [e] at hk1
    refine ⟨b, off, rfl, World.block_lt_of_cell? w _ hk1, A k, L k, C k, hk1, ?_, (hrow k (by omega)).nil⟩
    rw [hget k hk]
    exact (hrow k (by omega)).row.1
  · rw [hget k hk]
    have := (hrow k (by omega)).row
    rw [this.1.len]
    have h2 := this.2
    unfold maxLen at h2
    omega

end Go.Proofs.Ytodbdjkkidfbdaa
