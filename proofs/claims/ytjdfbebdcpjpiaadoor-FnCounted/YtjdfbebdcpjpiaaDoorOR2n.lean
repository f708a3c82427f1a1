import Derived.Test.YtjdfbebdcpjpiaaDoorR1n
namespace Go.Proofs.YtjdfbebdcpjpiaaDoor
open Go.RowKit

def OidRPost (bs : List Int) (w : World) (e : Ending) (w' : World) : Prop :=
  ∃ (a : Option Addr) (n cap : Nat) (zs : List Int) (ok : Bool), e = .returned (.tuple #[.slice a n cap, .bool ok]) ∧ oidR bs zs ok ∧ n ≤ 2000000 ∧ Own64 w.heap.size w'.heap.size w' a n cap zs ∧ Below w.heap.size w w'
theorem own64_of {B : Nat} {w : World} {a : Option Addr} {n cap : Nat} {zs : List Int} (h : w.ownsRow B 2 1 (.slice a n cap) n (zs.map (Value.int .i64))) : Own64 B w.heap.size w a n cap zs :=
  ⟨h, fun x hx => by subst hx; exact (h.lt x.block rfl).2⟩
theorem own64_nil (B : Nat) (w : World) : Own64 B w.heap.size w none 0 0 [] := own64_of (World.ownsRow_nil _ _ _ _)
theorem own64_lit {B : Nat} (w : World) (h : B ≤ w.heap.size) : Own64 B (w.alloc (.cells #[] 2)).heap.size (w.alloc (.cells #[] 2)) (some ⟨w.heap.size, 0, none⟩) 0 0 [] := own64_of (World.ownsRow_lit w #[] 0 h (Nat.zero_le _) rfl)
theorem owns_caps {B : Nat} {w : World} {a : Option Addr} {n cap : Nat} {xs : List Value} (h : w.ownsRow B 2 1 (.slice a n cap) n xs) : n ≤ cap ∧ cap ≤ 9223372036854775807 := by
  rcases h.2 with ⟨hv, h0⟩ | ⟨g, cap', cur, hv, _, _, h1, h2, _⟩
  · simp only [Value.slice.injEq] at hv
    omega
  · simp only [Value.slice.injEq] at hv
    unfold maxLen at h2
    omega
theorem owns_slice {B : Nat} {w : World} {v : Value} {n : Nat} {xs : List Value} (h : w.ownsRow B 2 1 v n xs) : ∃ a cap, v = .slice a n cap := by
  rcases h.2 with ⟨rfl, rfl⟩ | ⟨g, cap, cur, rfl, _⟩
  · exact ⟨_, _, rfl⟩
  · exact ⟨_, _, rfl⟩
theorem split2_snoc {l : List Int} (h : l ≠ []) (v : Int) : split2 (l ++ [v]) = split2 l ++ [v] := by
  cases l with
  | nil => exact absurd rfl h
  | cons n r => rfl
theorem split2_len {l : List Int} (h : l ≠ []) : (split2 l).length = l.length + 1 := by
  cases l with
  | nil => exact absurd rfl h
  | cons n r => rfl
theorem split2_hi (v : Int) (h : 2 < v / 40) : split2 [v] = [2, v - 80] := by
  have e : min (v / 40) 2 = 2 := by omega
  show [min (v / 40) 2, v - 40 * min (v / 40) 2] = _
  rw [e]
  rfl
theorem split2_lo (v : Int) (h : ¬ 2 < v / 40) : split2 [v] = [v / 40, v - 40 * (v / 40)] := by
  have e : min (v / 40) 2 = v / 40 := by omega
  show [min (v / 40) 2, v - 40 * min (v / 40) 2] = _
  rw [e]
theorem below_app {B : Nat} {w0 w w1 : World} {v : Value} {n : Nat} {xs : List Value} (hb : Below B w0 w) (hB : B ≤ w.heap.size) (h : w.ownsRow B 2 1 v n xs) (hg : w.grownBy w1 v.ownBlock) : Below B w0 w1 :=
  hb.grown hg hB (fun k hk => (h.lt k hk).1)

theorem cell_two_new' (w : World) (x y : Value) (t : TypeId) : ∀ j u, [x, y][j]? = some u → (w.alloc (.cells #[x, y] t)).cell? ((⟨w.heap.size, 0, none⟩ : Addr).add j) = some u := by
  intro j u h
  rw [Addr.add_lit, cell_of_row _ w.heap.size (0 + j) _ t (0, 0) (heap_alloc_new w _)]
  simpa using h

set_option maxRecDepth 10000 in
set_option maxHeartbeats 4000000 in
theorem implOidRead_any (a : Option Addr) (n c : Nat) (bs : List Int) (w : World) (h : Row w a n bs) (hn : n ≤ 1048576) :
    Calls Tryd.prog 8 #[.slice a n c] w (OidRPost bs w) := by
  obtain ⟨i0, hi, hz0, hz1, hz2⟩ := info_parts Tryd.info2
  have HR : Hid (Row w a n bs) := h
  have HL : Hid (bs.length = n) := h.len
  have HBY : Hid (_) := h.byte
  clear h
  go_enter Tryd.func8, Tryd.ntmps8
  go_wp2_with fail
  refine (implGetNum_any a n c bs 0 _ HR.out (by omega)).mono ?_
  rintro e w0 ⟨rfl, hw0⟩
  subst hw0
  obtain ⟨⟨v, q, cd⟩, ht⟩ : ∃ t, t = getN bs 0 := ⟨_, rfl⟩
  have HN0 : Hid (n = 0 → cd ≠ 0) := fun h0 => by
    have hbs : bs = [] := List.eq_nil_of_length_eq_zero (by rw [HL.out]; exact h0)
    subst hbs
    have : getN [] 0 = (0, 0, 1) := by decide
    rw [this] at ht
    simp at ht
    omega
  rw [← ht]
  unfold trip
  dsimp only
  by_cases hcd : cd = 0
  · subst hcd
    have hn0 : 0 < n := by rcases Nat.eq_zero_or_pos n with h | h; exact absurd rfl (HN0.out h); exact h
    have hp0 : (0 : Int) < bs.length := by rw [HL.out]; omega
    obtain ⟨g1, g2, g3, g4, _⟩ := getN_ok bs HBY.out 0 (Int.le_refl _) hp0 (by rw [← ht])
    have HSF := (sofar_zero bs).next hp0 (by rw [← ht])
    rw [← ht] at g1 g2 g3 g4 HSF
    dsimp only at g1 g2 g3 g4 HSF
    rw [HL.out] at g2
    have HS : Hid (Sofar bs [v] q) := HSF
    clear ht hp0 HSF HN0
    by_cases hmin : 2 < v / 40
    · have HO : Hid ((w0.alloc (.cells #[.int .i64 (2), .int .i64 (v - 80)] 2)).ownsRow w0.heap.size 2 1 (.slice (some ⟨w0.heap.size, 0, none⟩) 2 2) 2 ((split2 [v]).map (Value.int .i64))) := by
        show World.ownsRow _ _ _ _ _ _ _
        rw [split2_hi v hmin]
        exact World.ownsRow_lit w0 #[.int .i64 (2), .int .i64 (v - 80)] 2 (Nat.le_refl _) (by decide) rfl
      have hbe : Below w0.heap.size w0 (w0.alloc (.cells #[.int .i64 (2), .int .i64 (v - 80)] 2)) := (Below.refl _ _).alloc (Nat.le_refl _) _
      go_wp2
      go_loopw [5, 8] (fun at' o wr => ∃ (p : Int) (len cp : Nat) (ao : Option Addr) (l : List Int), 0 ≤ p ∧ p ≤ n ∧ at' = .int .i64 p ∧ o = .slice ao len cp ∧ (len : Int) ≤ p + 1 ∧ Hid (l ≠ [] ∧ Sofar bs l p) ∧ wr.ownsRow w0.heap.size 2 1 (.slice ao len cp) len ((split2 l).map (Value.int .i64)) ∧ Below w0.heap.size w0 wr) (fun at' _ _ => n - (intOf at').toNat)
      case atStart => exact ⟨q, 2, 2, _, [v], by omega, g2, rfl, rfl, by omega, ⟨by simp, HS.out⟩, HO.out, hbe⟩
      case round =>
        clear hbe HO HS g1 g2 g3 g4 hmin
        obtain ⟨p, len, cp, ao, l, hp0, hpn, rfl, rfl, hle, HS, hor, hbr⟩ := hrel
        have hws : w0.heap.size ≤ wr.heap.size := hbr.size
        by_cases hlt : p < n
        · have hpl : p < bs.length := by rw [HL.out]; exact hlt
          go_wp2_with fail
          refine (implGetNum_any a n c bs p _ (HR.out.kept hbr) (by omega)).mono ?_
          rintro e w9 ⟨rfl, hw9⟩
          replace hw9 := hw9.symm
          subst hw9
          obtain ⟨⟨v2, q2, cd2⟩, ht⟩ : ∃ t, t = getN bs p := ⟨_, rfl⟩
          rw [← ht]
          unfold trip
          dsimp only
          by_cases hcd2 : cd2 = 0
          · subst hcd2
            obtain ⟨g1, g2, g3, g4, _⟩ := getN_ok bs HBY.out p hp0 hpl (by rw [← ht])
            have HSF := HS.out.2.next hpl (by rw [← ht])
            rw [← ht] at g1 g2 g3 g4 HSF
            dsimp only at g1 g2 g3 g4 HSF
            rw [HL.out] at g2
            have HS2 : Hid (l ++ [v2] ≠ [] ∧ Sofar bs (l ++ [v2]) q2) := ⟨by simp, HSF⟩
            have HSP : Hid (split2 (l ++ [v2]) = split2 l ++ [v2]) := split2_snoc HS.out.1 v2
            clear ht hpl HSF HS
            go_wp2_with (at_builtin; refine wpList_append_own _ rfl _ _ 24 rfl w0.heap.size 2 i0 (.int .i64 0) 1 8 Tryd.underlying24 hi hz0 hz1 hz2 rfl (by decide) _ _ _ rfl (hor.alloc _) ⟨wr.heap.size, 0, none⟩ 1 1 [_] rfl rfl (cell_one_new _ _ _) (by intro u hu; simp at hu; subst hu; rfl) (by unfold maxLen; omega) (by omega) (by simp; omega) ?_; intro v' w1 hown' hgrow' _)
            have hb1 : Below w0.heap.size w0 w1 := below_app (hbr.alloc hws _) (by simp; omega) (hor.alloc _) hgrow'
            obtain ⟨a', cap', rfl⟩ := owns_slice hown'
            have HO2 : Hid (w1.ownsRow w0.heap.size 2 1 (.slice a' (len + 1) cap') (len + 1) ((split2 (l ++ [v2])).map (Value.int .i64))) := by
              show World.ownsRow _ _ _ _ _ _ _
              rw [HSP.out, List.map_append]
              exact hown'
            clear hown' hgrow'
            go_wp2
            go_roundw
            case rel => exact ⟨q2, len + 1, cap', a', l ++ [v2], by omega, g2, rfl, rfl, by omega, HS2, HO2.out, hb1⟩
            case measure => simp [intOf]; omega
          · have HE : Hid (oidR bs [] false) := oidR_none (HS.out.2.fail hpl (by rw [← ht]; exact hcd2))
            have z : (cd2 != 0) = true := bne_iff_ne.2 hcd2
            clear hcd2 ht hpl HS
            go_wp2
            go_ret2
            exact ⟨none, 0, 0, [], false, rfl, HE.out, by omega, own64_nil _ _, hbr⟩
        · obtain ⟨hcp1, hcp2⟩ := owns_caps hor
          have HRD : Hid (Ro bs 0 (some l)) := HS.out.2.done (by rw [HL.out]; omega)
          have HLN : Hid (l ≠ []) := HS.out.1
          have O1 := own64_of hor
          clear HS
          go_wp2_with fail
          refine (implArcsOk_any ao len cp (split2 l) _ O1.toRow (by omega) hcp1 hcp2).mono ?_
          rintro e w4 ⟨ok, rfl, HV, hb4⟩
          have HE : Hid (oidR bs (if ok = true then split2 l else []) ok) := oidR_end HRD.out HLN.out ok HV.out
          have B4 : Below w0.heap.size w0 w4 := hbr.trans (hb4.mono hws)
          have O4 : Hid (Own64 w0.heap.size w4.heap.size w4 ao len cp (split2 l)) := own64_of (ownsRow_below hor hb4)
          clear HV O1
          cases ok with
          | false =>
            have HE2 : Hid (oidR bs [] false) := by show oidR _ _ _; simpa using HE.out
            clear HE
            go_wp2
            go_ret2
            exact ⟨none, 0, 0, [], false, rfl, HE2.out, by omega, own64_nil _ _, B4⟩
          | true =>
            have HE2 : Hid (oidR bs (split2 l) true) := by show oidR _ _ _; simpa using HE.out
            clear HE
            go_wp2
            go_ret2
            exact ⟨ao, len, cp, split2 l, true, rfl, HE2.out, by omega, O4.out, B4⟩
    · have HO : Hid ((w0.alloc (.cells #[.int .i64 (v / 40), .int .i64 (v - 40 * (v / 40))] 2)).ownsRow w0.heap.size 2 1 (.slice (some ⟨w0.heap.size, 0, none⟩) 2 2) 2 ((split2 [v]).map (Value.int .i64))) := by
        show World.ownsRow _ _ _ _ _ _ _
        rw [split2_lo v hmin]
        exact World.ownsRow_lit w0 #[.int .i64 (v / 40), .int .i64 (v - 40 * (v / 40))] 2 (Nat.le_refl _) (by decide) rfl
      have hbe : Below w0.heap.size w0 (w0.alloc (.cells #[.int .i64 (v / 40), .int .i64 (v - 40 * (v / 40))] 2)) := (Below.refl _ _).alloc (Nat.le_refl _) _
      go_wp2
      go_loopw [5, 8] (fun at' o wr => ∃ (p : Int) (len cp : Nat) (ao : Option Addr) (l : List Int), 0 ≤ p ∧ p ≤ n ∧ at' = .int .i64 p ∧ o = .slice ao len cp ∧ (len : Int) ≤ p + 1 ∧ Hid (l ≠ [] ∧ Sofar bs l p) ∧ wr.ownsRow w0.heap.size 2 1 (.slice ao len cp) len ((split2 l).map (Value.int .i64)) ∧ Below w0.heap.size w0 wr) (fun at' _ _ => n - (intOf at').toNat)
      case atStart => exact ⟨q, 2, 2, _, [v], by omega, g2, rfl, rfl, by omega, ⟨by simp, HS.out⟩, HO.out, hbe⟩
      case round =>
        clear hbe HO HS g1 g2 g3 g4 hmin
        obtain ⟨p, len, cp, ao, l, hp0, hpn, rfl, rfl, hle, HS, hor, hbr⟩ := hrel
        have hws : w0.heap.size ≤ wr.heap.size := hbr.size
        by_cases hlt : p < n
        · have hpl : p < bs.length := by rw [HL.out]; exact hlt
          go_wp2_with fail
          refine (implGetNum_any a n c bs p _ (HR.out.kept hbr) (by omega)).mono ?_
          rintro e w9 ⟨rfl, hw9⟩
          replace hw9 := hw9.symm
          subst hw9
          obtain ⟨⟨v2, q2, cd2⟩, ht⟩ : ∃ t, t = getN bs p := ⟨_, rfl⟩
          rw [← ht]
          unfold trip
          dsimp only
          by_cases hcd2 : cd2 = 0
          · subst hcd2
            obtain ⟨g1, g2, g3, g4, _⟩ := getN_ok bs HBY.out p hp0 hpl (by rw [← ht])
            have HSF := HS.out.2.next hpl (by rw [← ht])
            rw [← ht] at g1 g2 g3 g4 HSF
            dsimp only at g1 g2 g3 g4 HSF
            rw [HL.out] at g2
            have HS2 : Hid (l ++ [v2] ≠ [] ∧ Sofar bs (l ++ [v2]) q2) := ⟨by simp, HSF⟩
            have HSP : Hid (split2 (l ++ [v2]) = split2 l ++ [v2]) := split2_snoc HS.out.1 v2
            clear ht hpl HSF HS
            go_wp2_with (at_builtin; refine wpList_append_own _ rfl _ _ 24 rfl w0.heap.size 2 i0 (.int .i64 0) 1 8 Tryd.underlying24 hi hz0 hz1 hz2 rfl (by decide) _ _ _ rfl (hor.alloc _) ⟨wr.heap.size, 0, none⟩ 1 1 [_] rfl rfl (cell_one_new _ _ _) (by intro u hu; simp at hu; subst hu; rfl) (by unfold maxLen; omega) (by omega) (by simp; omega) ?_; intro v' w1 hown' hgrow' _)
            have hb1 : Below w0.heap.size w0 w1 := below_app (hbr.alloc hws _) (by simp; omega) (hor.alloc _) hgrow'
            obtain ⟨a', cap', rfl⟩ := owns_slice hown'
            have HO2 : Hid (w1.ownsRow w0.heap.size 2 1 (.slice a' (len + 1) cap') (len + 1) ((split2 (l ++ [v2])).map (Value.int .i64))) := by
              show World.ownsRow _ _ _ _ _ _ _
              rw [HSP.out, List.map_append]
              exact hown'
            clear hown' hgrow'
            go_wp2
            go_roundw
            case rel => exact ⟨q2, len + 1, cap', a', l ++ [v2], by omega, g2, rfl, rfl, by omega, HS2, HO2.out, hb1⟩
            case measure => simp [intOf]; omega
          · have HE : Hid (oidR bs [] false) := oidR_none (HS.out.2.fail hpl (by rw [← ht]; exact hcd2))
            have z : (cd2 != 0) = true := bne_iff_ne.2 hcd2
            clear hcd2 ht hpl HS
            go_wp2
            go_ret2
            exact ⟨none, 0, 0, [], false, rfl, HE.out, by omega, own64_nil _ _, hbr⟩
        · obtain ⟨hcp1, hcp2⟩ := owns_caps hor
          have HRD : Hid (Ro bs 0 (some l)) := HS.out.2.done (by rw [HL.out]; omega)
          have HLN : Hid (l ≠ []) := HS.out.1
          have O1 := own64_of hor
          clear HS
          go_wp2_with fail
          refine (implArcsOk_any ao len cp (split2 l) _ O1.toRow (by omega) hcp1 hcp2).mono ?_
          rintro e w4 ⟨ok, rfl, HV, hb4⟩
          have HE : Hid (oidR bs (if ok = true then split2 l else []) ok) := oidR_end HRD.out HLN.out ok HV.out
          have B4 : Below w0.heap.size w0 w4 := hbr.trans (hb4.mono hws)
          have O4 : Hid (Own64 w0.heap.size w4.heap.size w4 ao len cp (split2 l)) := own64_of (ownsRow_below hor hb4)
          clear HV O1
          cases ok with
          | false =>
            have HE2 : Hid (oidR bs [] false) := by show oidR _ _ _; simpa using HE.out
            clear HE
            go_wp2
            go_ret2
            exact ⟨none, 0, 0, [], false, rfl, HE2.out, by omega, own64_nil _ _, B4⟩
          | true =>
            have HE2 : Hid (oidR bs (split2 l) true) := by show oidR _ _ _; simpa using HE.out
            clear HE
            go_wp2
            go_ret2
            exact ⟨ao, len, cp, split2 l, true, rfl, HE2.out, by omega, O4.out, B4⟩
  · have HE : Hid (oidR bs [] false) := by
      rcases Nat.eq_zero_or_pos n with h0 | h0
      · exact oidR_empty ((sofar_zero bs).done (by rw [HL.out]; omega))
      · exact oidR_none ((sofar_zero bs).fail (by rw [HL.out]; omega) (by rw [← ht]; exact hcd))
    have z : (cd != 0) = true := bne_iff_ne.2 hcd
    clear hcd ht HN0
    go_wp2
    go_ret2
    exact ⟨none, 0, 0, [], false, rfl, HE.out, by omega, own64_nil _ _, Below.refl _ _⟩

set_option maxRecDepth 10000 in
set_option maxHeartbeats 4000000 in
theorem specOidRead_any (a : Option Addr) (n c : Nat) (bs : List Int) (w : World) (h : Row w a n bs) (hn : n ≤ 1048576) :
    Calls Tryd.prog 13 #[.slice a n c] w (OidRPost bs w) := by
  obtain ⟨i0, hi, hz0, hz1, hz2⟩ := info_parts Tryd.info2
  have HR : Hid (Row w a n bs) := h
  have HL : Hid (bs.length = n) := h.len
  have HBY : Hid (_) := h.byte
  clear h
  have hoe := own64_lit w (Nat.le_refl _)
  have hbe : Below w.heap.size w (w.alloc (.cells #[] 2)) := (Below.refl _ _).alloc (Nat.le_refl _) _
  by_cases hbig : 100 < n
  · have HE : Hid (oidR bs [] false) := oidR_long HBY.out (by rw [HL.out]; exact hbig)
    have hbi : (100 : Int) < (n : Int) := by omega
    have HOE : Hid (_ ∧ _) := ⟨hoe, hbe⟩
    clear hoe hbe
    go_enter Tryd.func13, Tryd.ntmps13
    go_wp2
    go_ret2
    exact ⟨_, 0, 0, [], false, rfl, HE.out, by omega, HOE.out.1, HOE.out.2⟩
  · have hbi : ¬ ((100 : Int) < (n : Int)) := by omega
    go_enter Tryd.func13, Tryd.ntmps13
    go_wp2
    go_loopw [4, 5] (fun o at' wr => ∃ (p : Int) (len cp : Nat) (ao : Option Addr) (l : List Int), 0 ≤ p ∧ p ≤ n ∧ at' = .int .i64 p ∧ o = .slice ao len cp ∧ (len : Int) ≤ p + 1 ∧ (p = 0 → len = 0) ∧ Hid ((p = 0 → l = []) ∧ (p ≠ 0 → l ≠ []) ∧ Sofar bs l p) ∧ wr.ownsRow w.heap.size 2 1 (.slice ao len cp) len ((split2 l).map (Value.int .i64)) ∧ Below w.heap.size w wr) (fun _ at' _ => n - (intOf at').toNat)
    case atStart => exact ⟨0, 0, 0, _, [], Int.le_refl _, by omega, rfl, rfl, by omega, fun _ => rfl, ⟨fun _ => rfl, fun h => absurd rfl h, sofar_zero bs⟩, hoe.row, hbe⟩
    case round =>
      clear hoe hbe
      obtain ⟨p, len, cp, ao, l, hp0, hpn, rfl, rfl, hle, hl0, HS, hor, hbr⟩ := hrel
      have hws : w.heap.size ≤ wr.heap.size := hbr.size
      by_cases hlt : p < n
      · have hpl : p < bs.length := by rw [HL.out]; exact hlt
        go_wp2_with fail
        refine (specGetNum_any a n c bs p _ (HR.out.kept hbr) (by omega)).mono ?_
        rintro e w9 ⟨rfl, hw9⟩
        replace hw9 := hw9.symm
        subst hw9
        obtain ⟨⟨v, q, cd⟩, ht⟩ : ∃ t, t = getN bs p := ⟨_, rfl⟩
        rw [← ht]
        unfold trip
        dsimp only
        by_cases hcd : cd = 0
        · subst hcd
          obtain ⟨g1, g2, g3, g4, _⟩ := getN_ok bs HBY.out p hp0 hpl (by rw [← ht])
          have HSF := HS.out.2.2.next hpl (by rw [← ht])
          rw [← ht] at g1 g2 g3 g4 HSF
          dsimp only at g1 g2 g3 g4 HSF
          rw [HL.out] at g2
          by_cases hpz : p = 0
          · subst hpz
            obtain rfl : len = 0 := hl0 rfl
            have hle0 := HS.out.1 rfl
            subst hle0
            have HS2 : Hid ((q = 0 → [v] = []) ∧ (q ≠ 0 → [v] ≠ []) ∧ Sofar bs [v] q) := ⟨fun h => by omega, fun _ => by simp, HSF⟩
            clear ht hpl HSF HS hl0
            by_cases hmin : 2 < v / 40
            · have HSP : Hid ((split2 [v]).map (Value.int .i64) = [.int .i64 (2), .int .i64 (v - 80)]) := by show _ = _; rw [split2_hi v hmin]; rfl
              go_wp2_with (at_builtin; refine wpList_append_own _ rfl _ _ 24 rfl w.heap.size 2 i0 (.int .i64 0) 1 8 Tryd.underlying24 hi hz0 hz1 hz2 rfl (by decide) _ _ _ rfl (hor.alloc _) ⟨wr.heap.size, 0, none⟩ 2 2 [_, _] rfl rfl (cell_two_new' _ _ _ _) (by intro u hu; simp at hu; rcases hu with rfl | rfl <;> rfl) (by unfold maxLen; omega) (by omega) (by simp; omega) ?_; intro v' w1 hown' hgrow' _)
              have hb1 : Below w.heap.size w w1 := below_app (hbr.alloc hws _) (by simp; omega) (hor.alloc _) hgrow'
              obtain ⟨a', cap', rfl⟩ := owns_slice hown'
              have HO2 : Hid (w1.ownsRow w.heap.size 2 1 (.slice a' (0 + 2) cap') (0 + 2) ((split2 [v]).map (Value.int .i64))) := by
                show World.ownsRow _ _ _ _ _ _ _
                rw [HSP.out]
                exact hown'
              clear hown' hgrow'
              go_wp2
              go_roundw
              case rel => exact ⟨q, 0 + 2, cap', a', [v], by omega, g2, rfl, rfl, by omega, fun h => by omega, HS2, HO2.out, hb1⟩
              case measure => simp [intOf]; omega
            · have HSP : Hid ((split2 [v]).map (Value.int .i64) = [.int .i64 (v / 40), .int .i64 (v - 40 * (v / 40))]) := by show _ = _; rw [split2_lo v hmin]; rfl
              go_wp2_with (at_builtin; refine wpList_append_own _ rfl _ _ 24 rfl w.heap.size 2 i0 (.int .i64 0) 1 8 Tryd.underlying24 hi hz0 hz1 hz2 rfl (by decide) _ _ _ rfl (hor.alloc _) ⟨wr.heap.size, 0, none⟩ 2 2 [_, _] rfl rfl (cell_two_new' _ _ _ _) (by intro u hu; simp at hu; rcases hu with rfl | rfl <;> rfl) (by unfold maxLen; omega) (by omega) (by simp; omega) ?_; intro v' w1 hown' hgrow' _)
              have hb1 : Below w.heap.size w w1 := below_app (hbr.alloc hws _) (by simp; omega) (hor.alloc _) hgrow'
              obtain ⟨a', cap', rfl⟩ := owns_slice hown'
              have HO2 : Hid (w1.ownsRow w.heap.size 2 1 (.slice a' (0 + 2) cap') (0 + 2) ((split2 [v]).map (Value.int .i64))) := by
                show World.ownsRow _ _ _ _ _ _ _
                rw [HSP.out]
                exact hown'
              clear hown' hgrow'
              go_wp2
              go_roundw
              case rel => exact ⟨q, 0 + 2, cap', a', [v], by omega, g2, rfl, rfl, by omega, fun h => by omega, HS2, HO2.out, hb1⟩
              case measure => simp [intOf]; omega
          · have HS2 : Hid ((q = 0 → l ++ [v] = []) ∧ (q ≠ 0 → l ++ [v] ≠ []) ∧ Sofar bs (l ++ [v]) q) := ⟨fun h => by omega, fun _ => by simp, HSF⟩
            have HSP : Hid (split2 (l ++ [v]) = split2 l ++ [v]) := split2_snoc (HS.out.2.1 hpz) v
            have zp : (p == 0) = false := beq_false_of_ne hpz
            clear ht hpl HSF HS hl0
            go_wp2_with (at_builtin; refine wpList_append_own _ rfl _ _ 24 rfl w.heap.size 2 i0 (.int .i64 0) 1 8 Tryd.underlying24 hi hz0 hz1 hz2 rfl (by decide) _ _ _ rfl (hor.alloc _) ⟨wr.heap.size, 0, none⟩ 1 1 [_] rfl rfl (cell_one_new _ _ _) (by intro u hu; simp at hu; subst hu; rfl) (by unfold maxLen; omega) (by omega) (by simp; omega) ?_; intro v' w1 hown' hgrow' _)
            have hb1 : Below w.heap.size w w1 := below_app (hbr.alloc hws _) (by simp; omega) (hor.alloc _) hgrow'
            obtain ⟨a', cap', rfl⟩ := owns_slice hown'
            have HO2 : Hid (w1.ownsRow w.heap.size 2 1 (.slice a' (len + 1) cap') (len + 1) ((split2 (l ++ [v])).map (Value.int .i64))) := by
              show World.ownsRow _ _ _ _ _ _ _
              rw [HSP.out, List.map_append]
              exact hown'
            clear hown' hgrow' zp
            go_wp2
            go_roundw
            case rel => exact ⟨q, len + 1, cap', a', l ++ [v], by omega, g2, rfl, rfl, by omega, fun h => by omega, HS2, HO2.out, hb1⟩
            case measure => simp [intOf]; omega
        · have HE : Hid (oidR bs [] false) := oidR_none (HS.out.2.2.fail hpl (by rw [← ht]; exact hcd))
          have z : (cd != 0) = true := bne_iff_ne.2 hcd
          have HOE : Hid (_) := own64_lit wr hws
          clear hcd ht hpl HS
          go_wp2
          go_ret2
          exact ⟨_, 0, 0, [], false, rfl, HE.out, by omega, HOE.out, hbr.alloc hws _⟩
      · have HRD : Hid (Ro bs 0 (some l)) := HS.out.2.2.done (by rw [HL.out]; omega)
        have HLN : Hid (p = 0 → l = []) := HS.out.1
        have HLN2 : Hid (p ≠ 0 → l ≠ []) := HS.out.2.1
        have O1 := own64_of hor
        clear HS
        go_wp2_with fail
        refine (specArcsOk_any ao len cp (split2 l) _ O1.toRow (by omega)).mono ?_
        rintro e w4 ⟨ok, rfl, HV, hb4⟩
        have HE : Hid (oidR bs (if ok = true then split2 l else []) ok) := by
          by_cases hpz : p = 0
          · have hle0 := HLN.out hpz
            subst hle0
            have : ok = false := by
              cases ok with
              | false => rfl
              | true => have := (HV.out.1 rfl).1.1; simp [split2] at this
            subst this
            show oidR _ _ _
            simpa using oidR_empty HRD.out
          · exact oidR_end HRD.out (HLN2.out hpz) ok HV.out
        have B4 : Below w.heap.size w w4 := hbr.trans (hb4.mono hws)
        have hs4 := B4.size
        have O4 : Hid (Own64 w.heap.size w4.heap.size w4 ao len cp (split2 l)) := own64_of (ownsRow_below hor hb4)
        clear HV O1
        cases ok with
        | false =>
          have HE2 : Hid (oidR bs [] false) := by show oidR _ _ _; simpa using HE.out
          have HOE : Hid (_) := own64_lit w4 hs4
          clear HE
          go_wp2
          go_ret2
          exact ⟨_, 0, 0, [], false, rfl, HE2.out, by omega, HOE.out, B4.alloc hs4 _⟩
        | true =>
          have HE2 : Hid (oidR bs (split2 l) true) := by show oidR _ _ _; simpa using HE.out
          clear HE
          go_wp2
          go_ret2
          exact ⟨ao, len, cp, split2 l, true, rfl, HE2.out, by omega, O4.out, B4⟩

end Go.Proofs.YtjdfbebdcpjpiaaDoor
