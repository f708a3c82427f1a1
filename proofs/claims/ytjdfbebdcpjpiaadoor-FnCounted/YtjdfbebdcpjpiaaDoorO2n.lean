import Derived.Test.YtjdfbebdcpjpiaaDoorO1n
import Derived.Deep.RegionHeldLaw
namespace Go.Proofs.YtjdfbebdcpjpiaaDoor
open Go.RowKit

/-- What the first k arcs are written as. -/
def oidT (zs : List Int) (k : Nat) : List Int := putI (40 * zs.getD 0 0 + zs.getD 1 0) ++ ((zs.take k).drop 2).flatMap putI
theorem oidT_two (zs : List Int) : oidT zs 2 = putI (40 * zs.getD 0 0 + zs.getD 1 0) := by
  unfold oidT
  rw [List.drop_eq_nil_of_le (by rw [List.length_take]; omega)]
  simp
theorem oidT_next (zs : List Int) (k : Nat) (h2 : 2 ≤ k) (h : k < zs.length) : oidT zs (k + 1) = oidT zs k ++ putI (zs.getD k 0) := by
  unfold oidT
  have e : zs.getD k 0 = zs[k] := by simp [h]
  rw [List.take_succ_eq_append_getElem h, List.drop_append_of_le_length (by rw [List.length_take]; omega), List.flatMap_append, List.append_assoc, e]
  simp
def oidRes (zs bs : List Int) (ok : Bool) : Prop := (ok = true ∧ arcP zs ∧ bs = oidT zs zs.length) ∨ (ok = false ∧ ¬ arcP zs ∧ bs = [])
theorem oidRes_one {zs a b : List Int} {x y : Bool} (h : oidRes zs a x) (k : oidRes zs b y) : a = b ∧ x = y := by
  rcases h with ⟨rfl, h1, rfl⟩ | ⟨rfl, h1, rfl⟩
  · rcases k with ⟨rfl, _, rfl⟩ | ⟨_, k1, _⟩
    · exact ⟨rfl, rfl⟩
    · exact absurd h1 k1
  · rcases k with ⟨_, k1, _⟩ | ⟨rfl, _, rfl⟩
    · exact absurd k1 h1
    · exact ⟨rfl, rfl⟩
def OidPost (zs : List Int) (w : World) (e : Ending) (w' : World) : Prop :=
  ∃ (a : Option Addr) (n cap : Nat) (bs : List Int) (ok : Bool), e = .returned (.tuple #[.slice a n cap, .bool ok]) ∧ oidRes zs bs ok ∧ n ≤ 1000 ∧ Own w.heap.size w' a n cap bs ∧ Below w.heap.size w w'
theorem own_empty' {B : Nat} (w : World) (h : B ≤ w.heap.size) : Own B (w.alloc (.cells #[] 5)) (some ⟨w.heap.size, 0, none⟩) 0 0 [] :=
  ⟨World.ownsRow_lit w #[] 0 h (Nat.zero_le _) rfl, by simp⟩
theorem drew_below' {W w1 : World} (h : Below W.drew.heap.size W.drew w1) : Below W.heap.size W w1 := (Below.refl _ _).drew.trans (h.mono (by simp))

set_option maxRecDepth 10000 in
set_option maxHeartbeats 4000000 in
theorem implOidBytes_any (a : Option Addr) (n c : Nat) (zs : List Int) (w : World) (h : Row64 w a n zs) (hn : n ≤ 1048576) (hc : n ≤ c) (hc2 : c ≤ 9223372036854775807) :
    Calls Tryd.prog 6 #[.slice a n c] w (OidPost zs w) := by
  obtain ⟨i0, hi, hz0, hz1, hz2⟩ := info_parts Tryd.info5
  have HR : Hid (Row64 w a n zs) := h
  have HL : Hid (zs.length = n) := h.len
  clear h
  go_enter Tryd.func6, Tryd.ntmps6
  go_wp2_with fail
  refine (implArcsOk_any a n c zs _ HR.out (by omega) hc hc2).mono ?_
  rintro e w1 ⟨ok, rfl, HV, hb1⟩
  cases ok with
  | false =>
      have HN : Hid (¬ arcP zs) := fun h => Bool.false_ne_true (HV.out.2 h)
      clear HV
      go_wp2
      go_ret2
      exact ⟨none, 0, 0, [], false, rfl, .inr ⟨rfl, HN.out, rfl⟩, by omega, own_none _ _, hb1⟩
  | true =>
    have HP : Hid (arcP zs) := HV.out.1 rfl
    clear HV
    have hP := HP.out
    obtain ⟨⟨p1, p2⟩, ⟨p3, p4⟩, ⟨p5, p6⟩, p7⟩ := hP
    rw [HL.out] at p1 p2
    have p6' : zs.getD 1 0 ≤ 1000 := by unfold arc2 at p6; split at p6 <;> omega
    have HA : Hid (_) := p7
    obtain ⟨b, off, rfl, hlb, hc0⟩ := HR.out.get 0 (by omega)
    obtain ⟨b', off', hab, _, hc1⟩ := HR.out.get 1 (by omega)
    simp only [Option.some.injEq, Addr.mk.injEq, and_true] at hab
    obtain ⟨rfl, rfl⟩ := hab
    obtain ⟨z0, hz0'⟩ : ∃ z, z = zs.getD 0 0 := ⟨_, rfl⟩
    obtain ⟨z1, hz1'⟩ : ∃ z, z = zs.getD 1 0 := ⟨_, rfl⟩
    rw [← hz0'] at hc0 p3 p4
    rw [← hz1'] at hc1 p5 p6'
    have HZ : Hid (z0 = zs.getD 0 0 ∧ z1 = zs.getD 1 0) := ⟨hz0', hz1'⟩
    have i0' : (0 : Int) < (n : Int) := by omega
    have i1 : (1 : Int) < (n : Int) := by omega
    have HSX : Hid (∀ w', Below w.heap.size w w' → (fun w' => w'.cell? ⟨b, off, none⟩ = some (.int .i64 z0) ∧ w'.cell? ⟨b, off + 1, none⟩ = some (.int .i64 z1)) w') := fun w' hw' => ⟨(hw'.cell (p := ⟨b, off + 0, none⟩) hlb).trans hc0, (hw'.cell (p := ⟨b, off + 1, none⟩) hlb).trans hc1⟩
    have SS := HSX.out _ hb1
    clear hc0 hc1 hz0' hz1' p6 p7
    have hlen := putI_len (40 * z0 + z1) (by omega)
    have HW1 : Hid (IntKind.i64.wrap (40 * z0) = 40 * z0) := by show _ = _; rw [IntKind.wrap_i64]; omega
    have HWR : Hid (IntKind.i64.wrap (IntKind.i64.wrap (40 * z0) + z1) = 40 * z0 + z1) := by
      show _ = _
      have e : IntKind.i64.wrap (40 * z0) = 40 * z0 := by rw [IntKind.wrap_i64]; omega
      rw [e, IntKind.wrap_i64]; omega
    go_wp2_with fail
    go_region_held_law (fun w' => w'.cell? ⟨b, off, none⟩ = some (.int .i64 z0) ∧ w'.cell? ⟨b, off + 1, none⟩ = some (.int .i64 z1)) (first | assumption | exact SS | exact SS1)
      ((go_at_call 26; rw [HWR.out]; refine (implPutNum_any (40 * z0 + z1) _ (by omega)).mono ?_; rintro e w2 ⟨ao, cp, rfl, ho2, hb_2⟩; have hB2 : Below w.heap.size w w2 := hb1.trans ((drew_below' hb_2).mono hb1.size); have SS1 := HSX.out _ hB2; have ho2' := ho2.mono (B' := w.heap.size) (by have := hb1.size; simpa using this); clear hb_2 ho2))
    all_goals (
      clear SS SS1
      try simp only [HW1.out]
      obtain ⟨l2, hl2⟩ : ∃ l, l = (putI (40 * z0 + z1)).length := ⟨_, rfl⟩
      rw [← hl2] at hlen ho2' ⊢
      clear hl2
      have ho3' : Own w.heap.size w2 ao l2 cp (oidT zs 2) := by rw [oidT_two, ← HZ.out.1, ← HZ.out.2]; exact ho2'
      clear ho2'
      have ho2' := ho3'
      clear ho3'
      by_cases h4 : c = 2
      · subst h4
        obtain rfl : n = 2 := by omega
        have HO : Hid (oidRes zs (oidT zs 2) true) := .inl ⟨rfl, HP.out, by rw [HL.out]⟩
        go_wp2
        go_loopw [4, 22] (fun o i wr => i = .int .i64 0 ∧ o = .slice ao l2 cp ∧ Own w.heap.size wr ao l2 cp (oidT zs 2) ∧ Below w.heap.size w wr) (fun _ _ _ => 0)
        case atStart => exact ⟨rfl, rfl, ho2', hB2⟩
        case round =>
          obtain ⟨rfl, rfl, hor, hbr⟩ := hrel
          go_wp2
          go_ret2
          exact ⟨_, _, _, _, true, rfl, HO.out, by omega, hor, hbr⟩
      · obtain ⟨m, hm⟩ : ∃ m, n - 2 = m := ⟨_, rfl⟩
        have HM : Hid (n - 2 = m ∧ n = m + 2) := ⟨hm, by omega⟩
        have hmm : m ≤ 10 := by omega
        have h5 : 2 < c := by omega
        clear h4 hm
        go_wp2
        rw [HM.out.1]
        go_loopw [4, 22] (fun o i wr => ∃ (k len cp : Nat) (ao : Option Addr), k ≤ m ∧ i = .int .i64 k ∧ o = .slice ao len cp ∧ len ≤ 9 * (k + 1) ∧ Own w.heap.size wr ao len cp (oidT zs (k + 2)) ∧ Below w.heap.size w wr) (fun _ i _ => m - (intOf i).toNat)
        case atStart => exact ⟨0, _, _, _, Nat.zero_le _, rfl, rfl, by omega, ho2', hB2⟩
        case round =>
          clear ho2' hB2
          obtain ⟨k, len, cp, ao, hk, rfl, rfl, hle, hor, hbr⟩ := hrel
          by_cases hlt : k < m
          · obtain ⟨b3, off3, hab, _, hck⟩ := HR.out.get (k + 2) (by have := HM.out.2; omega)
            simp only [Option.some.injEq, Addr.mk.injEq, and_true] at hab
            obtain ⟨rfl, rfl⟩ := hab
            obtain ⟨z, hz⟩ : ∃ z, z = zs.getD (k + 2) 0 := ⟨_, rfl⟩
            rw [← hz] at hck
            have hcr : wr.cell? ⟨b, off + 2 + k, none⟩ = some (.int .i64 z) := by
              rw [show off + 2 + k = off + (k + 2) by omega]
              exact (hbr.cell (p := ⟨b, off + (k + 2), none⟩) hlb).trans hck
            have hzb := HA.out (k + 2) (by omega) (by rw [HL.out, HM.out.2]; omega)
            have HNX : Hid (oidT zs (k + 1 + 2) = oidT zs (k + 2) ++ putI z) := by show _ = _; rw [hz]; exact oidT_next zs (k + 2) (by omega) (by rw [HL.out, HM.out.2]; omega)
            rw [← hz] at hzb
            have hlti : (k : Int) < (m : Int) := by omega
            clear hz hck
            go_wp2_with fail
            refine (implPutNum_any z _ (by omega)).mono ?_
            rintro e w3 ⟨a3, c3, rfl, ho3, hb3⟩
            have hO3 := hor.kept hb3
            have hB3 : Below w.heap.size w w3 := hbr.trans (hb3.mono hbr.size)
            have hs3 := hB3.size
            have hl3 := putI_len z (by omega)
            go_wp2_with (at_builtin; refine wpList_append_row _ rfl _ _ 22 rfl w.heap.size i0 Tryd.underlying22 hi hz0 hz1 hz2 _ _ _ rfl hO3.row a3 _ c3 (putI z) rfl ho3.toRow ho3.nil (by omega) hs3 ?_; intro v4 w4 hv4 hg4)
            obtain ⟨a4, c4, rfl, ho4⟩ := own_appended (xs := oidT zs (k + 2)) (ys := putI z) hv4 hO3.byte ho3.byte
            have hB4 : Below w.heap.size w w4 := below_appended hB3 hs3 hO3.row hg4
            go_wp2
            go_roundw
            case rel => exact ⟨k + 1, _, c4, a4, by omega, by go_num, rfl, by omega, by rw [HNX.out]; exact ho4, hB4⟩
            case measure => simp [intOf]; omega
          · obtain rfl : k = m := by omega
            have HO : Hid (oidRes zs (oidT zs (k + 2)) true) := .inl ⟨rfl, HP.out, by rw [HL.out, HM.out.2]⟩
            go_wp2
            go_ret2
            exact ⟨_, _, _, _, true, rfl, HO.out, by omega, hor, hbr⟩)

set_option maxRecDepth 10000 in
set_option maxHeartbeats 4000000 in
theorem specOidBytes_any (a : Option Addr) (n c : Nat) (zs : List Int) (w : World) (h : Row64 w a n zs) (hn : n ≤ 1048576) :
    Calls Tryd.prog 7 #[.slice a n c] w (OidPost zs w) := by
  obtain ⟨i0, hi, hz0, hz1, hz2⟩ := info_parts Tryd.info5
  have HR : Hid (Row64 w a n zs) := h
  have HL : Hid (zs.length = n) := h.len
  clear h
  go_enter Tryd.func7, Tryd.ntmps7
  go_wp2_with fail
  refine (specArcsOk_any a n c zs _ HR.out (by omega)).mono ?_
  rintro e w1 ⟨ok, rfl, HV, hb1⟩
  cases ok with
  | false =>
      have HN : Hid (¬ arcP zs) := fun h => Bool.false_ne_true (HV.out.2 h)
      clear HV
      go_wp2
      go_ret2
      exact ⟨_, 0, 0, [], false, rfl, .inr ⟨rfl, HN.out, rfl⟩, by omega, own_empty' w1 hb1.size, hb1.alloc hb1.size _⟩
  | true =>
    have HP : Hid (arcP zs) := HV.out.1 rfl
    clear HV
    have hP := HP.out
    obtain ⟨⟨p1, p2⟩, ⟨p3, p4⟩, ⟨p5, p6⟩, p7⟩ := hP
    rw [HL.out] at p1 p2
    have p6' : zs.getD 1 0 ≤ 1000 := by unfold arc2 at p6; split at p6 <;> omega
    have HA : Hid (_) := p7
    obtain ⟨b, off, rfl, hlb, hc0⟩ := HR.out.get 0 (by omega)
    obtain ⟨b', off', hab, _, hc1⟩ := HR.out.get 1 (by omega)
    simp only [Option.some.injEq, Addr.mk.injEq, and_true] at hab
    obtain ⟨rfl, rfl⟩ := hab
    obtain ⟨z0, hz0'⟩ : ∃ z, z = zs.getD 0 0 := ⟨_, rfl⟩
    obtain ⟨z1, hz1'⟩ : ∃ z, z = zs.getD 1 0 := ⟨_, rfl⟩
    rw [← hz0'] at hc0 p3 p4
    rw [← hz1'] at hc1 p5 p6'
    have HZ : Hid (z0 = zs.getD 0 0 ∧ z1 = zs.getD 1 0) := ⟨hz0', hz1'⟩
    have i0' : (0 : Int) < (n : Int) := by omega
    have i1 : (1 : Int) < (n : Int) := by omega
    have HSX : Hid (∀ w', Below w.heap.size w w' → (fun w' => w'.cell? ⟨b, off, none⟩ = some (.int .i64 z0) ∧ w'.cell? ⟨b, off + 1, none⟩ = some (.int .i64 z1)) w') := fun w' hw' => ⟨(hw'.cell (p := ⟨b, off + 0, none⟩) hlb).trans hc0, (hw'.cell (p := ⟨b, off + 1, none⟩) hlb).trans hc1⟩
    have SS := HSX.out _ hb1
    clear hc0 hc1 hz0' hz1' p6 p7
    have hlen := putI_len (40 * z0 + z1) (by omega)
    have HW1 : Hid (IntKind.i64.wrap (40 * z0) = 40 * z0) := by show _ = _; rw [IntKind.wrap_i64]; omega
    have HWR : Hid (IntKind.i64.wrap (IntKind.i64.wrap (40 * z0) + z1) = 40 * z0 + z1) := by
      show _ = _
      have e : IntKind.i64.wrap (40 * z0) = 40 * z0 := by rw [IntKind.wrap_i64]; omega
      rw [e, IntKind.wrap_i64]; omega
    go_wp2_with fail
    go_region_held_law (fun w' => w'.cell? ⟨b, off, none⟩ = some (.int .i64 z0) ∧ w'.cell? ⟨b, off + 1, none⟩ = some (.int .i64 z1)) (first | assumption | exact SS | exact SS1)
      ((go_at_call 28; rw [HWR.out]; refine (specPutNum_any (40 * z0 + z1) _ (by omega)).mono ?_; rintro e w2 ⟨ao, cp, rfl, ho2, hb_2⟩; have hB2 : Below w.heap.size w w2 := hb1.trans ((drew_below' hb_2).mono hb1.size); have SS1 := HSX.out _ hB2; have ho2' := ho2.mono (B' := w.heap.size) (by have := hb1.size; simpa using this); clear hb_2 ho2))
    all_goals (
      clear SS SS1
      try simp only [HW1.out]
      obtain ⟨l2, hl2⟩ : ∃ l, l = (putI (40 * z0 + z1)).length := ⟨_, rfl⟩
      rw [← hl2] at hlen ho2' ⊢
      clear hl2
      have ho3' : Own w.heap.size w2 ao l2 cp (oidT zs 2) := by rw [oidT_two, ← HZ.out.1, ← HZ.out.2]; exact ho2'
      clear ho2'
      have ho2' := ho3'
      clear ho3'
      go_wp2
      go_loopw [4, 5] (fun o i wr => ∃ (k len cp : Nat) (ao : Option Addr), 2 ≤ k ∧ k ≤ n ∧ i = .int .i64 k ∧ o = .slice ao len cp ∧ len ≤ 9 * k ∧ Own w.heap.size wr ao len cp (oidT zs k) ∧ Below w.heap.size w wr) (fun _ i _ => n - (intOf i).toNat)
      case atStart => exact ⟨2, _, _, _, Nat.le_refl _, p1, rfl, rfl, by omega, ho2', hB2⟩
      case round =>
        clear ho2' hB2
        obtain ⟨k, len, cp, ao, hk2, hk, rfl, rfl, hle, hor, hbr⟩ := hrel
        by_cases hlt : k < n
        · obtain ⟨b3, off3, hab, _, hck⟩ := HR.out.get k hlt
          simp only [Option.some.injEq, Addr.mk.injEq, and_true] at hab
          obtain ⟨rfl, rfl⟩ := hab
          obtain ⟨z, hz⟩ : ∃ z, z = zs.getD k 0 := ⟨_, rfl⟩
          rw [← hz] at hck
          have hcr : wr.cell? ⟨b, off + k, none⟩ = some (.int .i64 z) := (hbr.cell (p := ⟨b, off + k, none⟩) hlb).trans hck
          have hzb := HA.out k hk2 (by rw [HL.out]; exact hlt)
          have HNX : Hid (oidT zs (k + 1) = oidT zs k ++ putI z) := by show _ = _; rw [hz]; exact oidT_next zs k hk2 (by rw [HL.out]; exact hlt)
          rw [← hz] at hzb
          have hlti : (k : Int) < (n : Int) := by omega
          clear hz hck
          go_wp2_with fail
          refine (specPutNum_any z _ (by omega)).mono ?_
          rintro e w3 ⟨a3, c3, rfl, ho3, hb3⟩
          have hO3 := hor.kept hb3
          have hB3 : Below w.heap.size w w3 := hbr.trans (hb3.mono hbr.size)
          have hs3 := hB3.size
          have hl3 := putI_len z (by omega)
          go_wp2_with (at_builtin; refine wpList_append_row _ rfl _ _ 22 rfl w.heap.size i0 Tryd.underlying22 hi hz0 hz1 hz2 _ _ _ rfl hO3.row a3 _ c3 (putI z) rfl ho3.toRow ho3.nil (by omega) hs3 ?_; intro v4 w4 hv4 hg4)
          obtain ⟨a4, c4, rfl, ho4⟩ := own_appended (xs := oidT zs k) (ys := putI z) hv4 hO3.byte ho3.byte
          have hB4 : Below w.heap.size w w4 := below_appended hB3 hs3 hO3.row hg4
          go_wp2
          go_roundw
          case rel => exact ⟨k + 1, _, c4, a4, by omega, by omega, by go_num, rfl, by omega, by rw [HNX.out]; exact ho4, hB4⟩
          case measure => simp [intOf]; omega
        · obtain rfl : n = k := by omega
          have HO : Hid (oidRes zs (oidT zs n) true) := .inl ⟨rfl, HP.out, by rw [HL.out]⟩
          go_wp2
          go_ret2
          exact ⟨_, _, _, _, true, rfl, HO.out, by omega, hor, hbr⟩)

end Go.Proofs.YtjdfbebdcpjpiaaDoor
