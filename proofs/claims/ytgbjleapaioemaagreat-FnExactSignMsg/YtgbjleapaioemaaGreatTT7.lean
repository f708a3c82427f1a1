import Derived.Test.YtgbjleapaioemaaGreatTT6
namespace Go.Proofs.YtgbjleapaioemaaGreat
open Go.RowKit

set_option maxRecDepth 10000 in
set_option maxHeartbeats 2000000 in
theorem l8Up_any (a : Option Addr) (n c : Nat) (zs : List Int) (w : World) (h : RowU w a n zs) (hn : n ≤ 1000) :
    Calls Tryz.prog 66 #[.slice a n c] w fun e w' => ∃ ar cr, e = .returned (.slice ar (n / 2) cr) ∧ OwnU w.heap.size w' ar (n / 2) cr (upL zs) ∧ Below w.heap.size w w' := by
  obtain ⟨i0, hi, hz0, hz1, hz2⟩ := info_parts Tryz.infoU
  have H0 : Hid (RowU w a n zs) := h
  have HL : Hid (zs.length = n) := h.len
  clear h
  obtain ⟨m, hm⟩ : ∃ m, m = n / 2 := ⟨_, rfl⟩
  have HM : Hid (m = n / 2) := hm
  have HML : Hid (zs.length / 2 = m) := by show _ = _; rw [HL.out, hm]
  rw [← hm]
  clear hm
  have hm5 : m ≤ 500 := by have := HM.out; omega
  have hoe := ownU_empty w
  have hbe : Below w.heap.size w (w.alloc (.cells #[] 41)) := (Below.refl _ _).alloc (Nat.le_refl _) _
  go_enter Tryz.func66, Tryz.ntmps66
  go_wp2
  go_loopw [3, 4] (fun o i wr => ∃ (k q cc : Nat) (ao : Option Addr), k ≤ m ∧ q = k ∧ i = .int .i64 (2 * (k : Int)) ∧ o = .slice ao q cc ∧ OwnU w.heap.size wr ao q cc ((upL zs).take k) ∧ Below w.heap.size w wr) (fun _ i _ => 2 * m - (intOf i).toNat)
  case atStart => exact ⟨0, 0, 0, _, Nat.zero_le _, rfl, rfl, rfl, hoe, hbe⟩
  case round =>
    obtain ⟨k, q, cc, ao, hk, rfl, rfl, rfl, hor, hbr⟩ := hrel
    have hws := hbr.size
    by_cases hlt : q < m
    · have h2n : 2 * q + 1 < n := by have := HM.out; omega
      obtain ⟨b, off, rfl, hlb, hc0⟩ := H0.out.get (2 * q) (by omega)
      obtain ⟨b', off', hb', _, hc1⟩ := H0.out.get (2 * q + 1) h2n
      simp only [Option.some.injEq, Addr.mk.injEq, and_true] at hb'
      obtain ⟨rfl, rfl⟩ := hb'
      obtain ⟨x, hx⟩ : ∃ x, x = zs.getD (2 * q) 0 := ⟨_, rfl⟩
      obtain ⟨y, hy⟩ : ∃ y, y = zs.getD (2 * q + 1) 0 := ⟨_, rfl⟩
      have hxb := H0.out.rng (2 * q)
      have hyb := H0.out.rng (2 * q + 1)
      rw [← hx] at hc0 hxb
      rw [← hy] at hc1 hyb
      have HV : Hid (hashD ndW [x, y] = upN zs q) := by show _ = _; unfold upN; rw [hx, hy]
      have HXD : ∀ w7, Below wr.heap.size wr w7 → w7.cell? ⟨b, off + 2 * q, none⟩ = some (.int .u64 x) ∧ w7.cell? ⟨b, off + (2 * q + 1), none⟩ = some (.int .u64 y) := fun w7 h7 =>
        have hb7 := keepT hbr h7
        ⟨(hb7.cell (p := ⟨b, off + 2 * q, none⟩) hlb).trans hc0, (hb7.cell (p := ⟨b, off + (2 * q + 1), none⟩) hlb).trans hc1⟩
      have HXW : ∀ w7, Below w.heap.size w w7 → w7.cell? ⟨b, off + 2 * q, none⟩ = some (.int .u64 x) ∧ w7.cell? ⟨b, off + (2 * q + 1), none⟩ = some (.int .u64 y) := fun w7 hb7 =>
        ⟨(hb7.cell (p := ⟨b, off + 2 * q, none⟩) hlb).trans hc0, (hb7.cell (p := ⟨b, off + (2 * q + 1), none⟩) hlb).trans hc1⟩
      have HOR : Hid (∀ w7, Below wr.heap.size wr w7 → w7.ownsRow w.heap.size 41 1 (.slice ao q cc) q (((upL zs).take q).map (Value.int .u64))) := fun w7 h7 => (hor.kept h7).row
      have i3 : 2 * (q : Int) < (n : Int) := by omega
      have i4 : 2 * (q : Int) + 1 < (n : Int) := by omega
      have t1 : (2 * (q : Int)).toNat = 2 * q := by omega
      have t2 : (2 * (q : Int) + 1).toNat = 2 * q + 1 := by omega
      have u1 : IntKind.i64.wrap (2 * (q : Int)) = 2 * (q : Int) := by rw [IntKind.wrap_i64]; omega
      have u2 : IntKind.i64.wrap (2 * (q : Int) + 1) = 2 * (q : Int) + 1 := by rw [IntKind.wrap_i64]; omega
      have u3 : 0 ≤ 2 * (q : Int) := by omega
      have u4 : 0 ≤ 2 * (q : Int) + 1 := by omega
      have SS := HXD _ (Below.refl _ _)
      have hdr : Below wr.heap.size wr wr.drew := (Below.refl _ _).drew
      have SS1 := HXD _ hdr
      clear hx hy hc0 hc1 hor hoe hbe
      go_wp2_with fail
      go_region_held_law (fun w' => w'.cell? ⟨b, off + 2 * q, none⟩ = some (.int .u64 x) ∧ w'.cell? ⟨b, off + (2 * q + 1), none⟩ = some (.int .u64 y)) (first | assumption | exact SS | exact SS1 | exact SS2 | exact SS3 | exact SS4)
        (first
          | (go_at_call 78; refine (l8Node_any x y _ hxb hyb).mono ?_; rintro e w3 ⟨rfl, hb3⟩; rw [HV.out]; have hb37 := keepT hdr hb3; have SS2 := HXD _ hb37; have hal : Below wr.heap.size wr (w3.alloc (.cells #[.int .u64 (upN zs q)] 41)) := hb37.alloc hb37.size _; have SS3 := HXD _ hal; have hor3 := HOR.out _ hal; have hcl := cell_oneU w3 (upN zs q))
          | (refine step_append_ownT rfl (.tmp 13) (.tmp 24) 71 rfl w.heap.size 41 i0 _ 1 8 Tryz.underlying71 hi hz0 hz1 hz2 rfl (by decide) _ q _ rfl hor3 ⟨w3.heap.size, 0, none⟩ 1 1 ([upN zs q].map (Value.int .u64)) rfl rfl hcl (ints_oneCell .u64 [upN zs q]) (by unfold maxLen; omega) (by omega) (by have := hal.size; omega) ?_; intro v4 w4 hv4 hg4; have hbr4 : Below w.heap.size w w4 := (keepT hbr hal).grown hg4 (by have := (keepT hbr hal).size; exact this) (fun k hk => (hor3.lt k hk).1); have SS4 := HXW _ hbr4))
      all_goals
        have e1 : ((upL zs).take q).map (Value.int .u64) ++ [upN zs q].map (Value.int .u64) = ((upL zs).take (q + 1)).map (Value.int .u64) := by rw [take_snoc (upL zs) q (by rw [upL_len, HML.out]; exact hlt), upL_get zs q (by rw [HML.out]; exact hlt), List.map_append]
        rw [e1] at hv4
        obtain ⟨a4, c4, rfl, ho4⟩ := ownU_appended (u64_take (upL_bd zs) _) hv4
        go_wp2
        go_roundw
        case rel => exact ⟨q + 1, q + 1, c4, a4, by omega, rfl, by go_num, rfl, ho4, hbr4⟩
        case measure => simp [intOf]; omega
    · obtain rfl : q = m := by omega
      rw [List.take_of_length_le (by rw [upL_len, HML.out]; exact Nat.le_refl _)] at hor
      have HR : Hid (_) := hor
      have hd : ¬ (2 * (q : Int) + 1 < (n : Int)) := by have := HM.out; omega
      clear hor
      go_wp2
      go_ret
      exact ⟨_, _, rfl, HR.out, hbr⟩

end Go.Proofs.YtgbjleapaioemaaGreat
