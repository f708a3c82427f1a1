import Derived.Test.YtoncodoimnideaaGreatDoorH4
import Derived.Test.YtoncodoimnideaaGreatDoorStrs
import Derived.Deep.AppendLies
namespace Go.Proofs.YtoncodoimnideaaGreatDoor
open Go.RowKit

set_option maxRecDepth 10000 in
set_option maxHeartbeats 4000000 in
theorem l5Split_any (s : ByteArray) (c : Int) (w : World) (hs : s.size ≤ 1048576) :
    Calls Tryz.prog 37 #[.string s, .int .u8 c] w fun e w' => ∃ a n cap, e = .returned (.slice a n cap) ∧ n = (cutAt s c).length ∧ Strs w.heap.size w' a n cap (cutAt s c) ∧ Below w.heap.size w w' := by
  obtain ⟨i0, hi, hz0, hz1, hz2⟩ := info_parts Tryz.info9
  obtain ⟨L0, hL0⟩ : ∃ L0, L0 = cutAt s c := ⟨_, rfl⟩
  rw [← hL0]
  have HL : Hid (L0 = cutAt s c) := hL0
  clear hL0
  have HO : Hid ((w.alloc (.cells #[] 9)).ownsRow w.heap.size 9 1 (.slice (some ⟨w.heap.size, 0, none⟩) 0 0) 0 (([] : List ByteArray).map Value.string)) := World.ownsRow_lit w #[] 0 (Nat.le_refl _) (Nat.zero_le _) rfl
  have hbe : Below w.heap.size w (w.alloc (.cells #[] 9)) := (Below.refl _ _).alloc (Nat.le_refl _) _
  go_enter Tryz.func37, Tryz.ntmps37
  go_wp2
  go_loopw [5, 6, 7] (fun o f i wr => ∃ (fr k len cp : Nat) (ao : Option Addr) (L : List ByteArray), fr ≤ s.size + 1 ∧ k ≤ s.size + 1 ∧ o = .slice ao len cp ∧ f = .int .i64 fr ∧ i = .int .i64 k ∧ len ≤ k ∧ Hid (CutInv s c L fr k) ∧ wr.ownsRow w.heap.size 9 1 (.slice ao len cp) len (L.map Value.string) ∧ Below w.heap.size w wr) (fun _ _ i _ => s.size + 1 - (intOf i).toNat)
  case atStart => exact ⟨0, 0, 0, 0, _, [], by omega, by omega, rfl, rfl, rfl, by omega, CutInv.start s c, HO.out, hbe⟩
  case round =>
    clear HO hbe
    obtain ⟨fr, k, len, cp, ao, L, hf, hk, rfl, rfl, rfl, hlk, HC, hor, hbr⟩ := hrel
    have hws : w.heap.size ≤ wr.heap.size := hbr.size
    by_cases hlt : k ≤ s.size
    · have hfk : fr ≤ k := HC.out.from_le hlt
      by_cases heq : k = s.size
      · subst heq
        have HN : Hid (CutInv s c (L ++ [s.extract fr s.size]) (s.size + 1) (s.size + 1)) := HC.out.last
        clear HC
        go_wp2_with (at_builtin; refine wpList_append_own _ rfl _ _ 45 rfl w.heap.size 9 i0 (.string ByteArray.empty) 1 16 Tryz.underlying45 hi hz0 hz1 hz2 rfl (by decide) _ _ _ rfl (hor.alloc _) ⟨wr.heap.size, 0, none⟩ 1 1 [_] rfl rfl (cell_one_newS _ _ _) (by intro u hu; simp at hu; subst hu; rfl) (by unfold maxLen; omega) (by omega) (by simp; omega) ?_; intro v' w1 hown' hgrow' _)
        have hb1 : Below w.heap.size w w1 := below_appS (hbr.alloc hws _) (by simp; omega) (hor.alloc _) hgrow'
        obtain ⟨a', cap', rfl⟩ := ownsS_slice hown'
        have HO2 : Hid (w1.ownsRow w.heap.size 9 1 (.slice a' (len + 1) cap') (len + 1) ((L ++ [s.extract fr s.size]).map Value.string)) := by
          show World.ownsRow _ _ _ _ _ _ _
          rw [List.map_append]
          exact hown'
        clear hown' hgrow'
        go_wp2
        go_roundw
        case rel => exact ⟨s.size + 1, s.size + 1, len + 1, cap', a', L ++ [s.extract fr s.size], by omega, by omega, rfl, rfl, by go_num, by omega, HN, HO2.out, hb1⟩
        case measure => simp [intOf]
      · have hlt2 : k < s.size := by omega
        have hx := cAt_get s k hlt2
        by_cases hc : (s[k].toNat : Int) = c
        · have HN : Hid (CutInv s c (L ++ [s.extract fr k]) (k + 1) (k + 1)) := HC.out.hit hlt2 (hx.trans hc)
          have z : ((s[k].toNat : Int) == c) = true := beq_iff_eq.2 hc
          clear HC hc hx
          go_wp2_with (at_builtin; refine wpList_append_own _ rfl _ _ 45 rfl w.heap.size 9 i0 (.string ByteArray.empty) 1 16 Tryz.underlying45 hi hz0 hz1 hz2 rfl (by decide) _ _ _ rfl (hor.alloc _) ⟨wr.heap.size, 0, none⟩ 1 1 [_] rfl rfl (cell_one_newS _ _ _) (by intro u hu; simp at hu; subst hu; rfl) (by unfold maxLen; omega) (by omega) (by simp; omega) ?_; intro v' w1 hown' hgrow' _)
          have hb1 : Below w.heap.size w w1 := below_appS (hbr.alloc hws _) (by simp; omega) (hor.alloc _) hgrow'
          obtain ⟨a', cap', rfl⟩ := ownsS_slice hown'
          have HO2 : Hid (w1.ownsRow w.heap.size 9 1 (.slice a' (len + 1) cap') (len + 1) ((L ++ [s.extract fr k]).map Value.string)) := by
            show World.ownsRow _ _ _ _ _ _ _
            rw [List.map_append]
            exact hown'
          clear hown' hgrow'
          go_wp2
          go_roundw
          case rel => exact ⟨k + 1, k + 1, len + 1, cap', a', L ++ [s.extract fr k], by omega, by omega, rfl, by go_num, by go_num, by omega, HN, HO2.out, hb1⟩
          case measure => simp [intOf]; omega
        · have HN : Hid (CutInv s c L fr (k + 1)) := HC.out.miss hlt2 (fun h => hc (hx.symm.trans h))
          have z : ((s[k].toNat : Int) == c) = false := beq_false_of_ne hc
          clear HC hc hx
          go_wp2
          go_roundw
          case rel => exact ⟨fr, k + 1, len, cp, ao, L, by omega, by omega, rfl, rfl, by go_num, by omega, HN, hor, hbr⟩
          case measure => simp [intOf]; omega
    · have HD : Hid (L = L0) := by show L = L0; rw [HL.out]; exact HC.out.done (by omega)
      clear HC
      go_wp2
      go_ret
      have e := HD.out
      subst e
      have hl : L.length = len := by simpa using hor.1
      exact ⟨ao, len, cp, rfl, hl.symm, ⟨hor⟩, hbr⟩

end Go.Proofs.YtoncodoimnideaaGreatDoor
