import Derived.Test.YtoncodoimnideaaGreatDoorBase
import Derived.Test.YtoncodoimnideaaGreatDoorW4
import Derived.Lib.SlBytesConst
namespace Go.Proofs.YtoncodoimnideaaGreatDoor
open Go.RowKit

theorem bytes5 : ∀ k, 0 ≤ ([108, 105, 118, 101, 115] : List Int).getD k 0 ∧ ([108, 105, 118, 101, 115] : List Int).getD k 0 ≤ 255 := by
  intro k
  match k with
  | 0 | 1 | 2 | 3 | 4 => decide
  | k + 5 => simp
theorem lives_hash : (hashL [108, 105, 118, 101, 115] != 0) = true := by decide +kernel

theorem row_lives (w : World) : Row (w.alloc (.cells #[.int .u8 108, .int .u8 105, .int .u8 118, .int .u8 101, .int .u8 115] 5 (5, 6))) (some ⟨w.heap.size, 0, none⟩) 5 [108, 105, 118, 101, 115] := by
  refine ⟨rfl, fun k hk => ⟨w.heap.size, 0, rfl, by simp, ?_⟩, bytes5⟩
  rw [Nat.zero_add, cell_of_row _ w.heap.size k _ 5 (5, 6) (heap_alloc_new w _)]
  have hc : k = 0 ∨ k = 1 ∨ k = 2 ∨ k = 3 ∨ k = 4 := by omega
  rcases hc with rfl | rfl | rfl | rfl | rfl <;> rfl

set_option maxRecDepth 10000 in
set_option maxHeartbeats 400000 in
theorem lives_any (w : World) : Calls Tryz.prog 16 #[] w fun e w' => e = .returned (.bool true) ∧ Below w.heap.size w w' := by
  obtain ⟨h, hh⟩ : ∃ h, h = hashL [108, 105, 118, 101, 115] := ⟨_, rfl⟩
  have hl := lives_hash
  rw [← hh] at hl
  have HH : Hid (h = hashL [108, 105, 118, 101, 115]) := hh
  clear hh
  have hcv := Lib.run_convert_bytes_const (P := Tryz.prog) w 22 5 #[.int .u8 108, .int .u8 105, .int .u8 118, .int .u8 101, .int .u8 115] 5 5 Tryz.underlying22 Tryz.underlying5
  have e1 : (h == h) = true := by simp
  go_enter Tryz.func16, Tryz.ntmps16
  have ho := row_lives w
  have hb0 : Below w.heap.size w (w.alloc (.cells #[.int .u8 108, .int .u8 105, .int .u8 118, .int .u8 101, .int .u8 115] 5 (5, 6))) := (Below.refl _ _).alloc (Nat.le_refl _) _
  have HO : Hid (Row (w.alloc (.cells #[.int .u8 108, .int .u8 105, .int .u8 118, .int .u8 101, .int .u8 115] 5 (5, 6))) (some ⟨w.heap.size, 0, none⟩) 5 [108, 105, 118, 101, 115]) := ho
  clear ho
  go_wp2_with fail
  refine (implHash_any _ 5 5 _ _ HO.out (by decide)).mono ?_
  rintro e w1 ⟨rfl, hb1⟩
  rw [← HH.out]
  go_wp2_with fail
  refine (specHash_any _ 5 5 _ _ (HO.out.kept hb1) (by decide)).mono ?_
  rintro e w2 ⟨rfl, hw2⟩
  subst hw2
  rw [← HH.out]
  go_wp2_with fail
  refine (implHash_any _ 5 5 _ _ (HO.out.kept hb1) (by decide)).mono ?_
  rintro e w3 ⟨rfl, hb3⟩
  rw [← HH.out]
  go_wp2_with fail
  go_ret
  have z1 := hb0.size
  have z2 := hb1.size
  exact ⟨rfl, hb0.trans ((hb1.mono z1).trans (hb3.mono (by omega)))⟩

end Go.Proofs.YtoncodoimnideaaGreatDoor
