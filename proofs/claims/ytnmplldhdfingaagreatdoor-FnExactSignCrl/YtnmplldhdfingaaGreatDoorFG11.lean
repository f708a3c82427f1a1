import Derived.Test.YtnmplldhdfingaaGreatDoorFG10
set_option maxRecDepth 10000
set_option maxHeartbeats 8000000
set_option linter.unusedVariables false
namespace Go.Proofs.YtnmplldhdfingaaGreatDoor
open Go.RowKit
theorem below_dn {B:Nat}{w w':World}(h:Below B w w')(n:Nat):Below B w (w'.drewN n):=by
 induction n with
 | zero=>simpa [World.drewN] using h
 | succ n ih=>exact ih.drew
def kP (h n:Int):Prop:=(0≤h∧h≤5)∧(0≤n∧n≤((2 ^ h.toNat:Nat):Int))
instance (h n:Int):Decidable (kP h n):=by unfold kP; infer_instance
theorem isRight_any (seed h next:Int)(w:World) :
  Calls Tryz.prog 171 #[tkv seed h next] w fun e w'=>e=.returned (.bool (decide (kP h next)))∧Below w.heap.size w w':=by
 obtain ⟨wb,hwb⟩:∃ wb,wb=w.alloc (.cells #[.int .u64 seed,.int .i64 h,.int .i64 next] 87):=⟨_,rfl⟩
 have hbb:Below w.heap.size w wb:=by rw [hwb]; exact (Below.refl _ _).alloc (Nat.le_refl _) _
 have HXD:∀ w7,Below wb.heap.size wb w7→w7.cell? ⟨w.heap.size,0,none⟩=some (.int .u64 seed)∧w7.cell? ⟨w.heap.size,1,none⟩=some (.int .i64 h)∧w7.cell? ⟨w.heap.size,2,none⟩=some (.int .i64 next):=by
  intro w7 h7
  have hbx:w7.heap[w.heap.size]? = some (.cells #[.int .u64 seed,.int .i64 h,.int .i64 next] 87):=(h7.block _ (by rw [hwb]; simp)).trans (by rw [hwb]; exact heap_alloc_new w _)
  exact ⟨(cell_of_row _ w.heap.size 0 _ 87 (0,0) hbx).trans rfl,(cell_of_row _ w.heap.size 1 _ 87 (0,0) hbx).trans rfl,(cell_of_row _ w.heap.size 2 _ 87 (0,0) hbx).trans rfl⟩
 have HWB:Hid (_=_):=hwb
 clear hwb
 have hdr:Below wb.heap.size wb wb.drew:=(Below.refl _ _).drew
 have SS:=HXD _ (Below.refl _ _)
 have SS1:=HXD _ hdr
 rw [tkv]
 by_cases h1:0≤h∧h≤5
 ·obtain ⟨N,hN⟩:=HN.of h1.1 h1.2
  have hNp:=hN.pow.1
  by_cases h2:0≤next∧next≤(N:Int)
  ·have HV:Hid (decide (kP h next)=true):=decide_eq_true ⟨h1,by rw [← hNp]; exact h2⟩
   clear hNp
   go_enter Tryz.func171,Tryz.ntmps171
   go_upto_region 1 with fail
   rw [← HWB.out]
   clear HWB
   go_region_held_law (fun w7=>w7.cell? ⟨w.heap.size,0,none⟩=some (.int .u64 seed)∧w7.cell? ⟨w.heap.size,1,none⟩=some (.int .i64 h)∧w7.cell? ⟨w.heap.size,2,none⟩=some (.int .i64 next)) (first | assumption | exact SS | exact SS1 | exact SS2)
    (first
     | (go_at_call_of 60 h; refine (inBounds_t h 0 5 _ h1).mono ?_; rintro e w2 ⟨rfl,rfl⟩)
     | (go_at_call_of 60 next; refine (inBounds_t next 0 (N:Int) _ h2).mono ?_; rintro e w2 ⟨rfl,rfl⟩)
     | (go_at_call 193; refine (leaves_any seed h next N _ hN).mono ?_; rintro e w3 ⟨rfl,hb3⟩; have hb37:=keepT hdr hb3; have SS2:=HXD _ hb37))
   all_goals
    go_wp2
    go_ret
    exact ⟨by rw [HV.out]; rfl,keepT hbb hb37⟩
  ·have HV:Hid (decide (kP h next)=false):=decide_eq_false (fun hh=>h2 (by rw [hNp]; exact hh.2))
   clear hNp
   go_enter Tryz.func171,Tryz.ntmps171
   go_upto_region 1 with fail
   rw [← HWB.out]
   clear HWB
   go_region_held_law (fun w7=>w7.cell? ⟨w.heap.size,0,none⟩=some (.int .u64 seed)∧w7.cell? ⟨w.heap.size,1,none⟩=some (.int .i64 h)∧w7.cell? ⟨w.heap.size,2,none⟩=some (.int .i64 next)) (first | assumption | exact SS | exact SS1 | exact SS2)
    (first
     | (go_at_call_of 60 h; refine (inBounds_t h 0 5 _ h1).mono ?_; rintro e w2 ⟨rfl,rfl⟩)
     | (go_at_call_of 60 next; refine (inBounds_f next 0 (N:Int) _ h2).mono ?_; rintro e w2 ⟨rfl,rfl⟩)
     | (go_at_call 193; refine (leaves_any seed h next N _ hN).mono ?_; rintro e w3 ⟨rfl,hb3⟩; have hb37:=keepT hdr hb3; have SS2:=HXD _ hb37))
   all_goals
    go_wp2
    go_ret
    exact ⟨by rw [HV.out]; rfl,keepT hbb hb37⟩
 ·have HV:Hid (decide (kP h next)=false):=decide_eq_false (fun hh=>h1 hh.1)
  go_enter Tryz.func171,Tryz.ntmps171
  go_upto_region 1 with fail
  rw [← HWB.out]
  clear HWB
  obtain ⟨q0,q1,q2⟩:=SS
  go_quiet ((go_at_call 60; refine Calls.quiet_of_same (inBounds_f h 0 5 _ h1)))
  go_wp2
  go_ret
  exact ⟨by rw [HV.out]; rfl,below_dn hbb _⟩
theorem l8KeyOk_any (seed h next:Int)(w:World) :
  Calls Tryz.prog 83 #[tkv seed h next] w fun e w'=>e=.returned (.bool (decide (kP h next)))∧Below w.heap.size w w':=by
 have hbb:Below w.heap.size w (w.alloc (.cells #[.int .u64 seed,.int .i64 h,.int .i64 next] 87)):=(Below.refl _ _).alloc (Nat.le_refl _) _
 rw [tkv]
 by_cases h1:0≤h∧h≤5
 ·obtain ⟨N,hN⟩:=HN.of h1.1 h1.2
  have hNp:=hN.pow.1
  have hsh:=hN.sh
  obtain ⟨h10,h15⟩:=h1
  by_cases h2:0≤next∧next≤(N:Int)
  ·have HV:Hid (decide (kP h next)=true):=decide_eq_true ⟨⟨h10,h15⟩,by rw [← hNp]; exact h2⟩
   clear hNp
   go_enter Tryz.func83,Tryz.ntmps83
   go_wp2_with fail
   refine (l1In_t h 0 5 _ ⟨h10,h15⟩).mono ?_
   rintro e w2 ⟨rfl,rfl⟩
   go_wp2_with fail
   refine (l1In_t next 0 _ _ (by first | (rw [hsh]; exact h2) | exact h2)).mono ?_
   rintro e w2 ⟨rfl,rfl⟩
   go_wp2
   go_ret
   exact ⟨by rw [HV.out]; rfl,hbb⟩
  ·have HV:Hid (decide (kP h next)=false):=decide_eq_false (fun hh=>h2 (by rw [hNp]; exact hh.2))
   clear hNp
   go_enter Tryz.func83,Tryz.ntmps83
   go_wp2_with fail
   refine (l1In_t h 0 5 _ ⟨h10,h15⟩).mono ?_
   rintro e w2 ⟨rfl,rfl⟩
   go_wp2_with fail
   refine (l1In_f next 0 _ _ (by first | (rw [hsh]; exact h2) | exact h2)).mono ?_
   rintro e w2 ⟨rfl,rfl⟩
   go_wp2
   go_ret
   exact ⟨by rw [HV.out]; rfl,hbb⟩
 ·have HV:Hid (decide (kP h next)=false):=decide_eq_false (fun hh=>h1 hh.1)
  go_enter Tryz.func83,Tryz.ntmps83
  go_wp2_with fail
  refine (l1In_f h 0 5 _ h1).mono ?_
  rintro e w2 ⟨rfl,rfl⟩
  go_wp2
  go_ret
  exact ⟨by rw [HV.out]; rfl,hbb⟩
end Go.Proofs.YtnmplldhdfingaaGreatDoor
