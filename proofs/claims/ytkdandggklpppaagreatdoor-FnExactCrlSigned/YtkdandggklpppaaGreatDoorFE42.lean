import Derived.Test.YtkdandggklpppaaGreatDoorFE31
set_option maxRecDepth 10000
set_option maxHeartbeats 8000000
set_option linter.unusedVariables false
namespace Go.Proofs.YtkdandggklpppaaGreatDoor
open Go.RowKit
theorem below_drewN2 {B:Nat}{w w':World}(h:Below B w w')(n:Nat):Below B w (w'.drewN n):=by
 induction n with
 | zero=>simpa [World.drewN] using h
 | succ n ih=>exact ih.drew
def verP (y:Int)(ms:List Int)(p:Int × Int):Prop:=keyP y∧expP p.1∧expP p.2∧p.1=chalN (movN 1 y p.2 p.1) y ms
instance (y:Int) (ms:List Int) (p:Int × Int):Decidable (verP y ms p):=by unfold verP; infer_instance
theorem movN_bd (r y a b:Int):0≤movN r y a b∧movN r y a b<1000000007:=mod_bd _ (by decide)
theorem implVerify_any (y:Int)(a:Option Addr)(n c:Nat)(ms:List Int)(p:Int × Int)(w:World)(h:Row w a n ms)(hn:n≤1048576)(hc:a=none→c=0) :
  Calls Tryz.prog 153 #[.int .i64 y,.slice a n c,sigv p] w fun e w'=>e=.returned (.bool (decide (verP y ms p)))∧Below w.heap.size w w':=by
 have H0:Hid (Row w a n ms):=h
 clear h
 obtain ⟨E,Z⟩:=p
 have hb0:Below w.heap.size w (w.alloc (.cells #[.int .i64 E,.int .i64 Z] 73)):=(Below.refl _ _).alloc (Nat.le_refl _) _
 have hbx:=boxS_new 73 w E Z
 have q0:=hbx.c0
 have q1:=hbx.c1
 unfold sigv
 by_cases h1:keyP y
 ·by_cases h2:expP E
  ·by_cases h3:expP Z
   ·have HV:Hid ((E == chalN (movN 1 y Z E) y ms)=decide (verP y ms (E,Z))):=by
     show _=_
     by_cases h4:E=chalN (movN 1 y Z E) y ms
     ·rw [decide_eq_true ⟨h1,h2,h3,h4⟩,beq_iff_eq.2 h4]
     ·rw [decide_eq_false (fun hh=>h4 hh.2.2.2),beq_false_of_ne h4]
    have hy0:=h1.1.1.1
    have hy1:=h1.1.1.2
    go_enter Tryz.func153,Tryz.ntmps153
    go_wp2_with fail
    refine (isKey_any y _).mono ?_
    rintro e w1 ⟨rfl,rfl⟩
    rw [decide_eq_true h1]
    go_wp2_with fail
    refine (isExponent_any E _).mono ?_
    rintro e w1 ⟨rfl,rfl⟩
    rw [decide_eq_true h2]
    go_wp2_with fail
    refine (isExponent_any Z _).mono ?_
    rintro e w1 ⟨rfl,rfl⟩
    rw [decide_eq_true h3]
    obtain ⟨w1,hw1⟩:∃ w1,w1=w.alloc (.cells #[.int .i64 E,.int .i64 Z] 73):=⟨_,rfl⟩
    rw [← hw1] at q0 q1 hbx hb0 ⊢
    clear hw1
    go_wp2_with fail
    have hmb:=movN_bd 1 y Z E
    have CH:Hid (_):=implChallenge_any (movN 1 y Z E) y a n c ms w1.drew (H0.out.kept hb0.drew) hn hc (by omega) (by omega)
    have HXD:∀ (w7:World),Below w1.drew.heap.size w1.drew w7→w7.cell? ⟨w.heap.size,0,none⟩=some (.int .i64 E)∧w7.cell? ⟨w.heap.size,1,none⟩=some (.int .i64 Z):=fun w7 h7 =>
     have hk:=(hbx.kept (Below.refl _ _).drew).kept h7
     ⟨hk.c0,hk.c1⟩
    have SS:=HXD w1.drew (Below.refl _ _)
    clear q0 q1
    go_region_held_law (fun w'=>w'.cell? ⟨w.heap.size,0,none⟩=some (.int .i64 E)∧w'.cell? ⟨w.heap.size,1,none⟩=some (.int .i64 Z)) (first | assumption | exact SS | exact SS3)
     (first
      | (go_at_call 157; refine (moved_any 1 y Z E _ (by decide) (by decide) (by omega) hy1 h3 h2).mono ?_; rintro e w2 ⟨rfl,rfl⟩)
      | (go_at_call 156; refine Calls.mono CH.out ?_; rintro e w3 ⟨rfl,hb3⟩; have SS3:=HXD w3 hb3))
    all_goals
     go_wp2
     go_ret
     exact ⟨by rw [← HV.out]; rfl,keep_first hb0.drew hb3⟩
   ·have HV:Hid (decide (verP y ms (E,Z))=false):=decide_eq_false (fun hh=>h3 hh.2.2.1)
    go_enter Tryz.func153,Tryz.ntmps153
    go_wp2_with fail
    refine (isKey_any y _).mono ?_
    rintro e w1 ⟨rfl,rfl⟩
    rw [decide_eq_true h1]
    go_wp2_with fail
    refine (isExponent_any E _).mono ?_
    rintro e w1 ⟨rfl,rfl⟩
    rw [decide_eq_true h2]
    go_wp2_with fail
    refine (isExponent_any Z _).mono ?_
    rintro e w1 ⟨rfl,rfl⟩
    rw [decide_eq_false h3]
    go_wp2
    go_ret
    exact ⟨by rw [HV.out]; rfl,hb0⟩
  ·have HV:Hid (decide (verP y ms (E,Z))=false):=decide_eq_false (fun hh=>h2 hh.2.1)
   go_enter Tryz.func153,Tryz.ntmps153
   go_wp2_with fail
   refine (isKey_any y _).mono ?_
   rintro e w1 ⟨rfl,rfl⟩
   rw [decide_eq_true h1]
   go_wp2_with fail
   refine (isExponent_any E _).mono ?_
   rintro e w1 ⟨rfl,rfl⟩
   rw [decide_eq_false h2]
   go_wp2
   go_ret
   exact ⟨by rw [HV.out]; rfl,hb0⟩
 ·have HV:Hid (decide (verP y ms (E,Z))=false):=decide_eq_false (fun hh=>h1 hh.1)
  go_enter Tryz.func153,Tryz.ntmps153
  go_wp2_with fail
  refine (isKey_any y _).mono ?_
  rintro e w1 ⟨rfl,rfl⟩
  rw [decide_eq_false h1]
  go_wp2
  go_ret
  exact ⟨by rw [HV.out]; rfl,hb0⟩
theorem specVerify_any (y:Int)(a:Option Addr)(n c:Nat)(ms:List Int)(p:Int × Int)(w:World)(h:Row w a n ms)(hn:n≤1048576)(hc:a=none→c=0) :
  Calls Tryz.prog 33 #[.int .i64 y,.slice a n c,sigv p] w fun e w'=>e=.returned (.bool (decide (verP y ms p)))∧Below w.heap.size w w':=by
 have H0:Hid (Row w a n ms):=h
 clear h
 obtain ⟨E,Z⟩:=p
 have hb0:Below w.heap.size w (w.alloc (.cells #[.int .i64 E,.int .i64 Z] 73)):=(Below.refl _ _).alloc (Nat.le_refl _) _
 have hbx:=boxS_new 73 w E Z
 have q0:=hbx.c0
 have q1:=hbx.c1
 unfold sigv
 by_cases h1:memP y
 ·by_cases h1':y=1
  ·have HV:Hid (decide (verP y ms (E,Z))=false):=decide_eq_false (fun hh=>hh.1.2 h1')
   have z1:(y == 1)=true:=beq_iff_eq.2 h1'
   clear h1'
   go_enter Tryz.func33,Tryz.ntmps33
   go_wp2_with fail
   refine (l7Member_any y _).mono ?_
   rintro e w1 ⟨rfl,rfl⟩
   rw [decide_eq_true h1]
   go_wp2
   go_ret
   exact ⟨by rw [HV.out]; rfl,hb0⟩
  have z1:(y == 1)=false:=beq_false_of_ne h1'
  have HKE:Hid (y≠1):=h1'
  clear h1'
  by_cases h2:expP E
  ·by_cases h3:expP Z
   ·have HV:Hid ((E == chalN (gp 4 Z * gp y (500000003 - E) % 1000000007) y ms)=decide (verP y ms (E,Z))):=by
     show _=_
     rw [← movN_one]
     by_cases h4:E=chalN (movN 1 y Z E) y ms
     ·rw [decide_eq_true ⟨⟨h1,HKE.out⟩,h2,h3,h4⟩,beq_iff_eq.2 h4]
     ·rw [decide_eq_false (fun hh=>h4 hh.2.2.2),beq_false_of_ne h4]
    have hy0:=h1.1.1
    have hy1:=h1.1.2
    have hE0:=h2.1
    have hE1:=h2.2
    have hZ0:=h3.1
    have hZ1:=h3.2
    obtain ⟨h10,h11⟩:=gp_bd 4 Z
    obtain ⟨h20,h21⟩:=gp_bd y (500000003 - E)
    obtain ⟨hq0,hq1⟩:=prod_bd h10 h11 h20 h21 (Int.le_refl _)
    obtain ⟨hm0,hm1⟩:=mod_bd (gp 4 Z * gp y (500000003 - E)) (show (1:Int)≤1000000007 by decide)
    go_enter Tryz.func33,Tryz.ntmps33
    go_wp2_with fail
    refine (l7Member_any y _).mono ?_
    rintro e w1 ⟨rfl,rfl⟩
    rw [decide_eq_true h1]
    go_wp2_with fail
    refine (l7Exp_any E _).mono ?_
    rintro e w1 ⟨rfl,rfl⟩
    rw [decide_eq_true h2]
    go_wp2_with fail
    refine (l7Exp_any Z _).mono ?_
    rintro e w1 ⟨rfl,rfl⟩
    rw [decide_eq_true h3]
    obtain ⟨w1,hw1⟩:∃ w1,w1=w.alloc (.cells #[.int .i64 E,.int .i64 Z] 73):=⟨_,rfl⟩
    rw [← hw1] at q0 q1 hbx hb0 ⊢
    clear hw1
    go_wp2_with fail
    go_quiet (first
     | (go_at_call_of 65 (4:Int); refine Calls.quiet_of_same (l7PowP_any 4 Z _ (by decide) (by decide) hZ0 (by omega)))
     | (go_at_call_of 65 y; refine Calls.quiet_of_same (l7PowP_any y (500000003 - E) _ (by omega) hy1 (by omega) (by omega))))
    go_wp2_with fail
    obtain ⟨w2,hw2⟩:∃ w2,w2=w1.drewN nq:=⟨_,rfl⟩
    rw [← hw2]
    have B2:Below w.heap.size w w2:=by rw [hw2]; exact below_drewN2 hb0 _
    have hbx2:BoxS 73 w.heap.size w2 (E,Z):=by rw [hw2]; exact hbx.kept (below_drewN2 (Below.refl _ _) _)
    clear hw2 q0 q1 hb0 hbx
    have CH:Hid (_):=specChallenge_any (gp 4 Z * gp y (500000003 - E) % 1000000007) y a n c ms w2.drew (H0.out.kept B2.drew) hn hc (by omega) (by omega)
    have HXD:∀ (w7:World),Below w2.drew.heap.size w2.drew w7→w7.cell? ⟨w.heap.size,0,none⟩=some (.int .i64 E):=fun w7 h7=>((hbx2.kept (Below.refl _ _).drew).kept h7).c0
    have SS:=HXD w2.drew (Below.refl _ _)
    go_region_held_law (fun w'=>w'.cell? ⟨w.heap.size,0,none⟩=some (.int .i64 E)) (first | assumption | exact SS | exact SS3)
     ((go_at_call 66; refine Calls.mono CH.out ?_; rintro e w3 ⟨rfl,hb3⟩; have SS3:=HXD w3 hb3))
    all_goals
     go_wp2
     go_ret
     exact ⟨by rw [← HV.out]; rfl,keep_first B2.drew hb3⟩
   ·have HV:Hid (decide (verP y ms (E,Z))=false):=decide_eq_false (fun hh=>h3 hh.2.2.1)
    go_enter Tryz.func33,Tryz.ntmps33
    go_wp2_with fail
    refine (l7Member_any y _).mono ?_
    rintro e w1 ⟨rfl,rfl⟩
    rw [decide_eq_true h1]
    go_wp2_with fail
    refine (l7Exp_any E _).mono ?_
    rintro e w1 ⟨rfl,rfl⟩
    rw [decide_eq_true h2]
    go_wp2_with fail
    refine (l7Exp_any Z _).mono ?_
    rintro e w1 ⟨rfl,rfl⟩
    rw [decide_eq_false h3]
    go_wp2
    go_ret
    exact ⟨by rw [HV.out]; rfl,hb0⟩
  ·have HV:Hid (decide (verP y ms (E,Z))=false):=decide_eq_false (fun hh=>h2 hh.2.1)
   go_enter Tryz.func33,Tryz.ntmps33
   go_wp2_with fail
   refine (l7Member_any y _).mono ?_
   rintro e w1 ⟨rfl,rfl⟩
   rw [decide_eq_true h1]
   go_wp2_with fail
   refine (l7Exp_any E _).mono ?_
   rintro e w1 ⟨rfl,rfl⟩
   rw [decide_eq_false h2]
   go_wp2
   go_ret
   exact ⟨by rw [HV.out]; rfl,hb0⟩
 ·have HV:Hid (decide (verP y ms (E,Z))=false):=decide_eq_false (fun hh=>h1 hh.1.1)
  go_enter Tryz.func33,Tryz.ntmps33
  go_wp2_with fail
  refine (l7Member_any y _).mono ?_
  rintro e w1 ⟨rfl,rfl⟩
  rw [decide_eq_false h1]
  go_wp2
  go_ret
  exact ⟨by rw [HV.out]; rfl,hb0⟩
end Go.Proofs.YtkdandggklpppaaGreatDoor
