import Derived.Test.YtnmplldhdfingaaGreatDoorFG22
set_option maxRecDepth 10000
set_option maxHeartbeats 8000000
set_option linter.unusedVariables false
namespace Go.Proofs.YtnmplldhdfingaaGreatDoor
open Go.RowKit
theorem below_drewN' {B:Nat}{w w':World}(h:Below B w w')(n:Nat):Below B w (w'.drewN n):=by
 induction n with
 | zero=>simpa [World.drewN] using h
 | succ n ih=>exact ih.drew
theorem specUnder_any (a:Option Addr)(n c:Nat)(xs:List PT)(a2:Option Addr)(n2 c2:Nat)(ys:List PT)(w:World)(h:Pts w a n xs)(h2:Pts w a2 n2 ys)(hz:∀ k,k<n→(xs.getD k default).val.size≤1048576)(hz2:∀ k,k<n2→(ys.getD k default).val.size≤1048576) :
  Calls Tryz.prog 119 #[nmv a n c,nmv a2 n2 c2] w (Says (underP xs ys) w):=by
 have hn:=h.max
 have hn2:=h2.max
 obtain ⟨W0,hW0⟩:∃ W0,W0=((w.alloc (.cells #[.slice a n c] 35)).alloc (.cells #[.slice a2 n2 c2] 35)):=⟨_,rfl⟩
 have hB0:Below w.heap.size w W0:=by rw [hW0]; exact two_below _ _ _
 have b0:=two_blocks w (.cells #[.slice a n c] 35) (.cells #[.slice a2 n2 c2] 35)
 rw [← hW0] at b0
 have HN1:Hid (BoxN 35 w.heap.size W0 a n c):=⟨b0.1⟩
 have HN2:Hid (BoxN 35 (w.heap.size+1) W0 a2 n2 c2):=⟨b0.2⟩
 have HK:Hid (Pts W0 a n xs):=h.kept hB0
 have HK2:Hid (Pts W0 a2 n2 ys):=h2.kept hB0
 have HZ:Hid (_):=hz
 have HZ2:Hid (_):=hz2
 have HL:Hid (xs.length=n):=h.len
 have HL2:Hid (ys.length=n2):=h2.len
 have q0:=HN1.out.cell
 clear b0 h h2 hz hz2
 unfold nmv
 go_enter Tryz.func119,Tryz.ntmps119
 go_upto_region 1 with fail
 rw [← hW0]
 clear hW0
 go_wp2_with fail
 refine (specNameOk_any a n c xs _ HK.out HZ.out).mono ?_
 rintro e w1 ⟨b1,rfl,HV1,hb1⟩
 have B1:=hB0.trans (hb1.mono hB0.size)
 cases b1 with
 | false =>
  have HN:Hid (¬ underP xs ys):=fun h=>Bool.false_ne_true (HV1.out.2 h.1)
  clear HV1 q0
  go_wp2
  go_ret
  exact says_f HN.out B1
 | true =>
  have HO1:Hid (nameP xs):=HV1.out.1 rfl
  clear HV1 q0
  have q1:=(HN2.out.kept hb1).cell
  go_wp2_with fail
  refine (specNameOk_any a2 n2 c2 ys _ (HK2.out.kept hb1) HZ2.out).mono ?_
  rintro e w2 ⟨b2,rfl,HV2,hb2⟩
  have D2:Below W0.heap.size W0 w2:=hb1.trans (hb2.mono hb1.size)
  have B2:=hB0.trans (D2.mono hB0.size)
  cases b2 with
  | false =>
   have HN:Hid (¬ underP xs ys):=fun h=>Bool.false_ne_true (HV2.out.2 h.2.1)
   clear HV2 q1
   go_wp2
   go_ret
   exact says_f HN.out B2
  | true =>
   have HO2:Hid (nameP ys):=HV2.out.1 rfl
   clear HV2 q1
   have q0:=(HN1.out.kept D2).cell
   have q1:=(HN2.out.kept D2).cell
   by_cases hnn:n<n2
   ·have HN:Hid (¬ underP xs ys):=fun h=>absurd h.2.2.1 (by rw [HL.out,HL2.out]; omega)
    have hi:(n:Int)<(n2:Int):=by omega
    go_wp2
    go_ret
    exact says_f HN.out B2
   ·have hi:¬ ((n:Int)<(n2:Int)):=by omega
    have hi':n2≤n:=by omega
    go_wp2
    clear hi q0 q1 hb1 hb2
    go_loopw [5] (fun i wr=>∃ k:Nat,k≤n2∧i=.int .i64 k∧Hid (∀ j,j<k→alikeP (xs.getD j default) (ys.getD j default))∧Below W0.heap.size W0 wr) (fun i _=>n2 - (intOf i).toNat)
    case atStart=>exact ⟨0,Nat.zero_le _,rfl,(fun j hj=>absurd hj (Nat.not_lt_zero _)),D2⟩
    case round =>
     obtain ⟨k,hk,rfl,HA,hbr⟩:=hrel
     clear D2 B2
     have d1:=(HN2.out.kept hbr).cell
     by_cases hkn:k<n2
     ·obtain ⟨bn,offn,rfl,hlbn,hcn,_⟩:=HK.out.get k (by omega)
      obtain ⟨bb,offb,rfl,hlbb,hcb,_⟩:=HK2.out.get k hkn
      have hzn:=HZ.out k (by omega)
      have hzb:=HZ2.out k hkn
      obtain ⟨x,hx⟩:∃ x,x=xs.getD k default:=⟨_,rfl⟩
      obtain ⟨y,hy⟩:∃ y,y=ys.getD k default:=⟨_,rfl⟩
      rw [← hx] at hcn hzn
      rw [← hy] at hcb hzb
      have HX:Hid (x=xs.getD k default∧y=ys.getD k default):=⟨hx,hy⟩
      clear hx hy
      obtain ⟨xa,xv⟩:=x
      obtain ⟨ya,yv⟩:=y
      have HSX:Hid (∀ w',Below wr.heap.size wr w'→(fun w'=>w'.cell? ⟨w.heap.size,0,none⟩=some (.slice (some ⟨bn,offn,none⟩) n c)∧w'.cell? ⟨w.heap.size+1,0,none⟩=some (.slice (some ⟨bb,offb,none⟩) n2 c2)∧w'.cell? ⟨bn,offn+k * 2,none⟩=some (.int .i64 xa)∧w'.cell? ⟨bn,offn+k * 2+1,none⟩=some (.string xv)∧w'.cell? ⟨bb,offb+k * 2,none⟩=some (.int .i64 ya)∧w'.cell? ⟨bb,offb+k * 2+1,none⟩=some (.string yv)) w'):=fun w' hw' =>
       have hw2:=hbr.trans (hw'.mono hbr.size)
       have cn:=hcn.of (w':=w') (fun i=>hw2.cell (p:=⟨bn,i,none⟩) hlbn)
       have cb:=hcb.of (w':=w') (fun i=>hw2.cell (p:=⟨bb,i,none⟩) hlbb)
       ⟨(HN1.out.kept hw2).cell,(HN2.out.kept hw2).cell,cn.c0,cn.c1,cb.c0,cb.c1⟩
      have hkni:(k:Int)<(n:Int):=by omega
      have hkn2:(k:Int)<(n2:Int):=by omega
      have HB1:Hid (Below W0.heap.size W0 wr):=hbr
      clear hcn hcb
      have hcur:Below wr.heap.size wr wr.drew:=(Below.refl _ _).drew
      obtain ⟨tx,htx⟩:∃ t,t=FS xv:=⟨_,rfl⟩
      obtain ⟨ty,hty⟩:∃ t,t=FS yv:=⟨_,rfl⟩
      have HTX:Hid (strOfNums (foldL xv)=tx):=htx.symm
      have HTY:Hid (strOfNums (foldL yv)=ty):=hty.symm
      by_cases hE:xa=ya
      ·subst hE
       have SS:=HSX.out _ (Below.refl _ _)
       have t0:(xa != xa)=false:=by simp
       by_cases hF:tx=ty
       ·have HAL:Hid (alikeP ⟨xa,xv⟩ ⟨xa,yv⟩):=⟨rfl,by show FS xv=FS yv; rw [← htx,← hty]; exact hF⟩
        have HA2:Hid (∀ j,j<k+1→alikeP (xs.getD j default) (ys.getD j default)):=fun j hj=>by
         by_cases e:j=k
         ·rw [e,← HX.out.1,← HX.out.2]; exact HAL.out
         ·exact HA.out j (by omega)
        have HTX2:Hid (strOfNums (foldL xv)=ty):=by show _=_; rw [HTX.out,hF]
        clear hF HA HAL htx hty
        go_wp2_with fail
        clear d1
        go_region_held_law (fun w'=>w'.cell? ⟨w.heap.size,0,none⟩=some (.slice (some ⟨bn,offn,none⟩) n c)∧w'.cell? ⟨w.heap.size+1,0,none⟩=some (.slice (some ⟨bb,offb,none⟩) n2 c2)∧w'.cell? ⟨bn,offn+k * 2,none⟩=some (.int .i64 xa)∧w'.cell? ⟨bn,offn+k * 2+1,none⟩=some (.string xv)∧w'.cell? ⟨bb,offb+k * 2,none⟩=some (.int .i64 xa)∧w'.cell? ⟨bb,offb+k * 2+1,none⟩=some (.string yv)) (first | assumption | exact SS | exact SS1 | exact SS2)
         (first
          | (go_at_call_of 118 yv; refine (specFold_any yv _ hzb).mono ?_; rintro e wa ⟨rfl,hb_a⟩; replace hcur:=hcur.trans (hb_a.mono hcur.size); have SS1:=HSX.out _ hcur; rw [HTY.out]; clear hb_a)
          | (go_at_call_of 118 xv; refine (specFold_any xv _ hzn).mono ?_; rintro e wb ⟨rfl,hb_b⟩; replace hcur:=hcur.trans (hb_b.mono hcur.size); have SS2:=HSX.out _ hcur; rw [HTX2.out]; clear hb_b))
        all_goals (
         have hB5:Below W0.heap.size W0 _:=HB1.out.trans (hcur.mono HB1.out.size)
         go_wp2
         go_roundw
         case rel=>exact ⟨k+1,by omega,by go_num,HA2,hB5⟩
         case measure=>simp [intOf]; omega)
       ·have HN:Hid (¬ underP xs ys):=fun h=>hF (by
         have:=(h.2.2.2 k (by rw [HL2.out]; exact hkn)).2
         rw [← HX.out.1,← HX.out.2] at this
         rw [htx,hty]; exact this)
        have z1:¬ tx=ty:=hF
        have z2:(tx.toList == ty.toList)=false:=beq_false_of_ne (fun h=>z1 (by rw [ByteArray.toList_eq,ByteArray.toList_eq] at h; exact ByteArray.ext (Array.ext' h)))
        clear hF HA htx hty
        go_wp2_with fail
        clear d1
        go_region_held_law (fun w'=>w'.cell? ⟨w.heap.size,0,none⟩=some (.slice (some ⟨bn,offn,none⟩) n c)∧w'.cell? ⟨w.heap.size+1,0,none⟩=some (.slice (some ⟨bb,offb,none⟩) n2 c2)∧w'.cell? ⟨bn,offn+k * 2,none⟩=some (.int .i64 xa)∧w'.cell? ⟨bn,offn+k * 2+1,none⟩=some (.string xv)∧w'.cell? ⟨bb,offb+k * 2,none⟩=some (.int .i64 xa)∧w'.cell? ⟨bb,offb+k * 2+1,none⟩=some (.string yv)) (first | assumption | exact SS | exact SS1 | exact SS2)
         (first
          | (go_at_call_of 118 yv; refine (specFold_any yv _ hzb).mono ?_; rintro e wa ⟨rfl,hb_a⟩; replace hcur:=hcur.trans (hb_a.mono hcur.size); have SS1:=HSX.out _ hcur; rw [HTY.out]; clear hb_a)
          | (go_at_call_of 118 xv; refine (specFold_any xv _ hzn).mono ?_; rintro e wb ⟨rfl,hb_b⟩; replace hcur:=hcur.trans (hb_b.mono hcur.size); have SS2:=HSX.out _ hcur; rw [HTX.out]; clear hb_b))
        all_goals (
         have hB5:Below W0.heap.size W0 _:=HB1.out.trans (hcur.mono HB1.out.size)
         go_wp2
         go_ret
         exact says_f HN.out (hB0.trans (hB5.mono hB0.size)))
      ·have HN:Hid (¬ underP xs ys):=fun h=>hE (by
        have:=(h.2.2.2 k (by rw [HL2.out]; exact hkn)).1
        rw [← HX.out.1,← HX.out.2] at this
        exact this)
       have SS:=HSX.out _ (Below.refl _ _)
       have z1:¬ xa=ya:=hE
       have z2:(xa != ya)=true:=bne_iff_ne.2 hE
       have z3:(xa == ya)=false:=beq_false_of_ne hE
       clear hE HA htx hty HTX HTY hcur
       obtain ⟨s0,s1,s2,s3,s4,s5⟩:=SS
       go_wp2_with fail
       clear d1
       go_quiet (fail)
       go_wp2
       go_ret
       exact says_f HN.out (below_drewN' (hB0.trans (HB1.out.mono hB0.size)) _)
     ·obtain rfl:n2=k:=by omega
      have HN:Hid (underP xs ys):=⟨HO1.out,HO2.out,by rw [HL.out,HL2.out]; exact hi',fun j hj=>HA.out j (by rw [HL2.out] at hj; exact hj)⟩
      clear HA
      go_wp2
      go_ret
      exact says_t HN.out (hB0.trans (hbr.mono hB0.size))
end Go.Proofs.YtnmplldhdfingaaGreatDoor
