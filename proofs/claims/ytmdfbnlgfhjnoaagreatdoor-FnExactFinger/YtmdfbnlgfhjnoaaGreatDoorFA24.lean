import Derived.Test.YtmdfbnlgfhjnoaaGreatDoorFA08
import Derived.Test.YtmdfbnlgfhjnoaaGreatDoorFA23
import Derived.Test.YtmdfbnlgfhjnoaaGreatDoorFA06
set_option maxRecDepth 10000
set_option maxHeartbeats 8000000
set_option linter.unusedVariables false
namespace Go.Proofs.YtmdfbnlgfhjnoaaGreatDoor
open Go.RowKit
structure GE where
 g:GT
 parts:List PT
instance:Inhabited GE:=⟨⟨⟨0,⟨#[]⟩,0,0⟩,[]⟩⟩
structure Cells5 (w:World)(b o:Nat)(an:Option Addr)(nn cn:Nat)(x:GE):Prop where
 c0:w.cell? ⟨b,o,none⟩=some (.int .i64 x.g.kind)
 c1:w.cell? ⟨b,o+1,none⟩=some (.string x.g.text)
 c2:w.cell? ⟨b,o+2,none⟩=some (.int .i64 x.g.addr)
 c3:w.cell? ⟨b,o+3,none⟩=some (.int .i64 x.g.bits)
 c4:w.cell? ⟨b,o+4,none⟩=some (.slice an nn cn)
theorem Cells5.of {w w':World}{b o:Nat}{a:Option Addr}{n c:Nat}{x:GE}(h:Cells5 w b o a n c x)(hc:∀ i,w'.cell? ⟨b,i,none⟩=w.cell? ⟨b,i,none⟩):Cells5 w' b o a n c x :=
 ⟨(hc _).trans h.c0,(hc _).trans h.c1,(hc _).trans h.c2,(hc _).trans h.c3,(hc _).trans h.c4⟩
structure Ges (w:World)(a:Option Addr)(n:Nat)(xs:List GE):Prop where
 len:xs.length=n
 max:n≤9223372036854775807
 get:∀ k,k<n→∃ b off an nn cn,a=some ⟨b,off,none⟩∧b<w.heap.size∧Cells5 w b (off+k * 5) an nn cn (xs.getD k default)∧Pts w an nn (xs.getD k default).parts∧(xs.getD k default).g.text.size≤9223372036854775807
theorem Ges.kept {w w':World}{a:Option Addr}{n:Nat}{xs:List GE}(h:Ges w a n xs)(hb:Below w.heap.size w w'):Ges w' a n xs:=by
 refine ⟨h.len,h.max,fun k hk=>?_⟩
 obtain ⟨b,off,an,nn,cn,ha,hlt,hc,hp,hs⟩:=h.get k hk
 exact ⟨b,off,an,nn,cn,ha,Nat.lt_of_lt_of_le hlt hb.size,hc.of (fun i=>hb.cell (p:=⟨b,i,none⟩) hlt),hp.kept hb,hs⟩
def GeOk (x:GE):Prop:=x.g.text.size≤1048576∧x.parts.length≤1048576∧∀ k,k<x.parts.length→(x.parts.getD k default).val.size≤1048576
theorem szGenNameS_any (a:Option Addr)(n cap:Nat)(xs:List GE)(lf:Int)(w:World)(h:Ges w a n xs)(hl0:0≤lf)(hl1:lf≤1048576) :
  Calls Tryz.prog 30 #[.slice a n cap,.int .i64 lf] w fun e w'=>∃ r,e=.returned (.int .i64 r)∧(r<0∨(0≤r∧r≤1048576∧n≤1048576∧∀ k,k<n→GeOk (xs.getD k default)))∧Below w.heap.size w w':=by
 have H0:Hid (Ges w a n xs):=h
 have hn:=h.max
 clear h
 by_cases hlt:(n:Int)≤lf
 ·go_enter Tryz.func30,Tryz.ntmps30
  go_wp2
  go_loopw [1,5] (fun l i wr=>∃ (k:Nat) (left:Int),k≤n∧i=.int .i64 k∧l=.int .i64 left∧0≤left∧left≤1048576∧Hid (∀ j,j<k→GeOk (xs.getD j default))∧Below w.heap.size w wr) (fun _ i _=>n - (intOf i).toNat)
  case atStart=>exact ⟨0,lf - n,Nat.zero_le _,rfl,rfl,by omega,by omega,fun j hj=>absurd hj (Nat.not_lt_zero _),Below.refl _ _⟩
  case round =>
   obtain ⟨k,left,hk,rfl,rfl,h0,h1,HA,hbr⟩:=hrel
   by_cases hkn:k<n
   ·obtain ⟨b,off,an,nn,cn,rfl,hlb,hc,hp,hs⟩:=H0.out.get k hkn
    obtain ⟨y,hy⟩:∃ y,y=xs.getD k default:=⟨_,rfl⟩
    rw [← hy] at hc hp hs
    have HY:Hid (y=xs.getD k default):=hy
    obtain ⟨c0,c1,c2,c3,c4⟩:=hc.of (w':=wr) (fun i=>hbr.cell (p:=⟨b,i,none⟩) hlb)
    have HP:Hid (Pts wr an nn y.parts):=hp.kept hbr
    have HN:Hid (y.parts.length=nn):=hp.len
    have hkni:(k:Int)<(n:Int):=by omega
    clear hc hy hp
    go_wp2_with fail
    refine (szGenName_any y.g an nn cn y.parts left _ HP.out hs h0 h1).mono ?_
    rintro e w2 ⟨r,rfl,hr,hb2⟩
    have hb2':Below w.heap.size w w2:=hbr.trans (hb2.mono hbr.size)
    by_cases hneg:r<0
    ·clear hr
     go_wp2
     go_ret
     exact ⟨_,rfl,.inl (by decide),hb2'⟩
    ·have hr1:0≤r:=by omega
     have hr2:r≤1048576:=by omega
     have HR:Hid (GeOk y):=by
      rcases hr with h | ⟨_,_,h3,h4,h5⟩
      ·exact absurd h hneg
      ·exact ⟨h3,by rw [HN.out]; exact h4,fun k hk=>h5 k (by rw [← HN.out]; exact hk)⟩
     clear hr
     go_wp2
     go_roundw
     case rel =>
      refine ⟨k+1,r,by omega,by go_num,rfl,hr1,hr2,fun j hj=>?_,hb2'⟩
      by_cases hjk:j=k
      ·subst hjk; rw [← HY.out]; exact HR.out
      ·exact HA.out j (by omega)
     case measure=>simp [intOf]; omega
   ·obtain rfl:n=k:=by omega
    go_wp2
    go_ret
    exact ⟨_,rfl,.inr ⟨h0,h1,by omega,HA.out⟩,hbr⟩
 ·go_enter Tryz.func30,Tryz.ntmps30
  go_wp2
  go_ret
  exact ⟨_,rfl,.inl (by decide),Below.refl _ _⟩
theorem eqGenNameS_same (a b:Option Addr)(n ca cb:Nat)(xs:List GE)(w:World)(h:Ges w a n xs)(h2:Ges w b n xs) :
  Calls Tryz.prog 49 #[.slice a n ca,.slice b n cb] w fun e w'=>e=.returned (.bool true)∧Below w.heap.size w w':=by
 have HK:Hid (Ges w a n xs):=h
 have HK2:Hid (Ges w b n xs):=h2
 have hn:=h.max
 clear h h2
 go_enter Tryz.func49,Tryz.ntmps49
 go_wp2
 go_loopw [5] (fun i wr=>∃ k:Nat,k≤n∧i=.int .i64 k∧Below w.heap.size w wr) (fun i _=>n - (intOf i).toNat)
 case atStart=>exact ⟨0,Nat.zero_le _,rfl,Below.refl _ _⟩
 case round =>
  obtain ⟨k,hk,rfl,hbr⟩:=hrel
  by_cases hkn:k<n
  ·obtain ⟨b1,off1,an,nn,cn,rfl,hl1,hc1,hp1,_⟩:=HK.out.get k hkn
   obtain ⟨b2,off2,am,mm,cm,rfl,hl2,hc2,hp2,_⟩:=HK2.out.get k hkn
   obtain ⟨y,hy⟩:∃ y,y=xs.getD k default:=⟨_,rfl⟩
   rw [← hy] at hc1 hc2 hp1 hp2
   clear hy
   obtain rfl:mm=nn:=by rw [← hp2.len,← hp1.len]
   obtain ⟨c0,c1,c2,c3,c4⟩:=hc1.of (w':=wr) (fun i=>hbr.cell (p:=⟨b1,i,none⟩) hl1)
   obtain ⟨d0,d1,d2,d3,d4⟩:=hc2.of (w':=wr) (fun i=>hbr.cell (p:=⟨b2,i,none⟩) hl2)
   have HP1:Hid (Pts wr.drew an mm y.parts):=hp1.kept hbr.drew
   have HP2:Hid (Pts wr.drew am mm y.parts):=hp2.kept hbr.drew
   have hkni:(k:Int)<(n:Int):=by omega
   have hs:=hbr.size
   clear hc1 hc2 hp1 hp2
   go_wp2_with fail
   go_region_with (go_at_call 113; refine (eqGenName_same y.g an am mm cn cm y.parts _ HP1.out HP2.out).mono ?_; rintro e w2 ⟨rfl,hb2⟩)
   all_goals
    have b5:Below w.heap.size w w2:=hbr.drew.trans (hb2.mono hs)
    go_wp2
    go_roundw
    case rel=>exact ⟨k+1,by omega,by go_num,b5⟩
    case measure=>simp [intOf]; omega
  ·go_wp2
   go_ret
   exact ⟨rfl,hbr⟩
open Go.RowKit
theorem genP_1 {g:GT}{xs:List PT}(hk:g.kind=1)(hb:bareB g xs.length=true)(h0:g.bits=0):genP g xs↔hostP g.text true:=by
 obtain ⟨q1,q2⟩:=bare_12 hb (.inl hk)
 unfold genP
 constructor
 ·rintro (⟨_,_,h⟩ | ⟨h,_⟩ | ⟨h,_⟩ | ⟨h,_⟩)
  ·exact h
  all_goals omega
 ·exact fun h=>.inl ⟨hk,⟨q1,h0,q2⟩,h⟩
theorem genP_2 {g:GT}{xs:List PT}(hk:g.kind=2)(hb:bareB g xs.length=true)(h0:g.bits=0):genP g xs↔mailP g.text:=by
 obtain ⟨q1,q2⟩:=bare_12 hb (.inr hk)
 unfold genP
 constructor
 ·rintro (⟨h,_⟩ | ⟨_,_,h⟩ | ⟨h,_⟩ | ⟨h,_⟩)
  ·omega
  ·exact h
  all_goals omega
 ·exact fun h=>.inr (.inl ⟨hk,⟨q1,h0,q2⟩,h⟩)
theorem genP_3 {g:GT}{xs:List PT}(hk:g.kind=3)(hb:bareB g xs.length=true)(h0:g.bits=0):genP g xs↔(0≤g.addr∧g.addr≤4294967295):=by
 obtain ⟨q1,q2⟩:=bare_3 hb hk
 unfold genP
 constructor
 ·rintro (⟨h,_⟩ | ⟨h,_⟩ | ⟨_,_,h,_⟩ | ⟨h,_⟩)
  ·omega
  ·omega
  ·exact h
  ·omega
 ·exact fun h=>.inr (.inr (.inl ⟨hk,⟨q1,q2⟩,h,h0⟩))
theorem genP_4 {g:GT}{xs:List PT}(hk:g.kind=4)(hb:bareB g xs.length=true)(h0:g.bits=0):genP g xs↔(nameP xs∧0<xs.length):=by
 obtain ⟨q1,q2⟩:=bare_4 hb hk
 unfold genP
 constructor
 ·rintro (⟨h,_⟩ | ⟨h,_⟩ | ⟨h,_⟩ | ⟨_,_,h⟩)
  ·omega
  ·omega
  ·omega
  ·exact h
 ·exact fun h=>.inr (.inr (.inr ⟨hk,⟨q1,q2,h0⟩,h⟩))
theorem genP_bits {g:GT}{xs:List PT}(h:genP g xs):g.bits=0:=by
 rcases h with ⟨_,⟨_,h,_⟩,_⟩ | ⟨_,⟨_,h,_⟩,_⟩ | ⟨_,_,_,h⟩ | ⟨_,⟨_,_,h⟩,_⟩ <;> exact h
theorem genP_kind {g:GT}{xs:List PT}(h:genP g xs):g.kind=1∨g.kind=2∨g.kind=3∨g.kind=4:=by
 rcases h with ⟨h,_⟩ | ⟨h,_⟩ | ⟨h,_⟩ | ⟨h,_⟩ <;> omega
theorem baseP_kind {g:GT}{xs:List PT}(h:baseP g xs):g.kind=1∨g.kind=2∨g.kind=3∨g.kind=4:=by
 rcases h with ⟨h,_⟩ | ⟨h,_⟩ | ⟨h,_⟩ | ⟨h,_⟩ <;> omega
theorem specGenOk_any (g:GT)(a:Option Addr)(n c:Nat)(xs:List PT)(w:World)(h:Pts w a n xs)(hz:∀ k,k<n→(xs.getD k default).val.size≤1048576)(hs:g.text.size≤1048576) :
  Calls Tryz.prog 133 #[gnv g a n c] w (SaysB (genP g xs) w):=by
 obtain ⟨P,hP⟩:∃ P,P=genP g xs:=⟨_,rfl⟩
 rw [← hP]
 have HP:Hid (P=genP g xs):=hP
 have HK:Hid (Pts w a n xs):=h
 have HZ:Hid (_):=hz
 have hl:=h.len
 have hmx:=h.max
 clear hP h hz
 have hbl:Below w.heap.size w (w.alloc (.cells #[.int .i64 g.kind,.string g.text,.int .i64 g.addr,.int .i64 g.bits,.slice a n c] 127)):=(Below.refl _ _).alloc (Nat.le_refl _) _
 have hbx:=boxG_new 127 w g a n c
 have LB:=l6Bare_any g a n c
 unfold gnv at LB ⊢
 go_enter Tryz.func133,Tryz.ntmps133
 go_wp2_with fail
 refine (LB _).mono ?_
 rintro e w1 ⟨rfl,hb1⟩
 have B1:Below w.heap.size w w1:=hbl.trans (hb1.mono hbl.size)
 obtain ⟨p0,p1,p2,p3,p4⟩:=(hbx.kept hb1).cells
 have hlt:w.heap.size<w1.heap.size:=Nat.lt_of_lt_of_le (by simp) hb1.size
 obtain ⟨B,hB⟩:∃ B,B=bareB g n:=⟨_,rfl⟩
 rw [← hB]
 clear LB hbx hbl hb1
 cases B with
 | false =>
  have HN:Hid (¬ P):=by show ¬ P; rw [HP.out]; exact (bare_f (by rw [hl]; exact hB.symm)).1
  clear hB HP HK HZ
  go_wp2
  go_ret
  exact saysB_f HN.out B1
 | true =>
  have HBB:Hid (bareB g xs.length=true):=by show _=true; rw [hl]; exact hB.symm
  clear hB
  by_cases hb0:g.bits=0
  ·have zb:(g.bits != 0)=false:=by simp [hb0]
   by_cases k1:g.kind=1
   ·have HI:Hid (P↔hostP g.text true):=by show P↔_; rw [HP.out]; exact genP_1 k1 HBB.out hb0
    have e1:(g.kind == 1)=true:=beq_iff_eq.2 k1
    clear HP HK HZ HBB hb0 k1
    go_wp2_with fail
    refine (specHostOk_any g.text true _).mono ?_
    rintro e w2 ⟨b,rfl,HV,hb2⟩
    have B2:Below w.heap.size w w2:=B1.trans (hb2.mono B1.size)
    go_wp2
    go_ret
    exact ⟨b,rfl,HV.out.trans HI.out.symm,B2⟩
   have e1:(g.kind == 1)=false:=beq_false_of_ne k1
   by_cases k2:g.kind=2
   ·have HI:Hid (P↔mailP g.text):=by show P↔_; rw [HP.out]; exact genP_2 k2 HBB.out hb0
    have e2:(g.kind == 2)=true:=beq_iff_eq.2 k2
    clear HP HK HZ HBB hb0 k1 k2
    go_wp2_with fail
    refine (l6MailOk_any g.text _ hs).mono ?_
    rintro e w2 ⟨b,rfl,HV,hb2⟩
    have B2:Below w.heap.size w w2:=B1.trans (hb2.mono B1.size)
    go_wp2
    go_ret
    exact ⟨b,rfl,HV.out.trans HI.out.symm,B2⟩
   have e2:(g.kind == 2)=false:=beq_false_of_ne k2
   by_cases k3:g.kind=3
   ·have HI:Hid (P↔(0≤g.addr∧g.addr≤4294967295)):=by show P↔_; rw [HP.out]; exact genP_3 k3 HBB.out hb0
    have e3:(g.kind == 3)=true:=beq_iff_eq.2 k3
    clear HP HK HZ HBB hb0 k1 k2 k3
    go_wp2_with fail
    refine (l1In_says g.addr 0 4294967295 _).mono ?_
    rintro e w2 ⟨b,rfl,HV,hw2⟩
    subst hw2
    go_wp2
    go_ret
    exact ⟨b,rfl,HV.out.trans HI.out.symm,B1⟩
   have e3:(g.kind == 3)=false:=beq_false_of_ne k3
   by_cases k4:g.kind=4
   ·have HI:Hid (P↔(nameP xs∧0<xs.length)):=by show P↔_; rw [HP.out]; exact genP_4 k4 HBB.out hb0
    have e4:(g.kind == 4)=true:=beq_iff_eq.2 k4
    clear HP HBB hb0 k1 k2 k3 k4
    have SN:=specNameOk_any a n c xs w1 (HK.out.kept B1) HZ.out
    unfold nmv at SN
    go_wp2_with fail
    refine SN.mono ?_
    rintro e w2 ⟨b,rfl,HV,hb2⟩
    have B2:Below w.heap.size w w2:=B1.trans (hb2.mono B1.size)
    have y4:w2.cell? ⟨w.heap.size,4,none⟩=some (.slice a n c):=(hb2.cell (p:=⟨w.heap.size,4,none⟩) hlt).trans p4
    clear SN HK HZ
    cases b with
    | false =>
     have HN:Hid (¬ P):=fun q=>Bool.false_ne_true (HV.out.2 (HI.out.1 q).1)
     clear HV HI
     go_wp2
     go_ret
     exact saysB_f HN.out B2
    | true =>
     by_cases hn0:0<n
     ·have HN:Hid P:=HI.out.2 ⟨HV.out.1 rfl,by rw [hl]; exact hn0⟩
      have zn:decide ((0:Int)<(n:Int))=true:=decide_eq_true (by omega)
      clear HV HI
      go_wp2
      go_ret
      exact saysB_t HN.out B2
     ·have HN:Hid (¬ P):=fun q=>hn0 (by rw [← hl]; exact (HI.out.1 q).2)
      have zn:decide ((0:Int)<(n:Int))=false:=decide_eq_false (by omega)
      clear HV HI
      go_wp2
      go_ret
      exact saysB_f HN.out B2
   ·have e4:(g.kind == 4)=false:=beq_false_of_ne k4
    have HN:Hid (¬ P):=by show ¬ P; rw [HP.out]; intro q; rcases genP_kind q with q | q | q | q <;> omega
    clear HP HK HZ HBB hb0 k1 k2 k3 k4
    go_wp2
    go_ret
    exact saysB_f HN.out B1
  ·have zb:(g.bits != 0)=true:=bne_iff_ne.2 hb0
   have HN:Hid (¬ P):=by show ¬ P; rw [HP.out]; exact fun q=>hb0 (genP_bits q)
   clear HP HK HZ HBB hb0
   go_wp2
   go_ret
   exact saysB_f HN.out B1
end Go.Proofs.YtmdfbnlgfhjnoaaGreatDoor
