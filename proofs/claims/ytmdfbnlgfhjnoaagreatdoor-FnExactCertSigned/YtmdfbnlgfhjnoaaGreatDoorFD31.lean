import Derived.Test.YtmdfbnlgfhjnoaaGreatDoorFD27
import Derived.Test.YtmdfbnlgfhjnoaaGreatDoorFD30
set_option maxRecDepth 10000
set_option maxHeartbeats 8000000
set_option linter.unusedVariables false
namespace Go.Proofs.YtmdfbnlgfhjnoaaGreatDoor
open Go.RowKit
def extAt (xs:List XP)(k:Nat):Prop:=(1≤(xs.getD k default).id∧(xs.getD k default).id≤1000)∧(0<k→(xs.getD (k - 1) default).id<(xs.getD k default).id)∧(xs.getD k default).val.length≤30
def extsP (xs:List XP):Prop:=xs.length≤4∧∀ k,k<xs.length→extAt xs k
def limP (v:Int):Prop:=-1≤v∧v≤10
def authP (x:CE):Prop:=(x.ca=false→x.room = -1∧x.need = -1∧x.nomap = -1∧x.noany = -1∧x.per.length=0∧x.den.length=0∧x.maps.length=0)∧(x.ca=true→limP x.room∧limP x.need∧limP x.nomap∧limP x.noany∧basesP x.per x.per.length∧basesP x.den x.den.length∧(x.maps.length≤6∧mapsP x.maps))
def ownP (sub:List PT)(nms:List GE):Prop:=nameP sub∧(sub≠[]∨nms≠[])∧gensP nms nms.length
def ceP (x:CE):Prop:=(1≤x.ser∧x.ser≤4611686018427387904)∧calledP x.iss∧ownP x.sub x.nms∧((0≤x.frm∧x.frm≤253402300799)∧(0≤x.til∧x.til≤253402300799)∧x.frm≤x.til)∧pubP x.key.1 x.key.2.1 x.key.2.2∧(0≤x.uses∧x.uses≤255)∧polsP x.pol∧extsP x.ext∧x.sig.length≤500∧authP x
theorem four_all {a b c d:Int}(h1:a = -1)(h2:b = -1)(h3:c = -1)(h4:d = -1):∀ j,j < [a,b,c,d].length→[a,b,c,d].getD j 0 = -1:=by
 intro j hj
 match j,hj with
 | 0,_=>exact h1
 | 1,_=>exact h2
 | 2,_=>exact h3
 | 3,_=>exact h4
 | j+4,hj=>simp at hj; omega
theorem all_four {a b c d:Int}(h:∀ j,j < [a,b,c,d].length→[a,b,c,d].getD j 0 = -1):a = -1∧b = -1∧c = -1∧d = -1:=⟨h 0 (by simp),h 1 (by simp),h 2 (by simp),h 3 (by simp)⟩
theorem four_lim {a b c d:Int}(h1:limP a)(h2:limP b)(h3:limP c)(h4:limP d):∀ j,j < [a,b,c,d].length→(-1)≤[a,b,c,d].getD j 0∧[a,b,c,d].getD j 0≤10:=by
 intro j hj
 match j,hj with
 | 0,_=>exact h1
 | 1,_=>exact h2
 | 2,_=>exact h3
 | 3,_=>exact h4
 | j+4,hj=>simp at hj; omega
theorem lim_four {a b c d:Int}(h:∀ j,j < [a,b,c,d].length→(-1)≤[a,b,c,d].getD j 0∧[a,b,c,d].getD j 0≤10):limP a∧limP b∧limP c∧limP d:=⟨h 0 (by simp),h 1 (by simp),h 2 (by simp),h 3 (by simp)⟩
theorem wrapC (x:Int)(h0 : -9223372036854775808≤x)(h1:x≤9223372036854775807):IntKind.i64.wrap x=x:=by
 rw [IntKind.wrap_i64]; omega
theorem row64_four {w:World}{g t:Nat}{a b c d:Int}(h:w.heap[g]? = some (.cells #[.int .i64 a,.int .i64 b,.int .i64 c,.int .i64 d] t (0,0))):Row64 w (some ⟨g,0,none⟩) 4 [a,b,c,d]:=by
 refine ⟨rfl,fun k hk=>⟨g,0,rfl,(Array.getElem?_eq_some_iff.1 h).1,?_⟩⟩
 rw [Nat.zero_add,cell_of_row _ _ k _ t (0,0) h]
 match k,hk with
 | 0,_=>rfl
 | 1,_=>rfl
 | 2,_=>rfl
 | 3,_=>rfl
theorem isNoLimit_any (x:Int)(w:World):Calls Tryz.prog 144 #[.int .i64 x] w fun e w'=>e=.returned (.bool (decide (x = -1)))∧w'=w:=by
 by_cases h:x = -1
 ·rw [decide_eq_true h]
  have he:(x == -1)=true:=by simp [h]
  clear h
  go_enter Tryz.func144,Tryz.ntmps144
  go_wp2
  go_ret
  exact ⟨rfl,rfl⟩
 ·rw [decide_eq_false h]
  have he:(x == -1)=false:=by simp [h]
  clear h
  go_enter Tryz.func144,Tryz.ntmps144
  go_wp2
  go_ret
  exact ⟨rfl,rfl⟩
theorem everyNo_any (a:Option Addr)(n c:Nat)(zs:List Int)(w:World)(h:Row64 w a n zs)(hn:n≤9223372036854775807) :
  Calls Tryz.prog 141 #[.slice a n c,.func (Fn.func 144) #[] #[]] w (SaysP (∀ j,j<zs.length→zs.getD j 0 = -1) w):=by
 have H0:Hid (Row64 w a n zs):=h
 have HL:Hid (zs.length=n):=h.len
 clear h
 go_enter Tryz.func141,Tryz.ntmps141
 go_wp2
 go_loopw [9] (fun i wr=>∃ k:Nat,k≤n∧i=.int .i64 k∧Hid (∀ j,j<k→zs.getD j 0 = -1)∧w=wr) (fun i _=>n - (intOf i).toNat)
 case atStart=>exact ⟨0,Nat.zero_le _,rfl,fun k hk=>absurd hk (Nat.not_lt_zero _),rfl⟩
 case round =>
  obtain ⟨k,hk,rfl,HE,rfl⟩:=hrel
  by_cases hlt:k<n
  ·obtain ⟨b,off,rfl,hb,hc⟩:=H0.out.get k hlt
   obtain ⟨z,hz⟩:∃ z,z=zs.getD k 0:=⟨_,rfl⟩
   rw [← hz] at hc
   have HZ:Hid (z=zs.getD k 0):=hz
   have hlti:(k:Int)<(n:Int):=by omega
   clear hz
   go_wp2_with fail
   refine (isNoLimit_any z _).mono ?_
   rintro e w2 ⟨rfl,rfl⟩
   by_cases h0:z = -1
   ·rw [decide_eq_true h0]
    have HN:Hid (∀ j,j<k+1→zs.getD j 0 = -1):=fun j hj=>by
     by_cases e:j<k
     ·exact HE.out j e
     ·obtain rfl:j=k:=by omega
      rw [← HZ.out]; exact h0
    clear h0 HE
    go_wp2
    go_roundw
    case rel=>exact ⟨k+1,by omega,by go_num,HN,by trivial⟩
    case measure=>simp [intOf]; omega
   ·rw [decide_eq_false h0]
    have HN:Hid (¬ (∀ j,j<zs.length→zs.getD j 0 = -1)):=fun e=>h0 (by rw [HZ.out]; exact e k (by rw [HL.out]; exact hlt))
    clear h0 HE
    go_wp2
    go_ret
    exact saysP_f HN.out (Below.refl _ _)
  ·obtain rfl:k=n:=by omega
   go_wp2
   go_ret
   exact saysP_t (fun j hj=>HE.out j (by rw [HL.out] at hj; exact hj)) (Below.refl _ _)
theorem ownerOk_any (a:Option Addr)(n c:Nat)(sub:List PT)(b:Option Addr)(m d:Nat)(nms:List GE)(w:World)(hm:MaxW w)(h:Pts w a n sub)(hz:∀ k,k<n→(sub.getD k default).val.size≤1048576)(h2:Ges w b m nms)(hz2:∀ k,k<m→GeOk (nms.getD k default))(hn:n≤1048576)(hm1:m≤1048576) :
  Calls Tryz.prog 68 #[.agg #[.slice a n c],.slice b m d] w (Says (ownP sub nms) w):=by
 have HM:Hid (MaxW w):=hm
 have HK:Hid (Pts w a n sub):=h
 have HK2:Hid (Ges w b m nms):=h2
 have HZ:Hid (∀ k,k<n→(sub.getD k default).val.size≤1048576):=hz
 have HZ2:Hid (∀ k,k<m→GeOk (nms.getD k default)):=hz2
 have HL:Hid (sub.length=n):=h.len
 have HL2:Hid (nms.length=m):=h2.len
 clear h h2 hz hz2 hm
 obtain ⟨w0,hw0⟩:∃ w0,w0=w.alloc (.cells #[.slice a n c] 40):=⟨_,rfl⟩
 have B0:Hid (Below w.heap.size w w0):=by show Below _ _ _; rw [hw0]; exact (Below.refl _ _).alloc (Nat.le_refl _) _
 have Y0:Hid (w0.heap[w.heap.size]? = some (.cells #[.slice a n c] 40)):=by show _=_; rw [hw0]; exact heap_alloc_new w _
 have l0:w.heap.size<w0.heap.size:=(Array.getElem?_eq_some_iff.1 Y0.out).1
 have p0:w0.cell? ⟨w.heap.size,0,none⟩=some (.slice a n c):=qk Y0.out rfl
 go_enter Tryz.func68,Tryz.ntmps68
 go_upto_region 1 with fail
 rw [← hw0]
 clear hw0
 go_wp2_with fail
 refine (implNameOk_any a n c sub _ (HK.out.kept B0.out) HZ.out).mono ?_
 rintro e w1 ⟨v1,rfl,hv1,hb1⟩
 have B1:Hid (Below w.heap.size w w1):=B0.out.trans (hb1.mono B0.out.size)
 have Y1:Hid (w1.heap[w.heap.size]? = some (.cells #[.slice a n c] 40)):=(hb1.block _ l0).trans Y0.out
 have HV1:Hid _:=hv1
 clear p0 hv1 hb1
 rcases v1 with _ | _
 ·have HN:Hid (¬ ownP sub nms):=fun q=>by have:=HV1.out.2 q.1; cases this
  go_wp2
  go_ret
  exact says_f HN.out B1.out
 have HS:Hid (nameP sub):=HV1.out.1 rfl
 clear HV1
 have p0:w1.cell? ⟨w.heap.size,0,none⟩=some (.slice a n c):=qk Y1.out rfl
 have hwr:IntKind.i64.wrap ((n:Int)+(m:Int))=(n:Int)+(m:Int):=wrapC _ (by omega) (by omega)
 by_cases hnm:0<(n:Int)+(m:Int)
 case neg =>
  have HN:Hid (¬ ownP sub nms):=fun q=>by
   have h1:n=0:=by omega
   have h2:m=0:=by omega
   rcases q.2.1 with q | q
   ·exact q (List.eq_nil_of_length_eq_zero (by rw [HL.out]; exact h1))
   ·exact q (List.eq_nil_of_length_eq_zero (by rw [HL2.out]; exact h2))
  go_wp2
  go_ret
  exact says_f HN.out B1.out
 have HSM:Hid (sub≠[]∨nms≠[]):=by
  by_cases e:n=0
  ·exact .inr (fun q=>by have:=HL2.out; rw [q] at this; simp at this; omega)
  ·exact .inl (fun q=>by have:=HL.out; rw [q] at this; simp at this; omega)
 go_wp2_with fail
 refine (gensGen_any b m d nms _ (HM.out.kept B1.out) (HK2.out.kept B1.out) HZ2.out).mono ?_
 rintro e w2 ⟨v2,rfl,hv2,hb2⟩
 have B2:Hid (Below w.heap.size w w2):=B1.out.trans (hb2.mono B1.out.size)
 have HIF:Hid (v2=true↔ownP sub nms):=⟨fun e=>⟨HS.out,HSM.out,by rw [HL2.out]; exact hv2.out.1 e⟩,fun q=>hv2.out.2 (by have:=q.2.2; rw [HL2.out] at this; exact this)⟩
 clear p0 hv2 hb2
 go_wp2
 go_ret
 exact ⟨v2,rfl,HIF,B2.out⟩
def lstX (xs:List XP)(k:Nat):Int:=if k=0 then 1 else (xs.getD (k - 1) default).id+1
theorem extsOk_any (a:Option Addr)(n c:Nat)(xs:List XP)(w:World)(h:XPs w a n xs) :
  Calls Tryz.prog 98 #[.slice a n c] w (Says (extsP xs) w):=by
 have HK:Hid (XPs w a n xs):=h
 have HL:Hid (xs.length=n):=h.len
 have hmx:=h.max
 clear h
 by_cases h4:(4:Int)<(n:Int)
 ·have HN:Hid (¬ extsP xs):=fun q=>by have:=q.1; rw [HL.out] at this; omega
  go_enter Tryz.func98,Tryz.ntmps98
  go_wp2
  go_ret
  exact says_f HN.out (Below.refl _ _)
 have hn4:n≤4:=by omega
 go_enter Tryz.func98,Tryz.ntmps98
 go_wp2
 go_loopw [11,3] (fun i l wr=>∃ k:Nat,k≤n∧i=.int .i64 k∧l=.int .i64 (lstX xs k)∧Hid (∀ j,j<k→extAt xs j)∧Below w.heap.size w wr) (fun i _ _=>n - (intOf i).toNat)
 case atStart=>exact ⟨0,Nat.zero_le _,rfl,rfl,fun j hj=>absurd hj (Nat.not_lt_zero _),Below.refl _ _⟩
 case round =>
  obtain ⟨k,hk,rfl,rfl,HE,hbr⟩:=hrel
  by_cases hkn:k<n
  ·obtain ⟨b,off,⟨a1,n1,c1⟩,rfl,hlb,hc,hp⟩:=HK.out.get k hkn
   obtain ⟨y,hy⟩:∃ y,y=xs.getD k default:=⟨_,rfl⟩
   rw [← hy] at hc hp
   have HY:Hid (y=xs.getD k default):=hy
   have HYL:Hid (y.val.length=n1):=hp.r1.len
   have hm1:=hp.m1
   replace hc:=hc.of (w':=wr) (fun i=>hbr.cell (p:=⟨b,i,none⟩) hlb)
   have d0:wr.cell? ⟨b,off+k * 3,none⟩=some (.int .i64 y.id):=hc.c0
   have d1:wr.cell? ⟨b,off+k * 3+1,none⟩=some (.bool y.crit):=hc.c1
   have d2:wr.cell? ⟨b,off+k * 3+2,none⟩=some (.slice a1 n1 c1):=hc.c2
   obtain ⟨W2,hW2⟩:∃ W2,W2=wr.alloc (.cells #[.int .i64 y.id,.bool y.crit,.slice a1 n1 c1] 113):=⟨_,rfl⟩
   have hb2:Below wr.heap.size wr W2:=by rw [hW2]; exact (Below.refl _ _).alloc (Nat.le_refl _) _
   have E2:Hid (W2.heap[wr.heap.size]? = some (.cells #[.int .i64 y.id,.bool y.crit,.slice a1 n1 c1] 113)):=by show _=_; rw [hW2]; exact heap_alloc_new wr _
   have B2:Hid (Below w.heap.size w W2):=hbr.trans (hb2.mono hbr.size)
   have hkni:(k:Int)<(n:Int):=by omega
   have HW2:Hid (_=_):=hW2
   clear hW2 hb2 hc hp hy
   go_upto_region 7 with fail
   rw [← HW2.out]
   clear HW2 d0 d1 d2
   have e0:W2.cell? ⟨wr.heap.size,0,none⟩=some (.int .i64 y.id):=qk E2.out rfl
   have e2:W2.cell? ⟨wr.heap.size,2,none⟩=some (.slice a1 n1 c1):=qk E2.out rfl
   have HIF:Hid ((lstX xs k≤y.id∧y.id≤1000)↔((1≤(xs.getD k default).id∧(xs.getD k default).id≤1000)∧(0<k→(xs.getD (k - 1) default).id<(xs.getD k default).id))):=by
    show _↔_
    rw [HY.out]
    unfold lstX
    by_cases hk0:k=0
    ·rw [if_pos hk0]
     exact ⟨fun q=>⟨q,fun h=>absurd h (by omega)⟩,fun q=>q.1⟩
    ·rw [if_neg hk0]
     have h1:=(HE.out (k - 1) (by omega)).1.1
     constructor
     ·intro q; exact ⟨⟨by omega,q.2⟩,fun _=>by omega⟩
     ·intro q; exact ⟨by have:=q.2 (by omega); omega,q.1.2⟩
   go_wp2_with fail
   by_cases q1:lstX xs k≤y.id∧y.id≤1000
   case neg =>
    refine (inBounds_any y.id (lstX xs k) 1000 _).mono ?_
    rintro e w9 ⟨rfl,hw9⟩
    subst hw9
    rw [decide_eq_false q1]
    have HN:Hid (¬ extsP xs):=fun q=>q1 (HIF.out.2 (by have:=q.2 k (by rw [HL.out]; exact hkn); exact ⟨this.1,this.2.1⟩))
    clear q1
    go_wp2
    go_ret
    exact says_f HN.out B2.out
   refine (inBounds_any y.id (lstX xs k) 1000 _).mono ?_
   rintro e w9 ⟨rfl,hw9⟩
   subst hw9
   rw [decide_eq_true q1]
   have HQ:Hid (lstX xs k≤y.id∧y.id≤1000):=q1
   clear q1
   by_cases h30:(30:Int)<(n1:Int)
   ·have HN:Hid (¬ extsP xs):=fun q=>by have:=(q.2 k (by rw [HL.out]; exact hkn)).2.2; rw [← HY.out,HYL.out] at this; omega
    go_wp2
    go_ret
    exact says_f HN.out B2.out
   have HX:Hid (∀ j,j<k+1→extAt xs j):=fun j hj=>by
    by_cases e:j=k
    ·subst e
     exact ⟨(HIF.out.1 HQ.out).1,(HIF.out.1 HQ.out).2,by rw [← HY.out,HYL.out]; omega⟩
    ·exact HE.out j (by omega)
   have HLS:Hid (y.id+1=lstX xs (k+1)):=by show _=_; unfold lstX; rw [if_neg (by omega),Nat.add_sub_cancel,← HY.out]
   have hwr:IntKind.i64.wrap (y.id+1)=y.id+1:=wrapC _ (by have:=(HIF.out.1 HQ.out).1.1; rw [← HY.out] at this; omega) (by have:=HQ.out.2; omega)
   go_wp2
   go_roundw
   case rel=>exact ⟨k+1,by omega,by go_num,by rw [HLS.out],HX,B2.out⟩
   case measure=>simp [intOf]; omega
  ·have hkn':k=n:=by omega
   subst hkn'
   have HT:Hid (extsP xs):=⟨by rw [HL.out]; omega,fun j hj=>HE.out j (by rw [← HL.out]; exact hj)⟩
   go_wp2
   go_ret
   exact says_t HT.out hbr
theorem authorityOk_any (s:CES)(x:CE)(w:World)(hm:MaxW w)(h:CER w s x)(hz:CEZ x) :
  Calls Tryz.prog 99 #[CEv s x] w (Says (authP x) w):=by
 obtain ⟨a1,n1,c1,a2,n2,c2,a3,n3,c3,a4,n4,c4,a5,n5,c5,a6,n6,c6,a7,n7,c7,a8,n8,c8,a9,n9,c9⟩:=s
 have HK:Hid (CER w ⟨a1,n1,c1,a2,n2,c2,a3,n3,c3,a4,n4,c4,a5,n5,c5,a6,n6,c6,a7,n7,c7,a8,n8,c8,a9,n9,c9⟩ x):=h
 have HZ:Hid ((n1≤1048576∧(∀ k,k<n1→(x.iss.getD k default).val.size≤1048576))∧(n2≤1048576∧(∀ k,k<n2→(x.sub.getD k default).val.size≤1048576))∧(n3≤1048576∧(∀ k,k<n3→GeOk (x.nms.getD k default)))∧(n4≤1048576∧(∀ k,k<n4→GeOk (x.per.getD k default)))∧(n5≤1048576∧(∀ k,k<n5→GeOk (x.den.getD k default)))∧(n6≤1048576)∧(n7≤1048576)∧(n8≤1048576∧(∀ k,k<n8→XPZ (x.ext.getD k default)))∧(n9≤1048576)):=h.zn.1 hz
 have HM:Hid (MaxW w):=hm
 have HL4:Hid (x.per.length=n4):=h.r4.len
 have HL5:Hid (x.den.length=n5):=h.r5.len
 have HL7:Hid (x.maps.length=n7):=h.r7.len
 have hx4:=h.r4.max
 have hx5:=h.r5.max
 have hx7:=h.r7.max
 clear h hz hm
 show Calls Tryz.prog 99 #[.agg #[.int .i64 x.ser,.slice a1 n1 c1,.slice a2 n2 c2,.int .i64 x.frm,.int .i64 x.til,.int .i64 x.key.1,.int .u64 x.key.2.1,.int .i64 x.key.2.2,.bool x.ca,.int .i64 x.room,.int .i64 x.uses,.slice a3 n3 c3,.slice a4 n4 c4,.slice a5 n5 c5,.slice a6 n6 c6,.slice a7 n7 c7,.int .i64 x.need,.int .i64 x.nomap,.int .i64 x.noany,.slice a8 n8 c8,.slice a9 n9 c9]] w _
 obtain ⟨w0,hw0⟩:∃ w0,w0=w.alloc (.cells #[.int .i64 x.ser,.slice a1 n1 c1,.slice a2 n2 c2,.int .i64 x.frm,.int .i64 x.til,.int .i64 x.key.1,.int .u64 x.key.2.1,.int .i64 x.key.2.2,.bool x.ca,.int .i64 x.room,.int .i64 x.uses,.slice a3 n3 c3,.slice a4 n4 c4,.slice a5 n5 c5,.slice a6 n6 c6,.slice a7 n7 c7,.int .i64 x.need,.int .i64 x.nomap,.int .i64 x.noany,.slice a8 n8 c8,.slice a9 n9 c9] 46):=⟨_,rfl⟩
 have hb0:Below w.heap.size w w0:=by rw [hw0]; exact (Below.refl _ _).alloc (Nat.le_refl _) _
 have Y0:Hid (w0.heap[w.heap.size]? = some (.cells #[.int .i64 x.ser,.slice a1 n1 c1,.slice a2 n2 c2,.int .i64 x.frm,.int .i64 x.til,.int .i64 x.key.1,.int .u64 x.key.2.1,.int .i64 x.key.2.2,.bool x.ca,.int .i64 x.room,.int .i64 x.uses,.slice a3 n3 c3,.slice a4 n4 c4,.slice a5 n5 c5,.slice a6 n6 c6,.slice a7 n7 c7,.int .i64 x.need,.int .i64 x.nomap,.int .i64 x.noany,.slice a8 n8 c8,.slice a9 n9 c9] 46)):=by show _=_; rw [hw0]; exact heap_alloc_new w _
 obtain ⟨w1,hw1⟩:∃ w1,w1=w0.alloc (.cells #[.int .i64 x.room,.int .i64 x.need,.int .i64 x.nomap,.int .i64 x.noany] 2):=⟨_,rfl⟩
 have hb1:Below w0.heap.size w0 w1:=by rw [hw1]; exact (Below.refl _ _).alloc (Nat.le_refl _) _
 have B1:Hid (Below w.heap.size w w1):=hb0.trans (hb1.mono hb0.size)
 have L1:Hid (Row64 w1 (some ⟨w0.heap.size,0,none⟩) 4 [x.room,x.need,x.nomap,x.noany]):=row64_four (by rw [hw1]; exact heap_alloc_new w0 _)
 have l0:w.heap.size<w0.heap.size:=(Array.getElem?_eq_some_iff.1 Y0.out).1
 have Y1:Hid (w1.heap[w.heap.size]? = some (.cells #[.int .i64 x.ser,.slice a1 n1 c1,.slice a2 n2 c2,.int .i64 x.frm,.int .i64 x.til,.int .i64 x.key.1,.int .u64 x.key.2.1,.int .i64 x.key.2.2,.bool x.ca,.int .i64 x.room,.int .i64 x.uses,.slice a3 n3 c3,.slice a4 n4 c4,.slice a5 n5 c5,.slice a6 n6 c6,.slice a7 n7 c7,.int .i64 x.need,.int .i64 x.nomap,.int .i64 x.noany,.slice a8 n8 c8,.slice a9 n9 c9] 46)):=(hb1.block _ l0).trans Y0.out
 have p9:w0.cell? ⟨w.heap.size,9,none⟩=some (.int .i64 x.room):=qk Y0.out rfl
 have p16:w0.cell? ⟨w.heap.size,16,none⟩=some (.int .i64 x.need):=qk Y0.out rfl
 have p17:w0.cell? ⟨w.heap.size,17,none⟩=some (.int .i64 x.nomap):=qk Y0.out rfl
 have p18:w0.cell? ⟨w.heap.size,18,none⟩=some (.int .i64 x.noany):=qk Y0.out rfl
 clear hb0 hb1
 go_enter Tryz.func99,Tryz.ntmps99
 go_upto_region 1 with fail
 rw [← hw0]
 clear hw0
 go_upto_region 2 with fail
 rw [← hw1]
 clear hw1 p9 p16 p17 p18 Y0
 rcases hca:x.ca with _ | _
 ·have HCA:Hid (x.ca=false):=hca
  have p8:w1.cell? ⟨w.heap.size,8,none⟩=some (.bool false):=by rw [← hca]; exact (cell_of_row _ _ 8 _ 46 (0,0) Y1.out).trans rfl
  clear hca
  go_wp2_with fail
  refine (everyNo_any (some ⟨w0.heap.size,0,none⟩) 4 4 [x.room,x.need,x.nomap,x.noany] _ L1.out (by decide)).mono ?_
  rintro e w2 ⟨v2,rfl,hv2,hb2⟩
  have B2:Hid (Below w.heap.size w w2):=B1.out.trans (hb2.mono B1.out.size)
  have Y2:Hid (w2.heap[w.heap.size]? = some (.cells #[.int .i64 x.ser,.slice a1 n1 c1,.slice a2 n2 c2,.int .i64 x.frm,.int .i64 x.til,.int .i64 x.key.1,.int .u64 x.key.2.1,.int .i64 x.key.2.2,.bool x.ca,.int .i64 x.room,.int .i64 x.uses,.slice a3 n3 c3,.slice a4 n4 c4,.slice a5 n5 c5,.slice a6 n6 c6,.slice a7 n7 c7,.int .i64 x.need,.int .i64 x.nomap,.int .i64 x.noany,.slice a8 n8 c8,.slice a9 n9 c9] 46)):=(hb2.block _ (Array.getElem?_eq_some_iff.1 Y1.out).1).trans Y1.out
  have HV2:Hid _:=hv2
  clear p8 hv2 hb2
  rcases v2 with _ | _
  ·have HN:Hid (¬ authP x):=fun q=>by
    have:=HV2.out.2 (four_all (q.1 HCA.out).1 (q.1 HCA.out).2.1 (q.1 HCA.out).2.2.1 (q.1 HCA.out).2.2.2.1)
    cases this
   go_wp2
   go_ret
   exact says_f HN.out B2.out
  have HF:Hid (x.room = -1∧x.need = -1∧x.nomap = -1∧x.noany = -1):=all_four (HV2.out.1 rfl)
  clear HV2
  have p12:w2.cell? ⟨w.heap.size,12,none⟩=some (.slice a4 n4 c4):=qk Y2.out rfl
  have p13:w2.cell? ⟨w.heap.size,13,none⟩=some (.slice a5 n5 c5):=qk Y2.out rfl
  have p15:w2.cell? ⟨w.heap.size,15,none⟩=some (.slice a7 n7 c7):=qk Y2.out rfl
  by_cases e4:n4=0
  case neg =>
   have hne:((n4:Int) == 0)=false:=by simp [e4]
   have HN:Hid (¬ authP x):=fun q=>e4 (by rw [← HL4.out]; exact (q.1 HCA.out).2.2.2.2.1)
   go_wp2
   go_ret
   exact says_f HN.out B2.out
  subst e4
  by_cases e5:n5=0
  case neg =>
   have hne:((n5:Int) == 0)=false:=by simp [e5]
   have HN:Hid (¬ authP x):=fun q=>e5 (by rw [← HL5.out]; exact (q.1 HCA.out).2.2.2.2.2.1)
   go_wp2
   go_ret
   exact says_f HN.out B2.out
  subst e5
  by_cases e7:n7=0
  case neg =>
   have hne:((n7:Int) == 0)=false:=by simp [e7]
   have HN:Hid (¬ authP x):=fun q=>e7 (by rw [← HL7.out]; exact (q.1 HCA.out).2.2.2.2.2.2)
   go_wp2
   go_ret
   exact says_f HN.out B2.out
  subst e7
  have HT:Hid (authP x):=⟨fun _=>⟨HF.out.1,HF.out.2.1,HF.out.2.2.1,HF.out.2.2.2,HL4.out,HL5.out,HL7.out⟩,fun e=>by rw [HCA.out] at e; cases e⟩
  go_wp2
  go_ret
  exact says_t HT.out B2.out
 ·have HCA:Hid (x.ca=true):=hca
  have p8:w1.cell? ⟨w.heap.size,8,none⟩=some (.bool true):=by rw [← hca]; exact (cell_of_row _ _ 8 _ 46 (0,0) Y1.out).trans rfl
  clear hca
  go_wp2_with fail
  refine (everyLim_any (some ⟨w0.heap.size,0,none⟩) 4 4 [x.room,x.need,x.nomap,x.noany] _ L1.out (by decide)).mono ?_
  rintro e w2 ⟨v2,rfl,hv2,hb2⟩
  have B2:Hid (Below w.heap.size w w2):=B1.out.trans (hb2.mono B1.out.size)
  have Y2:Hid (w2.heap[w.heap.size]? = some (.cells #[.int .i64 x.ser,.slice a1 n1 c1,.slice a2 n2 c2,.int .i64 x.frm,.int .i64 x.til,.int .i64 x.key.1,.int .u64 x.key.2.1,.int .i64 x.key.2.2,.bool x.ca,.int .i64 x.room,.int .i64 x.uses,.slice a3 n3 c3,.slice a4 n4 c4,.slice a5 n5 c5,.slice a6 n6 c6,.slice a7 n7 c7,.int .i64 x.need,.int .i64 x.nomap,.int .i64 x.noany,.slice a8 n8 c8,.slice a9 n9 c9] 46)):=(hb2.block _ (Array.getElem?_eq_some_iff.1 Y1.out).1).trans Y1.out
  have HV2:Hid _:=hv2
  clear p8 hv2 hb2
  rcases v2 with _ | _
  ·have HN:Hid (¬ authP x):=fun q=>by
    have:=HV2.out.2 (four_lim (q.2 HCA.out).1 (q.2 HCA.out).2.1 (q.2 HCA.out).2.2.1 (q.2 HCA.out).2.2.2.1)
    cases this
   go_wp2
   go_ret
   exact says_f HN.out B2.out
  have HF:Hid (limP x.room∧limP x.need∧limP x.nomap∧limP x.noany):=lim_four (HV2.out.1 rfl)
  clear HV2
  have p12:w2.cell? ⟨w.heap.size,12,none⟩=some (.slice a4 n4 c4):=qk Y2.out rfl
  go_wp2_with fail
  refine (gensBase_any a4 n4 c4 x.per _ (HM.out.kept B2.out) (HK.out.kept B2.out).r4 HZ.out.2.2.2.1.2).mono ?_
  rintro e w3 ⟨v3,rfl,hv3,hb3⟩
  have B3:Hid (Below w.heap.size w w3):=B2.out.trans (hb3.mono B2.out.size)
  have Y3:Hid (w3.heap[w.heap.size]? = some (.cells #[.int .i64 x.ser,.slice a1 n1 c1,.slice a2 n2 c2,.int .i64 x.frm,.int .i64 x.til,.int .i64 x.key.1,.int .u64 x.key.2.1,.int .i64 x.key.2.2,.bool x.ca,.int .i64 x.room,.int .i64 x.uses,.slice a3 n3 c3,.slice a4 n4 c4,.slice a5 n5 c5,.slice a6 n6 c6,.slice a7 n7 c7,.int .i64 x.need,.int .i64 x.nomap,.int .i64 x.noany,.slice a8 n8 c8,.slice a9 n9 c9] 46)):=(hb3.block _ (Array.getElem?_eq_some_iff.1 Y2.out).1).trans Y2.out
  have HV3:Hid _:=hv3
  clear p12 hv3 hb3
  rcases v3 with _ | _
  ·have HN:Hid (¬ authP x):=fun q=>by have h1:=(q.2 HCA.out).2.2.2.2.1; rw [HL4.out] at h1; have:=HV3.out.2 h1; cases this
   go_wp2
   go_ret
   exact says_f HN.out B3.out
  have HP4:Hid (basesP x.per x.per.length):=by show basesP _ _; rw [HL4.out]; exact HV3.out.1 rfl
  clear HV3
  have p13:w3.cell? ⟨w.heap.size,13,none⟩=some (.slice a5 n5 c5):=qk Y3.out rfl
  go_wp2_with fail
  refine (gensBase_any a5 n5 c5 x.den _ (HM.out.kept B3.out) (HK.out.kept B3.out).r5 HZ.out.2.2.2.2.1.2).mono ?_
  rintro e w4 ⟨v4,rfl,hv4,hb4⟩
  have B4:Hid (Below w.heap.size w w4):=B3.out.trans (hb4.mono B3.out.size)
  have Y4:Hid (w4.heap[w.heap.size]? = some (.cells #[.int .i64 x.ser,.slice a1 n1 c1,.slice a2 n2 c2,.int .i64 x.frm,.int .i64 x.til,.int .i64 x.key.1,.int .u64 x.key.2.1,.int .i64 x.key.2.2,.bool x.ca,.int .i64 x.room,.int .i64 x.uses,.slice a3 n3 c3,.slice a4 n4 c4,.slice a5 n5 c5,.slice a6 n6 c6,.slice a7 n7 c7,.int .i64 x.need,.int .i64 x.nomap,.int .i64 x.noany,.slice a8 n8 c8,.slice a9 n9 c9] 46)):=(hb4.block _ (Array.getElem?_eq_some_iff.1 Y3.out).1).trans Y3.out
  have HV4:Hid _:=hv4
  clear p13 hv4 hb4
  rcases v4 with _ | _
  ·have HN:Hid (¬ authP x):=fun q=>by have h1:=(q.2 HCA.out).2.2.2.2.2.1; rw [HL5.out] at h1; have:=HV4.out.2 h1; cases this
   go_wp2
   go_ret
   exact says_f HN.out B4.out
  have HP5:Hid (basesP x.den x.den.length):=by show basesP _ _; rw [HL5.out]; exact HV4.out.1 rfl
  clear HV4
  have p15:w4.cell? ⟨w.heap.size,15,none⟩=some (.slice a7 n7 c7):=qk Y4.out rfl
  go_wp2_with fail
  refine (mapsOk_any a7 n7 c7 x.maps _ (HK.out.kept B4.out).r7).mono ?_
  rintro e w5 ⟨v5,rfl,hv5,hb5⟩
  have B5:Hid (Below w.heap.size w w5):=B4.out.trans (hb5.mono B4.out.size)
  have HIF:Hid (v5=true↔authP x):=⟨fun e=>⟨fun e2=>(by rw [HCA.out] at e2; cases e2),fun _=>⟨HF.out.1,HF.out.2.1,HF.out.2.2.1,HF.out.2.2.2,HP4.out,HP5.out,hv5.out.1 e⟩⟩,fun q=>hv5.out.2 (q.2 HCA.out).2.2.2.2.2.2⟩
  clear p15 hv5 hb5
  go_wp2
  go_ret
  exact ⟨v5,rfl,HIF,B5.out⟩
end Go.Proofs.YtmdfbnlgfhjnoaaGreatDoor
