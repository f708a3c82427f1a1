import Derived.Test.YtmdfbnlgfhjnoaaGreatDoorFD07
set_option maxRecDepth 10000
set_option maxHeartbeats 8000000
set_option linter.unusedVariables false
namespace Go.Proofs.YtmdfbnlgfhjnoaaGreatDoor
open Go.RowKit
structure GE where
 g:GT
 parts:List PT
instance:Inhabited GE:=⟨⟨⟨0,⟨#[]⟩,0,0⟩,[]⟩⟩
structure Cells5 (w:World)(b o:Nat)(an:Option Addr)(nn cn:Nat)(x:GE):Prop where
 c0:w.cell? ⟨b,o,none⟩=some (.int .i64 x.g.kind)
 c1:w.cell? ⟨b,o+1,none⟩=some (.string x.g.text)
 c2:w.cell? ⟨b,o+2,none⟩=some (.int .i64 x.g.addr)
 c3:w.cell? ⟨b,o+3,none⟩=some (.int .i64 x.g.bits)
 c4:w.cell? ⟨b,o+4,none⟩=some (.slice an nn cn)
theorem Cells5.of {w w':World}{b o:Nat}{a:Option Addr}{n c:Nat}{x:GE}(h:Cells5 w b o a n c x)(hc:∀ i,w'.cell? ⟨b,i,none⟩=w.cell? ⟨b,i,none⟩):Cells5 w' b o a n c x :=
 ⟨(hc _).trans h.c0,(hc _).trans h.c1,(hc _).trans h.c2,(hc _).trans h.c3,(hc _).trans h.c4⟩
structure Ges (w:World)(a:Option Addr)(n:Nat)(xs:List GE):Prop where
 len:xs.length=n
 max:n≤9223372036854775807
 get:∀ k,k<n→∃ b off an nn cn,a=some ⟨b,off,none⟩∧b<w.heap.size∧Cells5 w b (off+k * 5) an nn cn (xs.getD k default)∧Pts w an nn (xs.getD k default).parts∧(xs.getD k default).g.text.size≤9223372036854775807
theorem Ges.kept {w w':World}{a:Option Addr}{n:Nat}{xs:List GE}(h:Ges w a n xs)(hb:Below w.heap.size w w'):Ges w' a n xs:=by
 refine ⟨h.len,h.max,fun k hk=>?_⟩
 obtain ⟨b,off,an,nn,cn,ha,hlt,hc,hp,hs⟩:=h.get k hk
 exact ⟨b,off,an,nn,cn,ha,Nat.lt_of_lt_of_le hlt hb.size,hc.of (fun i=>hb.cell (p:=⟨b,i,none⟩) hlt),hp.kept hb,hs⟩
def GeOk (x:GE):Prop:=x.g.text.size≤1048576∧x.parts.length≤1048576∧∀ k,k<x.parts.length→(x.parts.getD k default).val.size≤1048576
theorem szGenNameS_any (a:Option Addr)(n cap:Nat)(xs:List GE)(lf:Int)(w:World)(h:Ges w a n xs)(hl0:0≤lf)(hl1:lf≤1048576) :
  Calls Tryz.prog 30 #[.slice a n cap,.int .i64 lf] w fun e w'=>∃ r,e=.returned (.int .i64 r)∧(r<0∨(0≤r∧r≤1048576∧n≤1048576∧∀ k,k<n→GeOk (xs.getD k default)))∧Below w.heap.size w w':=by
 have H0:Hid (Ges w a n xs):=h
 have hn:=h.max
 clear h
 by_cases hlt:(n:Int)≤lf
 ·go_enter Tryz.func30,Tryz.ntmps30
  go_wp2
  go_loopw [1,5] (fun l i wr=>∃ (k:Nat) (left:Int),k≤n∧i=.int .i64 k∧l=.int .i64 left∧0≤left∧left≤1048576∧Hid (∀ j,j<k→GeOk (xs.getD j default))∧Below w.heap.size w wr) (fun _ i _=>n - (intOf i).toNat)
  case atStart=>exact ⟨0,lf - n,Nat.zero_le _,rfl,rfl,by omega,by omega,fun j hj=>absurd hj (Nat.not_lt_zero _),Below.refl _ _⟩
  case round =>
   obtain ⟨k,left,hk,rfl,rfl,h0,h1,HA,hbr⟩:=hrel
   by_cases hkn:k<n
   ·obtain ⟨b,off,an,nn,cn,rfl,hlb,hc,hp,hs⟩:=H0.out.get k hkn
    obtain ⟨y,hy⟩:∃ y,y=xs.getD k default:=⟨_,rfl⟩
    rw [← hy] at hc hp hs
    have HY:Hid (y=xs.getD k default):=hy
    obtain ⟨c0,c1,c2,c3,c4⟩:=hc.of (w':=wr) (fun i=>hbr.cell (p:=⟨b,i,none⟩) hlb)
    have HP:Hid (Pts wr an nn y.parts):=hp.kept hbr
    have HN:Hid (y.parts.length=nn):=hp.len
    have hkni:(k:Int)<(n:Int):=by omega
    clear hc hy hp
    go_wp2_with fail
    refine (szGenName_any y.g an nn cn y.parts left _ HP.out hs h0 h1).mono ?_
    rintro e w2 ⟨r,rfl,hr,hb2⟩
    have hb2':Below w.heap.size w w2:=hbr.trans (hb2.mono hbr.size)
    by_cases hneg:r<0
    ·clear hr
     go_wp2
     go_ret
     exact ⟨_,rfl,.inl (by decide),hb2'⟩
    ·have hr1:0≤r:=by omega
     have hr2:r≤1048576:=by omega
     have HR:Hid (GeOk y):=by
      rcases hr with h | ⟨_,_,h3,h4,h5⟩
      ·exact absurd h hneg
      ·exact ⟨h3,by rw [HN.out]; exact h4,fun k hk=>h5 k (by rw [← HN.out]; exact hk)⟩
     clear hr
     go_wp2
     go_roundw
     case rel =>
      refine ⟨k+1,r,by omega,by go_num,rfl,hr1,hr2,fun j hj=>?_,hb2'⟩
      by_cases hjk:j=k
      ·subst hjk; rw [← HY.out]; exact HR.out
      ·exact HA.out j (by omega)
     case measure=>simp [intOf]; omega
   ·obtain rfl:n=k:=by omega
    go_wp2
    go_ret
    exact ⟨_,rfl,.inr ⟨h0,h1,by omega,HA.out⟩,hbr⟩
 ·go_enter Tryz.func30,Tryz.ntmps30
  go_wp2
  go_ret
  exact ⟨_,rfl,.inl (by decide),Below.refl _ _⟩
theorem eqGenNameS_same (a b:Option Addr)(n ca cb:Nat)(xs:List GE)(w:World)(h:Ges w a n xs)(h2:Ges w b n xs) :
  Calls Tryz.prog 49 #[.slice a n ca,.slice b n cb] w fun e w'=>e=.returned (.bool true)∧Below w.heap.size w w':=by
 have HK:Hid (Ges w a n xs):=h
 have HK2:Hid (Ges w b n xs):=h2
 have hn:=h.max
 clear h h2
 go_enter Tryz.func49,Tryz.ntmps49
 go_wp2
 go_loopw [5] (fun i wr=>∃ k:Nat,k≤n∧i=.int .i64 k∧Below w.heap.size w wr) (fun i _=>n - (intOf i).toNat)
 case atStart=>exact ⟨0,Nat.zero_le _,rfl,Below.refl _ _⟩
 case round =>
  obtain ⟨k,hk,rfl,hbr⟩:=hrel
  by_cases hkn:k<n
  ·obtain ⟨b1,off1,an,nn,cn,rfl,hl1,hc1,hp1,_⟩:=HK.out.get k hkn
   obtain ⟨b2,off2,am,mm,cm,rfl,hl2,hc2,hp2,_⟩:=HK2.out.get k hkn
   obtain ⟨y,hy⟩:∃ y,y=xs.getD k default:=⟨_,rfl⟩
   rw [← hy] at hc1 hc2 hp1 hp2
   clear hy
   obtain rfl:mm=nn:=by rw [← hp2.len,← hp1.len]
   obtain ⟨c0,c1,c2,c3,c4⟩:=hc1.of (w':=wr) (fun i=>hbr.cell (p:=⟨b1,i,none⟩) hl1)
   obtain ⟨d0,d1,d2,d3,d4⟩:=hc2.of (w':=wr) (fun i=>hbr.cell (p:=⟨b2,i,none⟩) hl2)
   have HP1:Hid (Pts wr.drew an mm y.parts):=hp1.kept hbr.drew
   have HP2:Hid (Pts wr.drew am mm y.parts):=hp2.kept hbr.drew
   have hkni:(k:Int)<(n:Int):=by omega
   have hs:=hbr.size
   clear hc1 hc2 hp1 hp2
   go_wp2_with fail
   go_region_with (go_at_call 113; refine (eqGenName_same y.g an am mm cn cm y.parts _ HP1.out HP2.out).mono ?_; rintro e w2 ⟨rfl,hb2⟩)
   all_goals
    have b5:Below w.heap.size w w2:=hbr.drew.trans (hb2.mono hs)
    go_wp2
    go_roundw
    case rel=>exact ⟨k+1,by omega,by go_num,b5⟩
    case measure=>simp [intOf]; omega
  ·go_wp2
   go_ret
   exact ⟨rfl,hbr⟩
open Go.RowKit
theorem Tryz.infoGe:(Tryz.prog.info? 127).map (fun i=>(i.zero,i.size,i.bytes))=some (some (.agg #[.int .i64 0,.string ⟨#[]⟩,.int .i64 0,.int .i64 0,.slice none 0 0]),5,64):=by kernel_rfl
def put5 (w:World)(g o:Nat)(v0 v1 v2 v3 v4:Value):World:=(((((w.setCell ⟨g,o,none⟩ v0).setCell ⟨g,o+1,none⟩ v1).setCell ⟨g,o+2,none⟩ v2).setCell ⟨g,o+3,none⟩ v3).setCell ⟨g,o+4,none⟩ v4)
theorem put5_other (w:World)(g o l:Nat)(h:l≠g)(v0 v1 v2 v3 v4:Value):(put5 w g o v0 v1 v2 v3 v4).heap[l]? = w.heap[l]? :=
 (Below.heap_setCell _ _ _ _ (by show l≠g; exact h)).trans ((Below.heap_setCell _ _ _ _ (by show l≠g; exact h)).trans ((Below.heap_setCell _ _ _ _ (by show l≠g; exact h)).trans ((Below.heap_setCell _ _ _ _ (by show l≠g; exact h)).trans (Below.heap_setCell _ _ _ _ (by show l≠g; exact h)))))
theorem put5_size (w:World)(g o:Nat)(v0 v1 v2 v3 v4:Value):(put5 w g o v0 v1 v2 v3 v4).heap.size=w.heap.size:=by simp [put5]
def GePre (w:World)(g k:Nat)(xs:List GE):Prop:=∀ j,j<k→∃ gn nn,g<gn∧Cells5 w g (j * 5) (some ⟨gn,0,none⟩) nn nn (xs.getD j default)∧Pts w (some ⟨gn,0,none⟩) nn (xs.getD j default).parts
theorem GePre.kept {w w':World}{g k:Nat}{xs:List GE}(h:GePre w g k xs)(hg:g<w.heap.size)(hb:Below w.heap.size w w'):GePre w' g k xs:=fun j hj=>by
 obtain ⟨gn,nn,h1,h3,h4⟩:=h j hj
 exact ⟨gn,nn,h1,h3.of (fun i=>hb.cell (p:=⟨g,i,none⟩) hg),h4.kept hb⟩
structure Put5 (B:Nat)(w w':World)(g n cap i:Nat)(an:Option Addr)(nn cn:Nat)(x:GE):Prop where
 own:∃ vs,w'.ownsRow B 127 5 (.slice (some ⟨g,0,none⟩) n cap) n vs
 other:∀ l,l≠g→w'.heap[l]? = w.heap[l]?
 size:w'.heap.size=w.heap.size
 old:∀ j,j<n * 5→j<i * 5∨i * 5+5≤j→w'.cell? ⟨g,j,none⟩=w.cell? ⟨g,j,none⟩
 cells:Cells5 w' g (i * 5) an nn cn x
theorem put5_is {B:Nat}{w:World}{g n cap:Nat}{vs:List Value}(h:w.ownsRow B 127 5 (.slice (some ⟨g,0,none⟩) n cap) n vs)(i:Nat)(hi:i<n)(an:Option Addr)(nn cn:Nat)(x:GE):Put5 B w (put5 w g (i * 5) (.int .i64 x.g.kind) (.string x.g.text) (.int .i64 x.g.addr) (.int .i64 x.g.bits) (.slice an nn cn)) g n cap i an nn cn x:=by
 have h1:=(((((h.stored (i * 5) (.int .i64 x.g.kind)).1.stored (i * 5+1) (.string x.g.text)).1.stored (i * 5+2) (.int .i64 x.g.addr)).1.stored (i * 5+3) (.int .i64 x.g.bits)).1.stored (i * 5+4) (.slice an nn cn)).1
 have hl:vs.length=n * 5:=h.1
 have cc:=fun j (hj:j<n * 5)=>h1.cellAt j hj
 refine ⟨⟨_,h1⟩,fun l hl=>put5_other _ _ _ _ hl _ _ _ _ _,put5_size _ _ _ _ _ _ _ _,fun j hj ho=>?_,⟨?_,?_,?_,?_,?_⟩⟩
 ·refine (cc j hj).trans ?_
  rw [h.cellAt j hj]
  rw [List.getElem?_set_ne (by omega),List.getElem?_set_ne (by omega),List.getElem?_set_ne (by omega),List.getElem?_set_ne (by omega),List.getElem?_set_ne (by omega)]
 ·refine (cc _ (by omega)).trans ?_
  rw [List.getElem?_set_ne (by omega),List.getElem?_set_ne (by omega),List.getElem?_set_ne (by omega),List.getElem?_set_ne (by omega),List.getElem?_set_self (by omega)]
 ·refine (cc _ (by omega)).trans ?_
  rw [List.getElem?_set_ne (by omega),List.getElem?_set_ne (by omega),List.getElem?_set_ne (by omega),List.getElem?_set_self (by simp; omega)]
 ·refine (cc _ (by omega)).trans ?_
  rw [List.getElem?_set_ne (by omega),List.getElem?_set_ne (by omega),List.getElem?_set_self (by simp; omega)]
 ·refine (cc _ (by omega)).trans ?_
  rw [List.getElem?_set_ne (by omega),List.getElem?_set_self (by simp; omega)]
 ·refine (cc _ (by omega)).trans ?_
  rw [List.getElem?_set_self (by simp; omega)]
theorem toGenNameS_at (a:Option Addr)(n cap:Nat)(xs:List GE)(w:World)(h:Ges w a n xs)(hn:n≤1048576)(hz:∀ k,k<n→GeOk (xs.getD k default)) :
  Calls Tryz.prog 39 #[.slice a n cap] w fun e w'=>e=.returned (.slice (some ⟨w.heap.size,0,none⟩) n n)∧GePre w' w.heap.size n xs∧w.heap.size<w'.heap.size∧Below w.heap.size w w':=by
 obtain ⟨i0,hi,hz0,hz1,hz2⟩:=info_parts Tryz.infoGe
 have HK:Hid (Ges w a n xs):=h
 have HZ:Hid (∀ k,k<n→GeOk (xs.getD k default)):=hz
 have hlen:Hid (xs.length=n):=h.len
 clear h hz
 go_enter Tryz.func39,Tryz.ntmps39
 go_wp2_with (first | (at_make; refine wpList_make_full _ rfl _ _ 42 rfl w.heap.size 127 i0 _ 5 Tryz.underlying42 hi hz0 hz1 _ _ _ _ n rfl rfl rfl rfl (by rw [hz2]; omega) (by unfold maxLen; omega) (by exact Nat.le_refl _) ?_; intro w1 hown hgrow))
 have hbl:Below w.heap.size w w1:=(Below.refl _ _).grown hgrow (Nat.le_refl _) (by simp)
 clear hgrow hi hz0 hz1 hz2
 go_loopw [4] (fun i wr=>∃ k:Nat,k≤n∧i=.int .i64 k∧Hid (∃ vs,wr.ownsRow w.heap.size 127 5 (.slice (some ⟨w.heap.size,0,none⟩) n n) n vs)∧Hid (GePre wr w.heap.size k xs)∧Below w.heap.size w wr) (fun i _=>n - (intOf i).toNat)
 case atStart=>exact ⟨0,Nat.zero_le _,rfl,⟨_,hown⟩,fun j hj=>absurd hj (Nat.not_lt_zero _),hbl⟩
 case round =>
  obtain ⟨k,hk,rfl,HOR,HPRE,hbr⟩:=hrel
  obtain ⟨vs,hor⟩:=HOR.out
  have hgl:=(hor.lt _ rfl).2
  have HOV:Hid (_):=hor
  clear HOR hor hown hbl
  by_cases hkn:k<n
  ·obtain ⟨b,off,an,nn,cn,rfl,hlb,hc,hp,_⟩:=HK.out.get k hkn
   have hgp:=HZ.out k hkn
   obtain ⟨y,hy⟩:∃ y,y=xs.getD k default:=⟨_,rfl⟩
   rw [← hy] at hc hp hgp
   have HY:Hid (y=xs.getD k default):=hy
   have hnn:nn≤1048576:=by rw [← hp.len]; exact hgp.2.1
   obtain ⟨c0,c1,c2,c3,c4⟩:=hc.of (w':=wr) (fun i=>hbr.cell (p:=⟨b,i,none⟩) hlb)
   have HP:Hid (Pts wr an nn y.parts):=hp.kept hbr
   have hkni:(k:Int)<(n:Int):=by omega
   have hs:=hbr.size
   clear hc hy hp hgp
   go_wp2_with fail
   refine (toGenName_at y.g an nn cn y.parts _ HP.out hnn).mono ?_
   rintro e w2 ⟨g2,rfl,hg2,hp2,hb2⟩
   have hor2:w2.ownsRow w.heap.size 127 5 (.slice (some ⟨w.heap.size,0,none⟩) n n) n vs:=ownsRow_below HOV.out hb2
   have hs2:=hb2.size
   have fr:∀ j,w2.frozen? ⟨w.heap.size,j,none⟩=false:=fun j=>hor2.frozenAt j
   have hvl:vs.length=n * 5:=hor2.1
   have cx:∀ j,j<n * 5→∃ z,w2.cell? ⟨w.heap.size,j,none⟩=some z:=fun j hj=>⟨_,(hor2.cellAt j hj).trans (List.getElem?_eq_getElem (by omega))⟩
   obtain ⟨z0,x0⟩:=cx (k * 5) (by omega)
   obtain ⟨z1,x1⟩:=cx (k * 5+1) (by omega)
   obtain ⟨z2,x2⟩:=cx (k * 5+2) (by omega)
   obtain ⟨z3,x3⟩:=cx (k * 5+3) (by omega)
   obtain ⟨z4,x4⟩:=cx (k * 5+4) (by omega)
   have f0:=fr (k * 5)
   have f1:=fr (k * 5+1)
   have f2:=fr (k * 5+2)
   have f3:=fr (k * 5+3)
   have f4:=fr (k * 5+4)
   have hS:=put5_is hor2 k hkn (some ⟨g2,0,none⟩) nn nn y
   have hP:GePre (put5 w2 w.heap.size (k * 5) (.int .i64 y.g.kind) (.string y.g.text) (.int .i64 y.g.addr) (.int .i64 y.g.bits) (.slice (some ⟨g2,0,none⟩) nn nn)) w.heap.size (k+1) xs:=by
    intro j hj
    by_cases hjk:j=k
    ·subst hjk
     rw [← HY.out]
     exact ⟨g2,nn,by omega,hS.cells,hp2.same (hS.other _ (by omega)) (Nat.le_of_eq hS.size.symm)⟩
    ·obtain ⟨gn,mm,q1,q2,q3⟩:=(HPRE.out.kept hgl hb2) j (by omega)
     have hx:=hS.old
     exact ⟨gn,mm,q1,⟨(hx _ (by omega) (by omega)).trans q2.c0,(hx _ (by omega) (by omega)).trans q2.c1,(hx _ (by omega) (by omega)).trans q2.c2,(hx _ (by omega) (by omega)).trans q2.c3,(hx _ (by omega) (by omega)).trans q2.c4⟩,q3.same (hS.other _ (by omega)) (Nat.le_of_eq hS.size.symm)⟩
   have hB2:=hbr.trans (hb2.mono hs)
   have hB4:Below w.heap.size w (put5 w2 w.heap.size (k * 5) (.int .i64 y.g.kind) (.string y.g.text) (.int .i64 y.g.addr) (.int .i64 y.g.bits) (.slice (some ⟨g2,0,none⟩) nn nn)):=⟨hB2.os,hB2.tape,hB2.output,by rw [hS.size]; exact hB2.size,fun l hl=>(hS.other l (by omega)).trans (hB2.block l hl)⟩
   have FIN:Hid (_∧_∧_):=⟨hS.own,hP,hB4⟩
   have hgl2:w.heap.size<w2.heap.size:=by omega
   clear fr cx hS hP hB4 hB2 hor2 hp2 hb2 hvl HPRE HOV HP HK
   unfold gnv
   go_wp2
   go_roundw
   case rel=>exact ⟨k+1,by omega,by go_num,FIN.out.1,FIN.out.2.1,FIN.out.2.2⟩
   case measure=>simp [intOf]; omega
  ·obtain rfl:n=k:=by omega
   clear HOV
   go_wp2
   go_ret
   exact ⟨rfl,HPRE.out,hgl,hbr⟩
theorem GePre.ges {w:World}{g n:Nat}{xs:List GE}(h:GePre w g n xs)(hl:xs.length=n)(hn:n≤9223372036854775807)(hg:g<w.heap.size)(hz:∀ k,k<n→GeOk (xs.getD k default)):Ges w (some ⟨g,0,none⟩) n xs:=by
 refine ⟨hl,hn,fun k hk=>?_⟩
 obtain ⟨gn,nn,h1,h3,h4⟩:=h k hk
 exact ⟨g,0,_,_,_,rfl,hg,by rw [Nat.zero_add]; exact h3,h4,Nat.le_trans (hz k hk).1 (by decide)⟩
end Go.Proofs.YtmdfbnlgfhjnoaaGreatDoor
