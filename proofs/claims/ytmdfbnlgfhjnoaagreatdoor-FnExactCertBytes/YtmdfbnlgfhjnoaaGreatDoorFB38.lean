import Derived.Test.YtmdfbnlgfhjnoaaGreatDoorFB37
import Derived.Test.YtmdfbnlgfhjnoaaGreatDoorFB16
set_option maxRecDepth 10000
set_option maxHeartbeats 8000000
set_option linter.unusedVariables false
namespace Go.Proofs.YtmdfbnlgfhjnoaaGreatDoor
open Go.RowKit
def GePreO (w:World)(g k:Nat)(xs:List GE):Prop:=∀ j,j<k→∃ gn nn,g<gn∧Cells5 w g (j * 5) (some ⟨gn,0,none⟩) nn nn (xs.getD j default)∧PtQ g w gn nn (xs.getD j default).parts
theorem GePreO.kept {w w':World}{g k:Nat}{xs:List GE}(h:GePreO w g k xs)(hg:g<w.heap.size)(hb:Below w.heap.size w w'):GePreO w' g k xs:=fun j hj=>by
 obtain ⟨gn,nn,h1,h3,h4⟩:=h j hj
 exact ⟨gn,nn,h1,h3.of (fun i=>hb.cell (p:=⟨g,i,none⟩) hg),h4.kept hb⟩
theorem toGenNameS_q (a:Option Addr)(n cap:Nat)(xs:List GE)(w:World)(h:Ges w a n xs)(hn:n≤1048576)(hz:∀ k,k<n→GeOk (xs.getD k default)) :
  Calls Tryz.prog 39 #[.slice a n cap] w fun e w'=>e=.returned (.slice (some ⟨w.heap.size,0,none⟩) n n)∧GePreO w' w.heap.size n xs∧(∃ vs,w'.ownsRow w.heap.size 127 5 (.slice (some ⟨w.heap.size,0,none⟩) n n) n vs)∧w.heap.size<w'.heap.size∧Below w.heap.size w w':=by
 obtain ⟨i0,hi,hz0,hz1,hz2⟩:=info_parts Tryz.infoGe
 have HK:Hid (Ges w a n xs):=h
 have HZ:Hid (∀ k,k<n→GeOk (xs.getD k default)):=hz
 have hlen:Hid (xs.length=n):=h.len
 clear h hz
 go_enter Tryz.func39,Tryz.ntmps39
 go_wp2_with (first | (at_make; refine wpList_make_full _ rfl _ _ 42 rfl w.heap.size 127 i0 _ 5 Tryz.underlying42 hi hz0 hz1 _ _ _ _ n rfl rfl rfl rfl (by rw [hz2]; omega) (by unfold maxLen; omega) (by exact Nat.le_refl _) ?_; intro w1 hown hgrow))
 have hbl:Below w.heap.size w w1:=(Below.refl _ _).grown hgrow (Nat.le_refl _) (by simp)
 clear hgrow hi hz0 hz1 hz2
 go_loopw [4] (fun i wr=>∃ k:Nat,k≤n∧i=.int .i64 k∧Hid (∃ vs,wr.ownsRow w.heap.size 127 5 (.slice (some ⟨w.heap.size,0,none⟩) n n) n vs)∧Hid (GePreO wr w.heap.size k xs)∧Below w.heap.size w wr) (fun i _=>n - (intOf i).toNat)
 case atStart=>exact ⟨0,Nat.zero_le _,rfl,⟨_,hown⟩,fun j hj=>absurd hj (Nat.not_lt_zero _),hbl⟩
 case round =>
  obtain ⟨k,hk,rfl,HOR,HPRE,hbr⟩:=hrel
  obtain ⟨vs,hor⟩:=HOR.out
  have hgl:=(hor.lt _ rfl).2
  have HOV:Hid (_):=hor
  clear HOR hor hown hbl
  by_cases hkn:k<n
  ·obtain ⟨b,off,an,nn,cn,rfl,hlb,hc,hp,_⟩:=HK.out.get k hkn
   have hgp:=HZ.out k hkn
   obtain ⟨y,hy⟩:∃ y,y=xs.getD k default:=⟨_,rfl⟩
   rw [← hy] at hc hp hgp
   have HY:Hid (y=xs.getD k default):=hy
   have hnn:nn≤1048576:=by rw [← hp.len]; exact hgp.2.1
   obtain ⟨c0,c1,c2,c3,c4⟩:=hc.of (w':=wr) (fun i=>hbr.cell (p:=⟨b,i,none⟩) hlb)
   have HP:Hid (Pts wr an nn y.parts):=hp.kept hbr
   have hkni:(k:Int)<(n:Int):=by omega
   have hs:=hbr.size
   clear hc hy hp hgp
   go_wp2_with fail
   refine (toGenName_q y.g an nn cn y.parts _ HP.out hnn).mono ?_
   rintro e w2 ⟨g2,rfl,hg2,hp2,hb2⟩
   replace hp2:PtQ w.heap.size w2 g2 nn y.parts:=hp2.lower hs
   have hor2:w2.ownsRow w.heap.size 127 5 (.slice (some ⟨w.heap.size,0,none⟩) n n) n vs:=ownsRow_below HOV.out hb2
   have hs2:=hb2.size
   have fr:∀ j,w2.frozen? ⟨w.heap.size,j,none⟩=false:=fun j=>hor2.frozenAt j
   have hvl:vs.length=n * 5:=hor2.1
   have cx:∀ j,j<n * 5→∃ z,w2.cell? ⟨w.heap.size,j,none⟩=some z:=fun j hj=>⟨_,(hor2.cellAt j hj).trans (List.getElem?_eq_getElem (by omega))⟩
   obtain ⟨z0,x0⟩:=cx (k * 5) (by omega)
   obtain ⟨z1,x1⟩:=cx (k * 5+1) (by omega)
   obtain ⟨z2,x2⟩:=cx (k * 5+2) (by omega)
   obtain ⟨z3,x3⟩:=cx (k * 5+3) (by omega)
   obtain ⟨z4,x4⟩:=cx (k * 5+4) (by omega)
   have f0:=fr (k * 5)
   have f1:=fr (k * 5+1)
   have f2:=fr (k * 5+2)
   have f3:=fr (k * 5+3)
   have f4:=fr (k * 5+4)
   have hS:=put5_is hor2 k hkn (some ⟨g2,0,none⟩) nn nn y
   have hP:GePreO (put5 w2 w.heap.size (k * 5) (.int .i64 y.g.kind) (.string y.g.text) (.int .i64 y.g.addr) (.int .i64 y.g.bits) (.slice (some ⟨g2,0,none⟩) nn nn)) w.heap.size (k+1) xs:=by
    intro j hj
    by_cases hjk:j=k
    ·subst hjk
     rw [← HY.out]
     exact ⟨g2,nn,by omega,hS.cells,hp2.same (hS.other _ (by omega)) (Nat.le_of_eq hS.size.symm)⟩
    ·obtain ⟨gn,mm,q1,q2,q3⟩:=(HPRE.out.kept hgl hb2) j (by omega)
     have hx:=hS.old
     exact ⟨gn,mm,q1,⟨(hx _ (by omega) (by omega)).trans q2.c0,(hx _ (by omega) (by omega)).trans q2.c1,(hx _ (by omega) (by omega)).trans q2.c2,(hx _ (by omega) (by omega)).trans q2.c3,(hx _ (by omega) (by omega)).trans q2.c4⟩,q3.same (hS.other _ (by omega)) (Nat.le_of_eq hS.size.symm)⟩
   have hB2:=hbr.trans (hb2.mono hs)
   have hB4:Below w.heap.size w (put5 w2 w.heap.size (k * 5) (.int .i64 y.g.kind) (.string y.g.text) (.int .i64 y.g.addr) (.int .i64 y.g.bits) (.slice (some ⟨g2,0,none⟩) nn nn)):=⟨hB2.os,hB2.tape,hB2.output,by rw [hS.size]; exact hB2.size,fun l hl=>(hS.other l (by omega)).trans (hB2.block l hl)⟩
   have FIN:Hid (_∧_∧_):=⟨hS.own,hP,hB4⟩
   have hgl2:w.heap.size<w2.heap.size:=by omega
   clear fr cx hS hP hB4 hB2 hor2 hp2 hb2 hvl HPRE HOV HP HK
   unfold gnv
   go_wp2
   go_roundw
   case rel=>exact ⟨k+1,by omega,by go_num,FIN.out.1,FIN.out.2.1,FIN.out.2.2⟩
   case measure=>simp [intOf]; omega
  ·obtain rfl:n=k:=by omega
   go_wp2
   go_ret
   exact ⟨rfl,HPRE.out,⟨_,HOV.out⟩,hgl,hbr⟩
structure GesO (lo:Nat)(W:World)(a:Option Addr)(n:Nat)(xs:List GE):Prop where
 row:Ges W a n xs
 fr:NR 5 4 2 lo W.heap.size W a n
theorem GesO.lo {l l':Nat}{W:World}{a:Option Addr}{n:Nat}{xs:List GE}(h:GesO l W a n xs)(hl:l'≤l):GesO l' W a n xs:=⟨h.row,h.fr.mono hl (Nat.le_refl _)⟩
def GeR (B n:Nat)(xs:List GE)(W:World):Prop:=GePreO W B n xs∧(∃ vs,W.ownsRow B 127 5 (.slice (some ⟨B,0,none⟩) n n) n vs)∧B<W.heap.size
theorem geR_stab (B n:Nat)(xs:List GE):Stab B (GeR B n xs):=fun W W' e s h=>by
 have hb:=e B (Nat.le_refl _) h.2.2
 refine ⟨fun j hj=>?_,?_,Nat.lt_of_lt_of_le h.2.2 s⟩
 ·obtain ⟨gn,nn,h1,h2,h3⟩:=h.1 j hj
  exact ⟨gn,nn,h1,h2.of (fun i=>by simp [World.cell?,hb]),PtQ.stab (Nat.le_refl _) (Nat.le_of_lt h1) W W' e s h3⟩
 ·obtain ⟨vs,hv⟩:=h.2.1
  exact ⟨vs,own_same hv hb⟩
theorem geR_o {B n:Nat}{xs:List GE}{W:World}(h:GeR B n xs W)(hl:xs.length=n)(hm:n≤9223372036854775807)(hz:∀ k,k<n→GeOk (xs.getD k default)):GesO B W (some ⟨B,0,none⟩) n xs:=by
 obtain ⟨hp,⟨vs,hv⟩,hB⟩:=h
 refine ⟨⟨hl,hm,fun k hk=>?_⟩,nr_owns hv (fun g e j hj=>?_)⟩
 ·obtain ⟨gn,nn,h1,h3,h4⟩:=hp k hk
  exact ⟨B,0,_,_,_,rfl,hB,by rw [Nat.zero_add]; exact h3,h4.row,Nat.le_trans (hz k hk).1 (by decide)⟩
 ·simp only [Option.some.injEq,Addr.mk.injEq,and_true] at e
  subst e
  obtain ⟨gn,nn,h1,h3,h4⟩:=hp j hj
  refine ⟨fun i hi hq=>?_,some ⟨gn,0,none⟩,nn,nn,h3.c4,?_,pts_fr h4⟩
  ·match i,hi,hq with
   | 0,_,_=>exact ⟨_,h3.c0,isF.i _ _⟩
   | 1,_,_=>exact ⟨_,h3.c1,isF.s _⟩
   | 2,_,_=>exact ⟨_,h3.c2,isF.i _ _⟩
   | 3,_,_=>exact ⟨_,h3.c3,isF.i _ _⟩
   | 4,_,hq=>exact absurd rfl hq
  ·rw [← h4.row.len]
   exact (hz j hj).2.1
theorem toGenNameS_o (a:Option Addr)(n cap:Nat)(xs:List GE)(w:World)(h:Ges w a n xs)(hn:n≤1048576)(hz:∀ k,k<n→GeOk (xs.getD k default)) :
  Calls Tryz.prog 39 #[.slice a n cap] w fun e w'=>∃ a',e=.returned (.slice a' n n)∧Keeps w.heap.size w' (fun W=>GesO w.heap.size W a' n xs)∧Below w.heap.size w w' :=
 (toGenNameS_q a n cap xs w h hn hz).mono fun _ _ ⟨h1,h2,h3,h4,h5⟩=>⟨_,h1,(keeps_of (geR_stab _ _ _) ⟨h2,h3,h4⟩).map (fun W q=>geR_o q h.len h.max hz),h5⟩
end Go.Proofs.YtmdfbnlgfhjnoaaGreatDoor
