import Derived.Test.YtmdfbnlgfhjnoaaGreatDoorFB32
import Derived.Test.YtmdfbnlgfhjnoaaGreatDoorFB05
import Derived.Test.YtmdfbnlgfhjnoaaGreatDoorFB20
import Derived.Test.YtmdfbnlgfhjnoaaGreatDoorFB07
import Derived.OpenShut
import Derived.Test.YtmdfbnlgfhjnoaaGreatDoorFB16
import Derived.Test.YtmdfbnlgfhjnoaaGreatDoorFB11
import Derived.Test.YtmdfbnlgfhjnoaaGreatDoorFB12
set_option maxRecDepth 10000
set_option maxHeartbeats 8000000
set_option linter.unusedVariables false
namespace Go.Proofs.YtmdfbnlgfhjnoaaGreatDoor
open Go.RowKit
def isF (v:Value):Prop:=(∃ k m,v=.int k m)∨(∃ s,v=.string s)∨∃ b,v=.bool b
theorem isF.i (k:IntKind)(m:Int):isF (.int k m):=.inl ⟨k,m,rfl⟩
theorem isF.s (s:ByteArray):isF (.string s):=.inr (.inl ⟨s,rfl⟩)
theorem isF.b (b:Bool):isF (.bool b):=.inr (.inr ⟨b,rfl⟩)
def KV (v v':Value):Prop:=v'=v∨(isF v∧isF v')
theorem KV.trans {a b c:Value}(h:KV a b)(k:KV b c):KV a c:=by
 rcases h with rfl | ⟨h1,h2⟩
 ·exact k
 ·rcases k with rfl | ⟨k1,k2⟩
  ·exact .inr ⟨h1,h2⟩
  ·exact .inr ⟨h1,k2⟩
def Sh (w w':World):Prop:=w.heap.size≤w'.heap.size∧∀ (b:Nat) (cur:Array Value) (t:Nat),w.heap[b]? = some (.cells cur t (0,0))→∃ cur',w'.heap[b]? = some (.cells cur' t (0,0))∧∀ (j:Nat) (v:Value),cur[j]? = some v→∃ v',cur'[j]? = some v'∧KV v v'
theorem Sh.refl (w:World):Sh w w:=⟨Nat.le_refl _,fun _ cur _ h=>⟨cur,h,fun j v hv=>⟨v,hv,.inl rfl⟩⟩⟩
theorem Sh.trans {a b c:World}(h:Sh a b)(k:Sh b c):Sh a c:=⟨Nat.le_trans h.1 k.1,fun x cur t hc=>by
 obtain ⟨c1,h1,s1⟩:=h.2 x cur t hc
 obtain ⟨c2,h2,s2⟩:=k.2 x c1 t h1
 refine ⟨c2,h2,fun j v hv=>?_⟩
 obtain ⟨v1,q1,r1⟩:=s1 j v hv
 obtain ⟨v2,q2,r2⟩:=s2 j v1 q1
 exact ⟨v2,q2,r1.trans r2⟩⟩
theorem Sh.below {w w':World}(h:Below w.heap.size w w'):Sh w w':=⟨h.size,fun b cur _ hc=>⟨cur,(h.block b (Array.getElem?_eq_some_iff.1 hc).1).trans hc,fun j v hv=>⟨v,hv,.inl rfl⟩⟩⟩
theorem Sh.set {w:World}{g j t:Nat}{cur:Array Value}{v:Value}(hb:w.heap[g]? = some (.cells cur t (0,0)))(hv:cur[j]? = some v)(hi:isF v){u:Value}(hu:isF u):Sh w (w.setCell ⟨g,j,none⟩ u):=⟨by simp,fun b c t' hc=>by
 by_cases e:b=g
 ·subst e
  have e2:=hb.symm.trans hc
  simp only [Option.some.injEq,Obj.cells.injEq,and_true] at e2
  obtain ⟨rfl,rfl⟩:=e2
  refine ⟨_,heap_setCell_same w b j cur t _ hb,fun i x hx=>?_⟩
  by_cases ei:j=i
  ·subst ei
   have e3:x=v:=by rw [hv] at hx; injection hx with hx; exact hx.symm
   subst e3
   exact ⟨u,by rw [Array.getElem?_setIfInBounds,if_pos rfl,if_pos (Array.getElem?_eq_some_iff.1 hv).1],.inr ⟨hi,hu⟩⟩
  ·exact ⟨x,by rw [Array.getElem?_setIfInBounds,if_neg ei]; exact hx,.inl rfl⟩
 ·exact ⟨c,(heap_setCell_other w ⟨g,j,none⟩ b _ (by simpa using e)).trans hc,fun i x hx=>⟨x,hx,.inl rfl⟩⟩⟩
def FR (s lo hi:Nat)(w:World)(a:Option Addr)(n:Nat):Prop:=n=0∨∃ g cur t,a=some ⟨g,0,none⟩∧lo≤g∧g<hi∧w.heap[g]? = some (.cells cur t (0,0))∧∀ j,j<n * s→∃ v,cur[j]? = some v∧isF v
theorem KV.f {v v':Value}(h:KV v v')(hi:isF v):isF v':=by
 rcases h with rfl | h
 ·exact hi
 ·exact h.2
theorem KV.sl {v':Value}{q:Option Addr}{m c:Nat}(h:KV (.slice q m c) v'):v'=.slice q m c:=by
 rcases h with rfl | ⟨⟨k,m,h⟩ | ⟨s,h⟩ | ⟨b,h⟩,_⟩
 ·rfl
 ·cases h
 ·cases h
 ·cases h
theorem FR.sh {s lo hi:Nat}{w w':World}{a:Option Addr}{n:Nat}(h:FR s lo hi w a n)(k:Sh w w'):FR s lo hi w' a n:=by
 rcases h with h | ⟨g,cur,t,h1,h2,h3,h4,h5⟩
 ·exact .inl h
 ·obtain ⟨c1,h6,h7⟩:=k.2 g cur t h4
  refine .inr ⟨g,c1,t,h1,h2,h3,h6,fun j hj=>?_⟩
  obtain ⟨v,e,hv⟩:=h5 j hj
  obtain ⟨v',e',hk⟩:=h7 j v e
  exact ⟨v',e',hk.f hv⟩
theorem FR.mono {s lo hi lo' hi':Nat}{w:World}{a:Option Addr}{n:Nat}(h:FR s lo hi w a n)(h0:lo'≤lo)(hh:hi≤hi'):FR s lo' hi' w a n:=by
 rcases h with h | ⟨g,cur,t,h1,h2,h3,h4⟩
 ·exact .inl h
 ·exact .inr ⟨g,cur,t,h1,by omega,by omega,h4⟩
theorem FR.at_ {s lo hi:Nat}{w:World}{a:Option Addr}{n:Nat}(h:FR s lo hi w a n)(hn:n≠0):∃ g,a=some ⟨g,0,none⟩∧lo≤g∧g<hi∧g<w.heap.size∧∀ j,j<n * s→(∃ y,w.cell? ⟨g,j,none⟩=some y)∧w.frozen? ⟨g,j,none⟩=false∧∀ u,isF u→Sh w (w.setCell ⟨g,j,none⟩ u):=by
 rcases h with h | ⟨g,cur,t,h1,h2,h3,h4,h5⟩
 ·exact absurd h hn
 ·refine ⟨g,h1,h2,h3,(Array.getElem?_eq_some_iff.1 h4).1,fun j hj=>?_⟩
  obtain ⟨v,e,hv⟩:=h5 j hj
  exact ⟨⟨v,(cell_of_row _ _ _ _ _ _ h4).trans e⟩,frozen_of_row w g j _ _ h4,fun u hu=>Sh.set h4 e hv hu⟩
theorem fr_owns {w:World}{lo e s n c:Nat}{a:Option Addr}{vs:List Value}(h:w.ownsRow lo e s (.slice a n c) n vs)(hv:∀ g,a=some ⟨g,0,none⟩→∀ j,j<n * s→∃ v,w.cell? ⟨g,j,none⟩=some v∧isF v):FR s lo w.heap.size w a n:=by
 rcases h.2 with ⟨_,h0⟩ | ⟨g,cap,cur,hs,hb,hg,_⟩
 ·exact .inl h0
 ·simp only [Value.slice.injEq,true_and] at hs
  obtain ⟨rfl,rfl⟩:=hs
  refine .inr ⟨g,cur,e,rfl,hb,(Array.getElem?_eq_some_iff.1 hg).1,hg,fun j hj=>?_⟩
  obtain ⟨v,h1,h2⟩:=hv g rfl j hj
  exact ⟨v,(cell_of_row _ _ j _ _ _ hg).symm.trans h1,h2⟩
theorem fr_all {w:World}{lo e s n c:Nat}{a:Option Addr}{vs:List Value}(h:w.ownsRow lo e s (.slice a n c) n vs)(hv:∀ v∈vs,isF v):FR s lo w.heap.size w a n:=by
 have hl:vs.length=n * s:=h.1
 rcases h.2 with ⟨_,h0⟩ | ⟨g,cap,cur,hs,hb,hg,_⟩
 ·exact .inl h0
 ·simp only [Value.slice.injEq,true_and] at hs
  obtain ⟨rfl,rfl⟩:=hs
  refine .inr ⟨g,cur,e,rfl,hb,(Array.getElem?_eq_some_iff.1 hg).1,hg,fun j hj=>?_⟩
  have q:=(cell_of_row _ _ j _ _ _ hg).symm.trans (h.cellAt j hj)
  rw [List.getElem?_eq_getElem (by omega)] at q
  exact ⟨_,q,hv _ (List.getElem_mem _)⟩
def NR (s q s' lo hi:Nat)(w:World)(a:Option Addr)(n:Nat):Prop:=n=0∨∃ g cur t,a=some ⟨g,0,none⟩∧lo≤g∧g<hi∧w.heap[g]? = some (.cells cur t (0,0))∧∀ j,j<n→(∀ i,i<s→i≠q→∃ v,cur[j * s+i]? = some v∧isF v)∧∃ z m c,cur[j * s+q]? = some (.slice z m c)∧m≤1048576∧FR s' lo hi w z m
theorem NR.sh {s q s' lo hi:Nat}{w w':World}{a:Option Addr}{n:Nat}(h:NR s q s' lo hi w a n)(k:Sh w w'):NR s q s' lo hi w' a n:=by
 rcases h with h | ⟨g,cur,t,h1,h2,h3,h4,h5⟩
 ·exact .inl h
 ·obtain ⟨c1,h6,h7⟩:=k.2 g cur t h4
  refine .inr ⟨g,c1,t,h1,h2,h3,h6,fun j hj=>?_⟩
  obtain ⟨hf,z,m,c,ez,hm,hr⟩:=h5 j hj
  obtain ⟨z',ez',hz⟩:=h7 _ _ ez
  refine ⟨fun i hi hq=>?_,z,m,c,by rw [ez',hz.sl],hm,hr.sh k⟩
  obtain ⟨v,e,hv⟩:=hf i hi hq
  obtain ⟨v',e',hk⟩:=h7 _ v e
  exact ⟨v',e',hk.f hv⟩
theorem NR.mono {s q s' lo hi lo' hi':Nat}{w:World}{a:Option Addr}{n:Nat}(h:NR s q s' lo hi w a n)(h0:lo'≤lo)(hh:hi≤hi'):NR s q s' lo' hi' w a n:=by
 rcases h with h | ⟨g,cur,t,h1,h2,h3,h4,h5⟩
 ·exact .inl h
 ·refine .inr ⟨g,cur,t,h1,by omega,by omega,h4,fun j hj=>?_⟩
  obtain ⟨hf,z,m,c,ez,hm,hr⟩:=h5 j hj
  exact ⟨hf,z,m,c,ez,hm,hr.mono h0 hh⟩
theorem NR.at_ {s q s' lo hi:Nat}{w:World}{a:Option Addr}{n:Nat}(h:NR s q s' lo hi w a n)(j:Nat)(hj:j<n):∃ g z m c,a=some ⟨g,0,none⟩∧lo≤g∧g<hi∧g<w.heap.size∧(∀ i,i<s→i≠q→(∃ y,w.cell? ⟨g,j * s+i,none⟩=some y)∧w.frozen? ⟨g,j * s+i,none⟩=false∧∀ u,isF u→Sh w (w.setCell ⟨g,j * s+i,none⟩ u))∧w.cell? ⟨g,j * s+q,none⟩=some (.slice z m c)∧m≤1048576∧FR s' lo hi w z m:=by
 rcases h with h | ⟨g,cur,t,h1,h2,h3,h4,h5⟩
 ·omega
 ·obtain ⟨hf,z,m,c,ez,hm,hr⟩:=h5 j hj
  refine ⟨g,z,m,c,h1,h2,h3,(Array.getElem?_eq_some_iff.1 h4).1,fun i hi hq=>?_,(cell_of_row _ _ _ _ _ _ h4).trans ez,hm,hr⟩
  obtain ⟨v,e,hv⟩:=hf i hi hq
  exact ⟨⟨v,(cell_of_row _ _ _ _ _ _ h4).trans e⟩,frozen_of_row w g _ _ _ h4,fun u hu=>Sh.set h4 e hv hu⟩
theorem nr_owns {w:World}{lo e s q s' n c:Nat}{a:Option Addr}{vs:List Value}(h:w.ownsRow lo e s (.slice a n c) n vs)(hv:∀ g,a=some ⟨g,0,none⟩→∀ j,j<n→(∀ i,i<s→i≠q→∃ v,w.cell? ⟨g,j * s+i,none⟩=some v∧isF v)∧∃ z m c,w.cell? ⟨g,j * s+q,none⟩=some (.slice z m c)∧m≤1048576∧FR s' lo w.heap.size w z m):NR s q s' lo w.heap.size w a n:=by
 rcases h.2 with ⟨_,h0⟩ | ⟨g,cap,cur,hs,hb,hg,_⟩
 ·exact .inl h0
 ·simp only [Value.slice.injEq,true_and] at hs
  obtain ⟨rfl,rfl⟩:=hs
  refine .inr ⟨g,cur,e,rfl,hb,(Array.getElem?_eq_some_iff.1 hg).1,hg,fun j hj=>?_⟩
  obtain ⟨h1,z,m,c,h2,h3,h4⟩:=hv g rfl j hj
  refine ⟨fun i hi hq=>?_,z,m,c,(cell_of_row _ _ _ _ _ _ hg).symm.trans h2,h3,h4⟩
  obtain ⟨v,h5,h6⟩:=h1 i hi hq
  exact ⟨v,(cell_of_row _ _ _ _ _ _ hg).symm.trans h5,h6⟩
theorem touch_setF {lo hi:Nat}(w:World)(g j:Nat)(u:Value)(h1:lo≤g)(h2:g<hi):Touch lo hi w (w.setCell ⟨g,j,none⟩ u):=⟨rfl,rfl,rfl,by simp,fun i _ hi'=>heap_setCell_other w ⟨g,j,none⟩ i u (by simp; omega)⟩
def MkF (lo hi:Nat)(w:World)(k d:Nat)(e:Ending)(w':World):Prop:=∃ K:Nat,k≤K∧K≤k+d∧e=.returned (.int .i64 (K:Int))∧Touch lo hi w w'∧Sh w w'
open Go.RowKit
theorem ownsRow_lower {w:World}{B B' t s n c:Nat}{a:Option Addr}{vs:List Value}(h:w.ownsRow B t s (.slice a n c) n vs)(hB:B'≤B):w.ownsRow B' t s (.slice a n c) n vs:=by
 refine ⟨h.1,?_⟩
 rcases h.2 with q | ⟨g,c',cur,h1,hb,r⟩
 ·exact .inl q
 ·exact .inr ⟨g,c',cur,h1,Nat.le_trans hB hb,r⟩
theorem own_same {w w':World}{B t s n c g:Nat}{vs:List Value}(h:w.ownsRow B t s (.slice (some ⟨g,0,none⟩) n c) n vs)(e:w'.heap[g]? = w.heap[g]?):w'.ownsRow B t s (.slice (some ⟨g,0,none⟩) n c) n vs:=by
 refine ⟨h.1,?_⟩
 rcases h.2 with q | ⟨g',c',cur,h1,hb,hg,r⟩
 ·exact .inl q
 ·have h2:=h1
  simp only [Value.slice.injEq,Option.some.injEq,Addr.mk.injEq,true_and,and_true] at h2
  obtain ⟨rfl,rfl⟩:=h2
  exact .inr ⟨g,c,cur,h1,hb,e.trans hg,r⟩
theorem toPartS_own (a:Option Addr)(n cap:Nat)(xs:List PT)(w:World)(h:Pts w a n xs)(hn:n≤1048576) :
  Calls Tryz.prog 90 #[.slice a n cap] w fun e w'=>e=.returned (.slice (some ⟨w.heap.size,0,none⟩) n n)∧(∃ vs,w'.ownsRow w.heap.size 172 2 (.slice (some ⟨w.heap.size,0,none⟩) n n) n vs)∧Pts w' (some ⟨w.heap.size,0,none⟩) n xs∧Below w.heap.size w w':=by
 obtain ⟨i0,hi,hz0,hz1,hz2⟩:=info_parts Tryz.infoPart
 have HK:Hid (Pts w a n xs):=h
 have hlen:Hid (xs.length=n):=h.len
 clear h
 go_enter Tryz.func90,Tryz.ntmps90
 go_wp2_with (first | (at_make; refine wpList_make_full _ rfl _ _ 38 rfl w.heap.size 172 i0 _ 2 Tryz.underlying38 hi hz0 hz1 _ _ _ _ n rfl rfl rfl rfl (by rw [hz2]; omega) (by unfold maxLen; omega) (by exact Nat.le_refl _) ?_; intro w1 hown hgrow))
 have hbl:Below w.heap.size w w1:=(Below.refl _ _).grown hgrow (Nat.le_refl _) (by simp)
 clear hgrow hi hz0 hz1 hz2
 go_loopw [4] (fun i wr=>∃ k:Nat,k≤n∧i=.int .i64 k∧(∃ vs,wr.ownsRow w.heap.size 172 2 (.slice (some ⟨w.heap.size,0,none⟩) n n) n vs)∧PtPre wr w.heap.size k xs∧Below w.heap.size w wr) (fun i _=>n - (intOf i).toNat)
 case atStart=>exact ⟨0,Nat.zero_le _,rfl,⟨_,hown⟩,fun j hj=>absurd hj (Nat.not_lt_zero _),hbl⟩
 case round =>
  obtain ⟨k,hk,rfl,⟨vs,hor⟩,hpre,hbr⟩:=hrel
  have hgl:=(hor.lt _ rfl).2
  by_cases hkn:k<n
  ·obtain ⟨b,off,rfl,hlb,hc,hnk⟩:=HK.out.get k hkn
   obtain ⟨y,hy⟩:∃ y,y=xs.getD k default:=⟨_,rfl⟩
   rw [← hy] at hc
   have HY:Hid (y=xs.getD k default):=hy
   obtain ⟨c0,c1⟩:=hc.of (w':=wr) (fun i=>hbr.cell (p:=⟨b,i,none⟩) hlb)
   have hkni:(k:Int)<(n:Int):=by omega
   have hs:=hbr.size
   have HPRE:Hid (PtPre wr w.heap.size k xs):=hpre
   have HOR:Hid (_):=hor
   clear hc hy hpre hor
   go_wp2_with fail
   refine (toPart_any y _).mono ?_
   rintro e w2 ⟨rfl,hb2⟩
   have hor2:w2.ownsRow w.heap.size 172 2 (.slice (some ⟨w.heap.size,0,none⟩) n n) n vs:=ownsRow_below HOR.out hb2
   have hs2:=hb2.size
   have fr:∀ j,w2.frozen? ⟨w.heap.size,j,none⟩=false:=fun j=>hor2.frozenAt j
   have hvl:vs.length=n * 2:=hor2.1
   have cx:∀ j,j<n * 2→∃ z,w2.cell? ⟨w.heap.size,j,none⟩=some z:=fun j hj=>⟨_,(hor2.cellAt j hj).trans (List.getElem?_eq_getElem (by omega))⟩
   obtain ⟨z0,x0⟩:=cx (k * 2) (by omega)
   obtain ⟨z1,x1⟩:=cx (k * 2+1) (by omega)
   have f0:=fr (k * 2)
   have f1:=fr (k * 2+1)
   have hS:=set2_is hor2 k hkn y
   have hP:PtPre (set2 w2 w.heap.size k (.int .i64 y.attr) (.string y.val)) w.heap.size (k+1) xs:=by
    intro j hj
    by_cases hjk:j=k
    ·subst hjk
     rw [← HY.out]
     exact hS.cells
    ·have hc':=(HPRE.out.kept hgl hb2) j (by omega)
     have hx:=hS.old
     exact ⟨(hx _ (by omega) (by omega)).trans hc'.c0,(hx _ (by omega) (by omega)).trans hc'.c1⟩
   have hB4:=(hbr.trans (hb2.mono hs)).trans (hS.touch.below (Nat.le_refl _) (by omega))
   have FIN:Hid (_∧_∧_):=⟨hS.own,hP,hB4⟩
   clear fr cx hS hP hB4
   unfold ptv
   go_wp2
   go_roundw
   case rel=>exact ⟨k+1,by omega,by go_num,FIN.out.1,FIN.out.2.1,FIN.out.2.2⟩
   case measure=>simp [intOf]; omega
  ·obtain rfl:n=k:=by omega
   have HPRE:Hid (PtPre wr w.heap.size n xs):=hpre
   have HOE:Hid (_):=hor
   clear hpre hor
   go_wp2
   go_ret
   refine ⟨rfl,⟨_,HOE.out⟩,⟨hlen.out,by omega,fun k hk=>?_⟩,hbr⟩
   obtain ⟨_,_,_,_,_,hn⟩:=HK.out.get k hk
   exact ⟨w.heap.size,0,rfl,hgl,by rw [Nat.zero_add]; exact HPRE.out k hk,hn⟩
theorem toName_own (a:Option Addr)(n c:Nat)(xs:List PT)(w:World)(h:Pts w a n xs)(hn:n≤1048576) :
  Calls Tryz.prog 38 #[nmv a n c] w fun e w'=>∃ g',e=.returned (nmv (some ⟨g',0,none⟩) n n)∧w.heap.size≤g'∧(∃ vs,w'.ownsRow w.heap.size 172 2 (.slice (some ⟨g',0,none⟩) n n) n vs)∧Pts w' (some ⟨g',0,none⟩) n xs∧Below w.heap.size w w':=by
 have HK:Hid (Pts w a n xs):=h
 clear h
 unfold nmv
 obtain ⟨W0,hW0⟩:∃ W0,W0=(((w.alloc (.cells #[.slice a n c] 24)).alloc (.cells #[.slice none 0 0] 40)).alloc (.cells #[.slice none 0 0] 40)):=⟨_,rfl⟩
 have hB0:Below w.heap.size w W0:=by rw [hW0]; exact three_below _ _ _ _
 have hS0:W0.heap.size=w.heap.size+3:=by rw [hW0]; simp
 obtain ⟨_,b1,b2⟩:=three_blocks' w (.cells #[.slice a n c] 24) (.cells #[.slice none 0 0] 40) (.cells #[.slice none 0 0] 40)
 rw [← hW0] at b1 b2
 go_enter Tryz.func38,Tryz.ntmps38
 go_wp2_with fail
 rw [← hW0]
 clear hW0
 refine (toPartS_own a n c xs _ (HK.out.kept hB0) hn).mono ?_
 rintro e w1 ⟨rfl,hv1,ho1,hb1⟩
 obtain ⟨g1,hg1⟩:∃ g1,g1=W0.heap.size:=⟨_,rfl⟩
 rw [← hg1] at ho1 hv1 ⊢
 obtain ⟨vs1,hv1⟩:=hv1
 have HV1:Hid (w1.ownsRow g1 172 2 (.slice (some ⟨g1,0,none⟩) n n) n vs1):=hv1
 clear hv1
 have HG1:Hid (g1=w.heap.size+3):=by show _=_; omega
 have hs1:=hb1.size
 replace b1:=heap_kept' hb1 (by omega) b1
 replace b2:=heap_kept' hb1 (by omega) b2
 have hB1:Below w.heap.size w w1:=hB0.trans (hb1.mono (by omega))
 have r0:w1.cell? ⟨w.heap.size+1+1,0,none⟩=some (.slice none 0 0):=(cell_of_row _ (w.heap.size+1+1) 0 _ 40 (0,0) b2).trans rfl
 have s0:w1.cell? ⟨w.heap.size+1,0,none⟩=some (.slice none 0 0):=(cell_of_row _ (w.heap.size+1) 0 _ 40 (0,0) b1).trans rfl
 have fr0:w1.frozen? ⟨w.heap.size+1+1,0,none⟩=false:=frozen_of_row w1 (w.heap.size+1+1) 0 _ 40 b2
 have f0:w1.frozen? ⟨w.heap.size+1,0,none⟩=false:=frozen_of_row w1 (w.heap.size+1) 0 _ 40 b1
 have E1:Hid (_=_):=b1
 have OB:Hid (_):=ho1
 have HB:Hid (_):=hB1
 have hgl:g1≤w1.heap.size:=by omega
 clear b1 b2 ho1 hb1 hB0 hB1 hg1 hs1 hS0
 go_wp2
 have hgg:=HG1.out
 have q0:=heap_setCell_other w1 ⟨w.heap.size+1+1,0,none⟩ (w.heap.size+1) (.slice (some ⟨g1,0,none⟩) n n) (by simp)
 have q1:=heap_setCell_same _ (w.heap.size+1) 0 _ 40 (.slice (some ⟨g1,0,none⟩) n n) (q0.trans E1.out)
 have tt:Touch (w.heap.size+1) (w.heap.size+3) w1 ((w1.setCell ⟨w.heap.size+1+1,0,none⟩ (.slice (some ⟨g1,0,none⟩) n n)).setCell ⟨w.heap.size+1,0,none⟩ (.slice (some ⟨g1,0,none⟩) n n)):=(touch_set' _ _ _ _ (by omega) (by omega)).trans (touch_set' _ _ _ _ (by omega) (by omega))
 try simp only [Exit.inBlock,Exit.then]
 refine bodyPost_ret (results_nm rfl _ (w.heap.size+1) rfl _ _ q1) rfl ⟨_,rfl,by omega,⟨vs1,ownsRow_lower (own_same HV1.out ((heap_setCell_other _ _ _ _ (by simp; omega)).trans (heap_setCell_other _ _ _ _ (by simp; omega)))) (by omega)⟩,OB.out.same ?_ (by simp),HB.out.trans (tt.below (by omega) (by omega))⟩
 exact (heap_setCell_other _ _ _ _ (by simp; omega)).trans (heap_setCell_other _ _ _ _ (by simp; omega))
structure PtQ (B:Nat)(w:World)(g n:Nat)(xs:List PT):Prop where
 row:Pts w (some ⟨g,0,none⟩) n xs
 own:∃ vs,w.ownsRow B 172 2 (.slice (some ⟨g,0,none⟩) n n) n vs
theorem PtQ.same {B:Nat}{w w':World}{g n:Nat}{xs:List PT}(h:PtQ B w g n xs)(hb:w'.heap[g]? = w.heap[g]?)(hs:w.heap.size≤w'.heap.size):PtQ B w' g n xs:=⟨h.row.same hb hs,by obtain ⟨vs,h1⟩:=h.own; exact ⟨vs,own_same h1 hb⟩⟩
theorem PtQ.kept {B:Nat}{w w':World}{g n:Nat}{xs:List PT}(h:PtQ B w g n xs)(hb:Below w.heap.size w w'):PtQ B w' g n xs:=⟨h.row.kept hb,by obtain ⟨vs,h1⟩:=h.own; exact ⟨vs,ownsRow_below h1 hb⟩⟩
theorem PtQ.lower {B B':Nat}{w:World}{g n:Nat}{xs:List PT}(h:PtQ B w g n xs)(hB:B'≤B):PtQ B' w g n xs:=⟨h.row,by obtain ⟨vs,h1⟩:=h.own; exact ⟨vs,ownsRow_lower h1 hB⟩⟩
theorem PtQ.stab {B B' g n:Nat}{xs:List PT}(hB:B'≤B)(hg:B'≤g):Stab B' (fun W=>PtQ B W g n xs):=fun W W' e s h=>⟨stab_pts hg W W' e s h.row,by
 obtain ⟨vs,h1⟩:=h.own
 refine ⟨vs,own_same h1 (e g hg ?_)⟩
 exact (h1.lt g rfl).2⟩
theorem pts_fr {lo:Nat}{w:World}{g n:Nat}{xs:List PT}(h:PtQ lo w g n xs):FR 2 lo w.heap.size w (some ⟨g,0,none⟩) n:=by
 obtain ⟨vs,h1⟩:=h.own
 refine fr_owns h1 (fun g' e j hj=>?_)
 simp only [Option.some.injEq,Addr.mk.injEq,and_true] at e
 subst e
 obtain ⟨b,off,e,_,hc,_⟩:=h.row.get (j / 2) (by omega)
 simp only [Option.some.injEq,Addr.mk.injEq,and_true] at e
 obtain ⟨rfl,rfl⟩:=e
 have c0:=hc.c0
 have c1:=hc.c1
 rw [Nat.zero_add] at c0 c1
 rcases Nat.mod_two_eq_zero_or_one j with q | q
 ·rw [show j / 2 * 2=j by omega] at c0
  exact ⟨_,c0,isF.i _ _⟩
 ·rw [show j / 2 * 2+1=j by omega] at c1
  exact ⟨_,c1,isF.s _⟩
structure PtsO (lo:Nat)(W:World)(a:Option Addr)(n:Nat)(xs:List PT):Prop where
 row:Pts W a n xs
 fr:FR 2 lo W.heap.size W a n
theorem PtsO.lo {l l':Nat}{W:World}{a:Option Addr}{n:Nat}{xs:List PT}(h:PtsO l W a n xs)(hl:l'≤l):PtsO l' W a n xs:=⟨h.row,h.fr.mono hl (Nat.le_refl _)⟩
theorem toName_o (a:Option Addr)(n c:Nat)(xs:List PT)(w:World)(h:Pts w a n xs)(hn:n≤1048576) :
  Calls Tryz.prog 38 #[.agg #[.slice a n c]] w fun e w'=>∃ a',e=.returned (.agg #[.slice a' n n])∧Keeps w.heap.size w' (fun W=>PtsO w.heap.size W a' n xs)∧Below w.heap.size w w' :=
 (toName_own a n c xs w h hn).mono fun _ _ ⟨_,h1,hg,h2,h3,h4⟩=>⟨_,h1,(keeps_of (PtQ.stab (Nat.le_refl _) hg) ⟨h3,h2⟩).map (fun _ q=>⟨q.row,pts_fr q⟩),h4⟩
theorem toGenName_q (g:GT)(a:Option Addr)(n c:Nat)(xs:List PT)(w:World)(h:Pts w a n xs)(hn:n≤1048576) :
  Calls Tryz.prog 91 #[gnv g a n c] w fun e w'=>∃ g',e=.returned (gnv g (some ⟨g',0,none⟩) n n)∧w.heap.size<g'∧PtQ w.heap.size w' g' n xs∧Below w.heap.size w w':=by
 have HK:Hid (Pts w a n xs):=h
 clear h
 unfold gnv
 go_enter Tryz.func91,Tryz.ntmps91
 go_wp2_with fail
 obtain ⟨W0,hW0⟩:∃ W0,W0=(((w.alloc (.cells #[.int .i64 g.kind,.string g.text,.int .i64 g.addr,.int .i64 g.bits,.slice a n c] 105)).alloc (.cells #[.int .i64 0,.string ⟨#[]⟩,.int .i64 0,.int .i64 0,.slice none 0 0] 127)).alloc (.cells #[.int .i64 g.kind,.string g.text,.int .i64 g.addr,.int .i64 g.bits,.slice none 0 0] 127)):=⟨_,rfl⟩
 have hB0:Below w.heap.size w W0:=by rw [hW0]; exact three_below _ _ _ _
 have hS0:W0.heap.size=w.heap.size+3:=by rw [hW0]; simp
 obtain ⟨_,b1,b2⟩:=three_blocks' w (.cells #[.int .i64 g.kind,.string g.text,.int .i64 g.addr,.int .i64 g.bits,.slice a n c] 105) (.cells #[.int .i64 0,.string ⟨#[]⟩,.int .i64 0,.int .i64 0,.slice none 0 0] 127) (.cells #[.int .i64 g.kind,.string g.text,.int .i64 g.addr,.int .i64 g.bits,.slice none 0 0] 127)
 rw [← hW0] at b1 b2
 rw [← hW0]
 clear hW0
 refine (toName_own a n c xs _ (HK.out.kept hB0) hn).mono ?_
 rintro e w1 ⟨g1,rfl,hg1,hv1,hp1,hb1⟩
 have ho1:PtQ w.heap.size w1 g1 n xs:=PtQ.lower ⟨hp1,hv1⟩ (by omega)
 clear hp1 hv1
 have hs1:=hb1.size
 replace b1:=heap_kept' hb1 (by omega) b1
 replace b2:=heap_kept' hb1 (by omega) b2
 have hB1:Below w.heap.size w w1:=hB0.trans (hb1.mono (by omega))
 have cr0:w1.cell? ⟨w.heap.size+1+1,0,none⟩=some (.int .i64 g.kind):=(cell_of_row _ (w.heap.size+1+1) 0 _ 127 (0,0) b2).trans rfl
 have cr1:w1.cell? ⟨w.heap.size+1+1,1,none⟩=some (.string g.text):=(cell_of_row _ (w.heap.size+1+1) 1 _ 127 (0,0) b2).trans rfl
 have cr2:w1.cell? ⟨w.heap.size+1+1,2,none⟩=some (.int .i64 g.addr):=(cell_of_row _ (w.heap.size+1+1) 2 _ 127 (0,0) b2).trans rfl
 have cr3:w1.cell? ⟨w.heap.size+1+1,3,none⟩=some (.int .i64 g.bits):=(cell_of_row _ (w.heap.size+1+1) 3 _ 127 (0,0) b2).trans rfl
 have cr4:w1.cell? ⟨w.heap.size+1+1,4,none⟩=some (.slice none 0 0):=(cell_of_row _ (w.heap.size+1+1) 4 _ 127 (0,0) b2).trans rfl
 have fr4:w1.frozen? ⟨w.heap.size+1+1,4,none⟩=false:=frozen_of_row w1 (w.heap.size+1+1) 4 _ 127 b2
 have cs0:w1.cell? ⟨w.heap.size+1,0,none⟩=some (.int .i64 0):=(cell_of_row _ (w.heap.size+1) 0 _ 127 (0,0) b1).trans rfl
 have cs1:w1.cell? ⟨w.heap.size+1,1,none⟩=some (.string ⟨#[]⟩):=(cell_of_row _ (w.heap.size+1) 1 _ 127 (0,0) b1).trans rfl
 have cs2:w1.cell? ⟨w.heap.size+1,2,none⟩=some (.int .i64 0):=(cell_of_row _ (w.heap.size+1) 2 _ 127 (0,0) b1).trans rfl
 have cs3:w1.cell? ⟨w.heap.size+1,3,none⟩=some (.int .i64 0):=(cell_of_row _ (w.heap.size+1) 3 _ 127 (0,0) b1).trans rfl
 have cs4:w1.cell? ⟨w.heap.size+1,4,none⟩=some (.slice none 0 0):=(cell_of_row _ (w.heap.size+1) 4 _ 127 (0,0) b1).trans rfl
 have fs0:w1.frozen? ⟨w.heap.size+1,0,none⟩=false:=frozen_of_row w1 (w.heap.size+1) 0 _ 127 b1
 have fs1:w1.frozen? ⟨w.heap.size+1,1,none⟩=false:=frozen_of_row w1 (w.heap.size+1) 1 _ 127 b1
 have fs2:w1.frozen? ⟨w.heap.size+1,2,none⟩=false:=frozen_of_row w1 (w.heap.size+1) 2 _ 127 b1
 have fs3:w1.frozen? ⟨w.heap.size+1,3,none⟩=false:=frozen_of_row w1 (w.heap.size+1) 3 _ 127 b1
 have fs4:w1.frozen? ⟨w.heap.size+1,4,none⟩=false:=frozen_of_row w1 (w.heap.size+1) 4 _ 127 b1
 have E1:Hid (_=_):=b1
 have OB:Hid (PtQ w.heap.size w1 g1 n xs):=ho1
 have HB:Hid (Below w.heap.size w w1):=hB1
 have HG:Hid (w.heap.size+3≤g1):=by show _≤_; omega
 have hsw:w.heap.size+3≤w1.heap.size:=by omega
 clear b1 b2 ho1 hb1 hB0 hB1 hg1 hs1 hS0
 unfold nmv
 go_wp2
 have hgg:=HG.out
 have q0:=heap_setCell_other w1 ⟨w.heap.size+1+1,4,none⟩ (w.heap.size+1) (.slice (some ⟨g1,0,none⟩) n n) (by simp)
 have q1:=heap_setCell_same _ (w.heap.size+1) 0 _ 127 (.int .i64 g.kind) (q0.trans E1.out)
 have q2:=heap_setCell_same _ (w.heap.size+1) 1 _ 127 (.string g.text) q1
 have q3:=heap_setCell_same _ (w.heap.size+1) 2 _ 127 (.int .i64 g.addr) q2
 have q4:=heap_setCell_same _ (w.heap.size+1) 3 _ 127 (.int .i64 g.bits) q3
 have q5:=heap_setCell_same _ (w.heap.size+1) 4 _ 127 (.slice (some ⟨g1,0,none⟩) n n) q4
 have tt:Touch (w.heap.size+1) (w.heap.size+3) w1 ((((((w1.setCell ⟨w.heap.size+1+1,4,none⟩ (.slice (some ⟨g1,0,none⟩) n n)).setCell ⟨w.heap.size+1,0,none⟩ (.int .i64 g.kind)).setCell ⟨w.heap.size+1,1,none⟩ (.string g.text)).setCell ⟨w.heap.size+1,2,none⟩ (.int .i64 g.addr)).setCell ⟨w.heap.size+1,3,none⟩ (.int .i64 g.bits)).setCell ⟨w.heap.size+1,4,none⟩ (.slice (some ⟨g1,0,none⟩) n n)) :=
  (((((touch_set' _ _ _ _ (by omega) (by omega)).trans (touch_set' _ _ _ _ (by omega) (by omega))).trans (touch_set' _ _ _ _ (by omega) (by omega))).trans (touch_set' _ _ _ _ (by omega) (by omega))).trans (touch_set' _ _ _ _ (by omega) (by omega))).trans (touch_set' _ _ _ _ (by omega) (by omega))
 try simp only [Exit.inBlock,Exit.then]
 refine bodyPost_ret (results_gn rfl _ (w.heap.size+1) rfl _ _ _ _ _ _ q5) rfl ⟨_,rfl,by omega,OB.out.same ?_ (by simp),HB.out.trans (tt.below (by omega) (by omega))⟩
 exact (heap_setCell_other _ _ _ _ (by simp; omega)).trans ((heap_setCell_other _ _ _ _ (by simp; omega)).trans ((heap_setCell_other _ _ _ _ (by simp; omega)).trans ((heap_setCell_other _ _ _ _ (by simp; omega)).trans ((heap_setCell_other _ _ _ _ (by simp; omega)).trans (heap_setCell_other _ _ _ _ (by simp; omega))))))
open Go.ChangeShapes Go.WideShapes Go.ChangeAt Go.RowKit
set_option maxRecDepth 20000 in
theorem open_gen {H:Type}{enc:TypeId × Value→H}{W:World}{fuel:Nat}{cs:List Value}{x:DataW H × List MemPlace}(h:DataW.trod enc Tryz.prog W 0 (fun _=>true) true fuel 105 cs=some x) :
  ∃ g:GT,∃ a n c xs,cs = [.int .i64 g.kind,.string g.text,.int .i64 g.addr,.int .i64 g.bits,.slice a n c]∧Pts W a n xs∧g.text.size≤9223372036854775807:=by
 obtain ⟨xs,m,rfl,_,hl,hxl,hf⟩:=DataW.trod_struct Tryz.underlying105 h
 have hl2:cs.length=5:=hl.trans (by kernel_rfl)
 have hx2:xs.length=5:=hxl
 obtain ⟨c0,c1,c2,c3,c4,rfl⟩:∃ c0 c1 c2 c3 c4,cs = [c0,c1,c2,c3,c4]:=by
  match cs,hl2 with
  | [c0,c1,c2,c3,c4],_=>exact ⟨c0,c1,c2,c3,c4,rfl⟩
 obtain ⟨x0,x1,x2,x3,x4,rfl⟩:∃ c0 c1 c2 c3 c4,xs = [c0,c1,c2,c3,c4]:=by
  match xs,hx2 with
  | [c0,c1,c2,c3,c4],_=>exact ⟨c0,c1,c2,c3,c4,rfl⟩
 have e1:Tryz.prog.cellsOf 2=1:=by kernel_rfl
 have e2:Tryz.prog.cellsOf 9=1:=by kernel_rfl
 have e3:Tryz.prog.cellsOf 24=1:=by kernel_rfl
 have f0:DataW.trod enc Tryz.prog W 0 (fun _=>true) true m 2 ((([c0,c1,c2,c3,c4]:List Value).drop 0).take (Tryz.prog.cellsOf 2))=some x0:=hf 0 _ rfl
 have f1:DataW.trod enc Tryz.prog W 0 (fun _=>true) true m 9 ((([c0,c1,c2,c3,c4]:List Value).drop 1).take (Tryz.prog.cellsOf 9))=some x1:=hf 1 _ rfl
 have f2:DataW.trod enc Tryz.prog W 0 (fun _=>true) true m 2 ((([c0,c1,c2,c3,c4]:List Value).drop 2).take (Tryz.prog.cellsOf 2))=some x2:=hf 2 _ rfl
 have f3:DataW.trod enc Tryz.prog W 0 (fun _=>true) true m 2 ((([c0,c1,c2,c3,c4]:List Value).drop 3).take (Tryz.prog.cellsOf 2))=some x3:=hf 3 _ rfl
 have f4:DataW.trod enc Tryz.prog W 0 (fun _=>true) true m 24 ((([c0,c1,c2,c3,c4]:List Value).drop 4).take (Tryz.prog.cellsOf 24))=some x4:=hf 4 _ rfl
 rw [e1] at f0 f2 f3
 rw [e2] at f1
 rw [e3] at f4
 obtain ⟨n0,h0,_,_⟩:=DataW.trod_int Tryz.underlying2 f0
 obtain ⟨s1,h1,_,hs⟩:=DataW.trod_string Tryz.underlying9 f1
 obtain ⟨n2,h2,_,_⟩:=DataW.trod_int Tryz.underlying2 f2
 obtain ⟨n3,h3,_,_⟩:=DataW.trod_int Tryz.underlying2 f3
 obtain ⟨a,n,c,ys,h4,hp⟩:=open_name f4
 simp at h0 h1 h2 h3 h4
 subst h0 h1 h2 h3 h4
 exact ⟨⟨n0,s1,n2,n3⟩,a,n,c,ys,rfl,hp,by unfold maxLen at hs; show s1.size≤_; omega⟩
open Go.ChangeShapes Go.WideShapes Go.ChangeAt Go.RowKit
def OpensE (W:World)(y:Option Addr × Nat × Nat × GE)(cs:List Value):Prop:=cs = [.int .i64 y.2.2.2.g.kind,.string y.2.2.2.g.text,.int .i64 y.2.2.2.g.addr,.int .i64 y.2.2.2.g.bits,.slice y.1 y.2.1 y.2.2.1]∧Pts W y.1 y.2.1 y.2.2.2.parts∧y.2.2.2.g.text.size≤9223372036854775807
set_option maxRecDepth 20000 in
theorem open_gens {H:Type}{enc:TypeId × Value→H}{W:World}{fuel:Nat}{cs:List Value}{x:DataW H × List MemPlace}(h:DataW.trod enc Tryz.prog W 0 (fun _=>true) true fuel 28 cs=some x):∃ a n c xs,cs = [.slice a n c]∧Ges W a n xs:=by
 rcases DataW.trod_slice Tryz.underlying28 h with ⟨rfl,_⟩ | ⟨a,len,cap,elems,rest,n,rfl,rfl,_,_,hl,hm,hlen,hel,_,_⟩
 ·exact ⟨none,0,0,[],rfl,⟨rfl,by decide,fun k hk=>absurd hk (by omega)⟩⟩
 ·have ec:Tryz.prog.cellsOf 105=5:=by kernel_rfl
  rw [ec] at hel
  have each:∀ i,i<len→∃ y:Option Addr × Nat × Nat × GE,∃ cs',W.cells? 0 (a.add (i * 5)) 5=some cs'∧OpensE W y cs':=by
   intro i hi
   have he:=hel i hi
   rw [List.getElem?_eq_getElem (by omega)] at he
   cases hc:W.cells? 0 (a.add (i * 5)) 5 with
   | none=>rw [hc] at he; cases he
   | some cs' =>
    rw [hc] at he
    obtain ⟨g,a1,n1,c1,ps,hcs,hp,hs⟩:=open_gen he
    exact ⟨(a1,n1,c1,⟨g,ps⟩),cs',rfl,hcs,hp,hs⟩
  obtain ⟨y,hy⟩:=Go.Deep.choose_lt each
  have hm':len≤9223372036854775807:=by unfold maxLen at hm; omega
  refine ⟨some a,len,cap,(List.range len).map (fun i=>(y i).2.2.2),rfl,⟨by simp,hm',fun k hk=>?_⟩⟩
  obtain ⟨cs',hcs,rfl,hnk,hsk⟩:=hy k hk
  obtain ⟨_,_,hcell⟩:=World.cells?_some hcs
  obtain ⟨b,off,spot⟩:=a
  have hs:spot=none:=by
   obtain ⟨cs0,hcs0,_⟩:=hy 0 (by omega)
   obtain ⟨_,hl0,hcell0⟩:=World.cells?_some hcs0
   have h00:=hcell0 0 (by omega)
   rw [List.getElem?_eq_getElem (by omega)] at h00
   simpa [Addr.add] using World.cell?_spot h00
  subst hs
  have ey:((List.range len).map (fun i=>(y i).2.2.2)).getD k default=(y k).2.2.2:=by simp [hk]
  rw [ey]
  have cc:∀ j,j<5→W.cell? ⟨b,off+k * 5+j,none⟩ = [Value.int .i64 (y k).2.2.2.g.kind,.string (y k).2.2.2.g.text,.int .i64 (y k).2.2.2.g.addr,.int .i64 (y k).2.2.2.g.bits,.slice (y k).1 (y k).2.1 (y k).2.2.1][j]?:=by
   intro j hj
   have:=hcell j hj
   rw [Addr.add_lit,Addr.add_lit] at this
   exact this
  exact ⟨b,off,_,_,_,rfl,World.block_lt_of_cell? W _ (cc 0 (by omega)),⟨cc 0 (by omega),cc 1 (by omega),cc 2 (by omega),cc 3 (by omega),cc 4 (by omega)⟩,hnk,hsk⟩
set_option maxRecDepth 20000 in
theorem open_pub {H:Type}{enc:TypeId × Value→H}{W:World}{fuel:Nat}{cs:List Value}{x:DataW H × List MemPlace}(h:DataW.trod enc Tryz.prog W 0 (fun _=>true) true fuel 27 cs=some x):∃ s y k:Int,cs = [.int .i64 s,.int .u64 y,.int .i64 k]∧U64 y:=by
 obtain ⟨xs,m,rfl,_,hl,hxl,hf⟩:=DataW.trod_struct Tryz.underlying27 h
 have hl2:cs.length=3:=hl.trans (by kernel_rfl)
 have hx2:xs.length=3:=hxl
 obtain ⟨c0,c1,c2,rfl⟩:∃ c0 c1 c2,cs = [c0,c1,c2]:=by
  match cs,hl2 with
  | [c0,c1,c2],_=>exact ⟨c0,c1,c2,rfl⟩
 obtain ⟨x0,x1,x2,rfl⟩:∃ y0 y1 y2,xs = [y0,y1,y2]:=by
  match xs,hx2 with
  | [y0,y1,y2],_=>exact ⟨y0,y1,y2,rfl⟩
 have e0:Tryz.prog.cellsOf 2=1:=by kernel_rfl
 have f0:DataW.trod enc Tryz.prog W 0 (fun _=>true) true m 2 ((([c0,c1,c2]:List Value).drop 0).take (Tryz.prog.cellsOf 2))=some x0:=hf 0 _ rfl
 rw [e0] at f0
 have e1:Tryz.prog.cellsOf 25=1:=by kernel_rfl
 have f1:DataW.trod enc Tryz.prog W 0 (fun _=>true) true m 25 ((([c0,c1,c2]:List Value).drop 1).take (Tryz.prog.cellsOf 25))=some x1:=hf 1 _ rfl
 rw [e1] at f1
 have e2:Tryz.prog.cellsOf 2=1:=by kernel_rfl
 have f2:DataW.trod enc Tryz.prog W 0 (fun _=>true) true m 2 ((([c0,c1,c2]:List Value).drop 2).take (Tryz.prog.cellsOf 2))=some x2:=hf 2 _ rfl
 rw [e2] at f2
 obtain ⟨n0,h0,_,_⟩:=DataW.trod_int Tryz.underlying2 f0
 obtain ⟨n1,h1,_,hw⟩:=DataW.trod_int Tryz.underlying25 f1
 obtain ⟨n2,h2,_,_⟩:=DataW.trod_int Tryz.underlying2 f2
 simp at h0 h1 h2
 subst h0 h1 h2
 exact ⟨n0,n1,n2,rfl,bounds_u64 hw⟩
end Go.Proofs.YtmdfbnlgfhjnoaaGreatDoor
