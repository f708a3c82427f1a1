import Derived.Deep.MidRow
import Derived.Test.YtmdfbnlgfhjnoaaGreatDoorFB26
import Derived.Test.YtmdfbnlgfhjnoaaGreatDoorFB20
import Derived.Test.YtmdfbnlgfhjnoaaGreatDoorFB28
set_option maxRecDepth 10000
set_option maxHeartbeats 8000000
set_option linter.unusedVariables false
namespace Go.Proofs.YtmdfbnlgfhjnoaaGreatDoor
open Go.RowKit
theorem keeps_and {B:Nat}{W:World}{P Q:World→Prop}(h:Keeps B W P)(k:Keeps B W Q):Keeps B W (fun W=>P W∧Q W):=by
 obtain ⟨R1,s1,r1,q1⟩:=h
 obtain ⟨R2,s2,r2,q2⟩:=k
 exact ⟨fun W=>R1 W∧R2 W,stab_and s1 s2,⟨r1,r2⟩,fun W' r=>⟨q1 _ r.1,q2 _ r.2⟩⟩
theorem stab_pm {lo hi:Nat}{a:Option Addr}{n cap:Nat}{ps:List (Int × Int)}:Stab lo (fun W=>OwnPm lo hi W a n cap ps):=fun W W' e s h=>⟨stab_owns W W' e s h.row,h.max,h.lt⟩
theorem eqByteS_one (a b:Option Addr)(n ca cb:Nat)(xs:List Int)(w:World)(hx:Row w a n xs)(hy:Row w b n xs)(hn:n≤1048576) :
  Calls Tryz.prog 12 #[.slice a n ca,.slice b n cb] w fun e w'=>e=.returned (.bool true)∧Below w.heap.size w w' :=
 (eqByteS_any a b n n ca cb xs xs w hx hy (by unfold maxLen; omega) (by unfold maxLen; omega)).mono fun _ _ ⟨h1,h2⟩=>⟨by rw [h1,decide_eq_true rfl],h2⟩
theorem nil_row {W:World}{a:Option Addr}{n:Nat}{bs:List Int}(h:Row W a n bs):a=none→n=0:=fun e=>by
 by_cases hn:0<n
 ·obtain ⟨b,off,ha,_⟩:=h.get 0 hn
  rw [e] at ha
  cases ha
 ·omega
open Go.RowKit
structure XP where
 id:Int
 crit:Bool
 val:List Int
instance:Inhabited XP:=⟨⟨0,false,[]⟩⟩
structure XPS where
 a1:Option Addr
 n1:Nat
 c1:Nat
 deriving Inhabited
def XPv (s:XPS)(x:XP):Value:=.agg #[.int .i64 x.id,.bool x.crit,.slice s.a1 s.n1 s.c1]
structure XPR (w:World)(s:XPS)(x:XP):Prop where
 r1:Row w s.a1 s.n1 x.val
 m1:s.n1≤9223372036854775807
 nl1:s.a1=none→s.c1=0
theorem XPR.kept {w w':World}{s:XPS}{x:XP}(h:XPR w s x)(hb:Below w.heap.size w w'):XPR w' s x:=⟨h.r1.kept hb,h.m1,h.nl1⟩
def XPZ (x:XP):Prop:=(x.val.length≤1048576)
def XPZn (s:XPS)(x:XP):Prop:=(s.n1≤1048576)
theorem XPR.zn {w:World}{s:XPS}{x:XP}(h:XPR w s x):XPZ x↔XPZn s x:=by
 unfold XPZ XPZn
 rw [h.r1.len]
def XPT (s:XPS):Prop:=s.c1=s.n1
theorem szExt_k (s:XPS)(x:XP)(lf:Int)(w:World)(h:XPR w s x)(hl0:0≤lf)(hl1:lf≤1048576) :
  Calls Tryz.prog 73 #[XPv s x,.int .i64 lf] w fun e w'=>∃ r,e=.returned (.int .i64 r)∧(r<0∨(0≤r∧r≤1048576∧XPZ x))∧Below w.heap.size w w':=by
 obtain ⟨a1,n1,c1⟩:=s
 have HK:Hid (XPR w ⟨a1,n1,c1⟩ x):=h
 have HIF:Hid (XPZ x↔XPZn ⟨a1,n1,c1⟩ x):=h.zn
 clear h
 show Calls Tryz.prog 73 #[.agg #[.int .i64 x.id,.bool x.crit,.slice a1 n1 c1],.int .i64 lf] w _
 obtain ⟨w0,hw0⟩:∃ w0,w0=w.alloc (.cells #[.int .i64 x.id,.bool x.crit,.slice a1 n1 c1] 108):=⟨_,rfl⟩
 have B0:Hid (Below w.heap.size w w0):=by show Below w.heap.size w w0; rw [hw0]; exact (Below.refl _ _).alloc (Nat.le_refl _) _
 have hh0:w0.heap[w.heap.size]? = some (.cells #[.int .i64 x.id,.bool x.crit,.slice a1 n1 c1] 108):=by rw [hw0]; exact heap_alloc_new w _
 have Y0:Hid (_=_):=hh0
 have l0:w.heap.size<w0.heap.size:=(Array.getElem?_eq_some_iff.1 hh0).1
 clear hh0
 have h0:0≤lf∧lf≤1048576:=⟨hl0,hl1⟩
 clear hl0 hl1
 go_enter Tryz.func73,Tryz.ntmps73
 go_upto_region 1 with fail
 rw [← hw0]
 clear hw0
 have q2:w0.cell? ⟨w.heap.size,2,none⟩=some (.slice a1 n1 c1):=(cell_of_row _ _ 2 _ 108 (0,0) Y0.out).trans rfl
 go_wp2_with fail
 refine (szByteS_k a1 n1 c1 lf _ h0.1 h0.2 HK.out.m1).mono ?_
 rintro e w1 ⟨r1,rfl,hr1,hw1⟩
 subst hw1
 have B1:Hid (Below w.heap.size w w0):=B0.out
 have Y1:Hid (w0.heap[w.heap.size]? = some (.cells #[.int .i64 x.id,.bool x.crit,.slice a1 n1 c1] 108)):=Y0.out
 have l1:w.heap.size<w0.heap.size:=(Array.getElem?_eq_some_iff.1 Y1.out).1
 clear q2
 by_cases hneg1:r1<0
 ·clear hr1
  go_wp2
  go_ret
  exact ⟨_,rfl,.inl (by decide),B1.out⟩
 have h1:0≤r1∧r1≤1048576:=by omega
 have HR1:Hid (n1≤1048576):=by rcases hr1 with h | h; exact absurd h hneg1; exact h.2.2
 clear hr1
 go_wp2
 go_ret
 exact ⟨_,rfl,.inr ⟨h1.1,h1.2,HIF.out.2 HR1.out⟩,B1.out⟩
structure XPQ (w W:World)(ls:Array Value)(R:World→Prop)(vs:Array Value):Prop where
 b0:W.heap[w.heap.size]? = some (.cells ls 108 (0,0))
 b1:W.heap[w.heap.size+1]? = some (.cells #[.int .i64 0,.bool false,.slice none 0 0] 113 (0,0))
 b2:W.heap[w.heap.size+1+1]? = some (.cells vs 113 (0,0))
 st:Stab (w.heap.size+3) R
 r:R W
 below:Below w.heap.size w W
 lt:w.heap.size+3≤W.heap.size
theorem XPQ.set {w W:World}{ls vs:Array Value}{R:World→Prop}(h:XPQ w W ls R vs){us:Array Value}(j:Nat)(u:Value)(e:vs.setIfInBounds j u=us):XPQ w (W.setCell ⟨w.heap.size+1+1,j,none⟩ u) ls R us:=by
 have f:∀ l,l≠w.heap.size+2→(W.setCell ⟨w.heap.size+1+1,j,none⟩ u).heap[l]? = W.heap[l]?:=fun l hl=>Below.heap_setCell _ _ _ _ (by show l≠w.heap.size+1+1; omega)
 refine ⟨(f _ (by omega)).trans h.b0,(f _ (by omega)).trans h.b1,?_,h.st,h.st W _ (fun l hl _=>f l (by omega)) (by simp) h.r,⟨h.below.os,h.below.tape,h.below.output,by simpa [World.setCell] using h.below.size,fun l hl=>(f l (by omega)).trans (h.below.block l hl)⟩,by simpa [World.setCell] using h.lt⟩
 rw [← e]
 exact heap_setCell_same W (w.heap.size+1+1) j _ 113 u h.b2
theorem XPQ.on {w W:World}{ls vs:Array Value}{R:World→Prop}{W':World}(h:XPQ w W ls R vs)(hb:Below W.heap.size W W'):XPQ w W' ls R vs:=by
 have hl:=h.lt
 have hs:=hb.size
 exact ⟨(hb.block _ (by omega)).trans h.b0,(hb.block _ (by omega)).trans h.b1,(hb.block _ (by omega)).trans h.b2,h.st,h.st W W' (fun l _ hl=>hb.block l hl) hs h.r,h.below.trans (hb.mono h.below.size),by omega⟩
theorem XPQ.more {w W:World}{ls vs:Array Value}{R Q:World→Prop}(h:XPQ w W ls R vs)(s:Stab (w.heap.size+3) Q)(q:Q W):XPQ w W ls Q vs:=⟨h.b0,h.b1,h.b2,s,q,h.below,h.lt⟩
theorem XPQ.out {w W:World}{ls vs:Array Value}{R:World→Prop}(h:XPQ w W ls R vs)(j:Nat):W.cell? ⟨w.heap.size+1+1,j,none⟩=vs[j]?∧W.frozen? ⟨w.heap.size+1+1,j,none⟩=false∧W.cell? ⟨w.heap.size,j,none⟩=ls[j]? :=
 ⟨cell_of_row _ _ j _ 113 (0,0) h.b2,frozen_of_row W _ j _ 113 h.b2,cell_of_row _ _ j _ 108 (0,0) h.b0⟩
theorem infoSizeXP:(Tryz.prog.info? 113).map (·.size)=some 3:=by kernel_rfl
theorem eqExt_k (s t:XPS)(x:XP)(w:World)(h:XPR w s x)(h2:XPR w t x)(hz:XPZ x) :
  Calls Tryz.prog 115 #[XPv s x,XPv t x] w fun e w'=>e=.returned (.bool true)∧Below w.heap.size w w':=by
 have hzn:=h.zn.1 hz
 obtain ⟨a1,n1,c1⟩:=s
 obtain ⟨b1,m1,d1⟩:=t
 obtain rfl:m1=n1:=(h2.r1.len).symm.trans h.r1.len
 have H1:Hid (XPR w ⟨a1,m1,c1⟩ x):=h
 have H2:Hid (XPR w ⟨b1,m1,d1⟩ x):=h2
 have HZ:Hid ((m1≤1048576)):=hzn
 clear h h2 hz hzn
 show Calls Tryz.prog 115 #[.agg #[.int .i64 x.id,.bool x.crit,.slice a1 m1 c1],.agg #[.int .i64 x.id,.bool x.crit,.slice b1 m1 d1]] w _
 obtain ⟨w0,hW0⟩:∃ W0,W0=((w.alloc (.cells #[.int .i64 x.id,.bool x.crit,.slice a1 m1 c1] 113)).alloc (.cells #[.int .i64 x.id,.bool x.crit,.slice b1 m1 d1] 113)):=⟨_,rfl⟩
 have HB0:Hid (Below w.heap.size w w0):=by show Below w.heap.size w w0; rw [hW0]; exact ((Below.refl _ _).alloc (Nat.le_refl _) _).alloc (by simp) _
 have y:=two_blocks w (.cells #[.int .i64 x.id,.bool x.crit,.slice a1 m1 c1] 113) (.cells #[.int .i64 x.id,.bool x.crit,.slice b1 m1 d1] 113)
 rw [← hW0] at y
 have Y0:Hid (w0.heap[w.heap.size]? = some (.cells #[.int .i64 x.id,.bool x.crit,.slice a1 m1 c1] 113)):=y.1
 have Y1:Hid (w0.heap[w.heap.size+1]? = some (.cells #[.int .i64 x.id,.bool x.crit,.slice b1 m1 d1] 113)):=y.2
 have l0:w.heap.size+1<w0.heap.size:=(Array.getElem?_eq_some_iff.1 y.2).1
 clear y
 have t_id:(x.id != x.id)=false:=by simp
 have t_crit:(x.crit != x.crit)=false:=by simp
 go_enter Tryz.func115,Tryz.ntmps115
 go_upto_region 1 with fail
 rw [← hW0]
 clear hW0
 have p0:w0.cell? ⟨w.heap.size,0,none⟩=some (.int .i64 x.id):=(cell_of_row _ _ 0 _ 113 (0,0) Y0.out).trans rfl
 have q0:w0.cell? ⟨w.heap.size+1,0,none⟩=some (.int .i64 x.id):=(cell_of_row _ _ 0 _ 113 (0,0) Y1.out).trans rfl
 have p1:w0.cell? ⟨w.heap.size,1,none⟩=some (.bool x.crit):=(cell_of_row _ _ 1 _ 113 (0,0) Y0.out).trans rfl
 have q1:w0.cell? ⟨w.heap.size+1,1,none⟩=some (.bool x.crit):=(cell_of_row _ _ 1 _ 113 (0,0) Y1.out).trans rfl
 have p2:w0.cell? ⟨w.heap.size,2,none⟩=some (.slice a1 m1 c1):=(cell_of_row _ _ 2 _ 113 (0,0) Y0.out).trans rfl
 have q2:w0.cell? ⟨w.heap.size+1,2,none⟩=some (.slice b1 m1 d1):=(cell_of_row _ _ 2 _ 113 (0,0) Y1.out).trans rfl
 go_wp2_with fail
 refine (eqByteS_one a1 b1 m1 c1 d1 x.val _ ((H1.out.kept HB0.out).r1) ((H2.out.kept HB0.out).r1) HZ.out).mono ?_
 rintro e w1 ⟨rfl,hb1⟩
 replace Y0:Hid (w1.heap[w.heap.size]? = some (.cells #[.int .i64 x.id,.bool x.crit,.slice a1 m1 c1] 113)):=(hb1.block _ (by omega)).trans Y0.out
 replace Y1:Hid (w1.heap[w.heap.size+1]? = some (.cells #[.int .i64 x.id,.bool x.crit,.slice b1 m1 d1] 113)):=(hb1.block _ l0).trans Y1.out
 have HB1:Hid (Below w.heap.size w w1):=HB0.out.trans (hb1.mono HB0.out.size)
 have l1:w.heap.size+1<w1.heap.size:=(Array.getElem?_eq_some_iff.1 Y1.out).1
 clear p0 q0 p1 q1 p2 q2 hb1 HB0 l0
 go_wp2
 go_ret
 exact ⟨rfl,HB1.out⟩
structure XPC (w:World)(b o:Nat)(s:XPS)(x:XP):Prop where
 c0:w.cell? ⟨b,o,none⟩=some (.int .i64 x.id)
 c1:w.cell? ⟨b,o+1,none⟩=some (.bool x.crit)
 c2:w.cell? ⟨b,o+2,none⟩=some (.slice s.a1 s.n1 s.c1)
theorem XPC.of {w w':World}{b o:Nat}{s:XPS}{x:XP}(h:XPC w b o s x)(hc:∀ i,w'.cell? ⟨b,i,none⟩=w.cell? ⟨b,i,none⟩):XPC w' b o s x:=⟨(hc _).trans h.c0,(hc _).trans h.c1,(hc _).trans h.c2⟩
structure XPs (w:World)(a:Option Addr)(n:Nat)(xs:List XP):Prop where
 len:xs.length=n
 max:n≤9223372036854775807
 get:∀ k,k<n→∃ (b off:Nat) (s:XPS),a=some ⟨b,off,none⟩∧b<w.heap.size∧XPC w b (off+k * 3) s (xs.getD k default)∧XPR w s (xs.getD k default)
theorem XPs.kept {w w':World}{a:Option Addr}{n:Nat}{xs:List XP}(h:XPs w a n xs)(hb:Below w.heap.size w w'):XPs w' a n xs:=by
 refine ⟨h.len,h.max,fun k hk=>?_⟩
 obtain ⟨b,off,s,ha,hlt,hc,hp⟩:=h.get k hk
 exact ⟨b,off,s,ha,Nat.lt_of_lt_of_le hlt hb.size,hc.of (fun i=>hb.cell (p:=⟨b,i,none⟩) hlt),hp.kept hb⟩
theorem szExtS_k (a:Option Addr)(n cap:Nat)(xs:List XP)(lf:Int)(w:World)(h:XPs w a n xs)(hl0:0≤lf)(hl1:lf≤1048576) :
  Calls Tryz.prog 33 #[.slice a n cap,.int .i64 lf] w fun e w'=>∃ r,e=.returned (.int .i64 r)∧(r<0∨(0≤r∧r≤1048576∧n≤1048576∧∀ k,k<n→XPZ (xs.getD k default)))∧Below w.heap.size w w':=by
 have H0:Hid (XPs w a n xs):=h
 have hn:=h.max
 clear h
 by_cases hlt:(n:Int)≤lf
 ·go_enter Tryz.func33,Tryz.ntmps33
  go_wp2
  go_loopw [1,5] (fun l i wr=>∃ (k:Nat) (left:Int),k≤n∧i=.int .i64 k∧l=.int .i64 left∧0≤left∧left≤1048576∧Hid (∀ j,j<k→XPZ (xs.getD j default))∧Below w.heap.size w wr) (fun _ i _=>n - (intOf i).toNat)
  case atStart=>exact ⟨0,lf - n,Nat.zero_le _,rfl,rfl,by omega,by omega,fun j hj=>absurd hj (Nat.not_lt_zero _),Below.refl _ _⟩
  case round =>
   obtain ⟨k,left,hk,rfl,rfl,h0,h1,HA,hbr⟩:=hrel
   by_cases hkn:k<n
   ·obtain ⟨b,off,⟨a1,n1,c1⟩,rfl,hlb,hc,hp⟩:=H0.out.get k hkn
    obtain ⟨y,hy⟩:∃ y,y=xs.getD k default:=⟨_,rfl⟩
    rw [← hy] at hc hp
    have HY:Hid (y=xs.getD k default):=hy
    replace hc:=hc.of (w':=wr) (fun i=>hbr.cell (p:=⟨b,i,none⟩) hlb)
    have u0:wr.cell? ⟨b,off+k * 3,none⟩=some (.int .i64 y.id):=hc.c0
    have u1:wr.cell? ⟨b,off+k * 3+1,none⟩=some (.bool y.crit):=hc.c1
    have u2:wr.cell? ⟨b,off+k * 3+2,none⟩=some (.slice a1 n1 c1):=hc.c2
    have HP:Hid (XPR wr ⟨a1,n1,c1⟩ y):=hp.kept hbr
    have hkni:(k:Int)<(n:Int):=by omega
    clear hc hy hp
    go_wp2_with fail
    refine (szExt_k ⟨a1,n1,c1⟩ y left _ HP.out h0 h1).mono ?_
    rintro e w2 ⟨r,rfl,hr,hb2⟩
    have hb2':Below w.heap.size w w2:=hbr.trans (hb2.mono hbr.size)
    by_cases hneg:r<0
    ·clear hr
     go_wp2
     go_ret
     exact ⟨_,rfl,.inl (by decide),hb2'⟩
    ·have hr1:0≤r:=by omega
     have hr2:r≤1048576:=by omega
     have HR:Hid (XPZ y):=by rcases hr with h | h; exact absurd h hneg; exact h.2.2
     clear hr
     go_wp2
     go_roundw
     case rel =>
      refine ⟨k+1,r,by omega,by go_num,rfl,hr1,hr2,fun j hj=>?_,hb2'⟩
      by_cases hjk:j=k
      ·subst hjk; rw [← HY.out]; exact HR.out
      ·exact HA.out j (by omega)
     case measure=>simp [intOf]; omega
   ·obtain rfl:n=k:=by omega
    go_wp2
    go_ret
    exact ⟨_,rfl,.inr ⟨h0,h1,by omega,HA.out⟩,hbr⟩
 ·go_enter Tryz.func33,Tryz.ntmps33
  go_wp2
  go_ret
  exact ⟨_,rfl,.inl (by decide),Below.refl _ _⟩
theorem eqExtS_k (a b:Option Addr)(n ca cb:Nat)(xs:List XP)(w:World)(h:XPs w a n xs)(h2:XPs w b n xs)(hz:∀ k,k<n→XPZ (xs.getD k default)) :
  Calls Tryz.prog 52 #[.slice a n ca,.slice b n cb] w fun e w'=>e=.returned (.bool true)∧Below w.heap.size w w':=by
 have HK:Hid (XPs w a n xs):=h
 have HK2:Hid (XPs w b n xs):=h2
 have HZ:Hid (∀ k,k<n→XPZ (xs.getD k default)):=hz
 have hn:=h.max
 clear h h2 hz
 go_enter Tryz.func52,Tryz.ntmps52
 go_wp2
 go_loopw [5] (fun i wr=>∃ k:Nat,k≤n∧i=.int .i64 k∧Below w.heap.size w wr) (fun i _=>n - (intOf i).toNat)
 case atStart=>exact ⟨0,Nat.zero_le _,rfl,Below.refl _ _⟩
 case round =>
  obtain ⟨k,hk,rfl,hbr⟩:=hrel
  by_cases hkn:k<n
  ·obtain ⟨g1,off1,⟨a1,n1,c1⟩,rfl,hl1,hp,hr1⟩:=HK.out.get k hkn
   obtain ⟨g2,off2,⟨b1,m1,d1⟩,rfl,hl2,hq,hr2⟩:=HK2.out.get k hkn
   have hgp:=HZ.out k hkn
   obtain ⟨y,hy⟩:∃ y,y=xs.getD k default:=⟨_,rfl⟩
   rw [← hy] at hp hq hr1 hr2 hgp
   clear hy
   have HGP:Hid (XPZ y):=hgp
   replace hp:=hp.of (w':=wr) (fun i=>hbr.cell (p:=⟨g1,i,none⟩) hl1)
   replace hq:=hq.of (w':=wr) (fun i=>hbr.cell (p:=⟨g2,i,none⟩) hl2)
   have p0:wr.cell? ⟨g1,off1+k * 3,none⟩=some (.int .i64 y.id):=hp.c0
   have p1:wr.cell? ⟨g1,off1+k * 3+1,none⟩=some (.bool y.crit):=hp.c1
   have p2:wr.cell? ⟨g1,off1+k * 3+2,none⟩=some (.slice a1 n1 c1):=hp.c2
   have q0:wr.cell? ⟨g2,off2+k * 3,none⟩=some (.int .i64 y.id):=hq.c0
   have q1:wr.cell? ⟨g2,off2+k * 3+1,none⟩=some (.bool y.crit):=hq.c1
   have q2:wr.cell? ⟨g2,off2+k * 3+2,none⟩=some (.slice b1 m1 d1):=hq.c2
   have HP1:Hid (XPR wr.drew ⟨a1,n1,c1⟩ y):=hr1.kept hbr.drew
   have HP2:Hid (XPR wr.drew ⟨b1,m1,d1⟩ y):=hr2.kept hbr.drew
   have hkni:(k:Int)<(n:Int):=by omega
   have hs:=hbr.size
   clear hp hq hr1 hr2 hgp
   have EQ:Hid (Calls Tryz.prog 115 #[.agg #[.int .i64 y.id,.bool y.crit,.slice a1 n1 c1],.agg #[.int .i64 y.id,.bool y.crit,.slice b1 m1 d1]] wr.drew fun e w'=>e=.returned (.bool true)∧Below wr.drew.heap.size wr.drew w'):=eqExt_k ⟨a1,n1,c1⟩ ⟨b1,m1,d1⟩ y _ HP1.out HP2.out HGP.out
   go_wp2_with fail
   go_region_with (go_at_call 115; refine EQ.out.mono ?_; rintro e w2 ⟨rfl,hb2⟩)
   all_goals
    have b5:Below w.heap.size w w2:=hbr.drew.trans (hb2.mono hs)
    go_wp2
    go_roundw
    case rel=>exact ⟨k+1,by omega,by go_num,b5⟩
    case measure=>simp [intOf]; omega
  ·go_wp2
   go_ret
   exact ⟨rfl,hbr⟩
theorem Tryz.infoXP:(Tryz.prog.info? 113).map (fun i=>(i.zero,i.size,i.bytes))=some (some (.agg #[.int .i64 0,.bool false,.slice none 0 0]),3,40):=by kernel_rfl
def putXP (w:World)(g o:Nat)(v0 v1 v2:Value):World:=(((w.setCell ⟨g,o,none⟩ v0).setCell ⟨g,o+1,none⟩ v1).setCell ⟨g,o+2,none⟩ v2)
theorem putXP_other (w:World)(g o l:Nat)(h:l≠g)(v0 v1 v2:Value):(putXP w g o v0 v1 v2).heap[l]? = w.heap[l]? :=
 (Below.heap_setCell _ _ _ _ (by show l≠g; exact h)).trans ((Below.heap_setCell _ _ _ _ (by show l≠g; exact h)).trans (Below.heap_setCell _ _ _ _ (by show l≠g; exact h)))
theorem putXP_size (w:World)(g o:Nat)(v0 v1 v2:Value):(putXP w g o v0 v1 v2).heap.size=w.heap.size:=by simp [putXP]
theorem putXP_below {B:Nat}{w0 w:World}(h:Below B w0 w)(g o:Nat)(hg:B≤g)(v0 v1 v2:Value):Below B w0 (putXP w g o v0 v1 v2):=(((h.setCell hg _).setCell hg _).setCell hg _)
structure PutXP (B:Nat)(w w':World)(g n cap i:Nat)(s:XPS)(x:XP):Prop where
 own:∃ vs,w'.ownsRow B 113 3 (.slice (some ⟨g,0,none⟩) n cap) n vs
 other:∀ l,l≠g→w'.heap[l]? = w.heap[l]?
 size:w'.heap.size=w.heap.size
 old:∀ j,j<n * 3→j<i * 3∨i * 3+3≤j→w'.cell? ⟨g,j,none⟩=w.cell? ⟨g,j,none⟩
 cells:XPC w' g (i * 3) s x
theorem putXP_is {B:Nat}{w:World}{g n cap:Nat}{vs:List Value}(h:w.ownsRow B 113 3 (.slice (some ⟨g,0,none⟩) n cap) n vs)(i:Nat)(hi:i<n)(s:XPS)(x:XP):PutXP B w (putXP w g (i * 3) (.int .i64 x.id) (.bool x.crit) (.slice s.a1 s.n1 s.c1)) g n cap i s x:=by
 have h1:=(((h.stored (i * 3) (.int .i64 x.id)).1.stored (i * 3+1) (.bool x.crit)).1.stored (i * 3+2) (.slice s.a1 s.n1 s.c1)).1
 have hl:vs.length=n * 3:=h.1
 have cc:=fun j (hj:j<n * 3)=>h1.cellAt j hj
 refine ⟨⟨_,h1⟩,fun l hl=>putXP_other _ _ _ _ hl _ _ _ ,putXP_size _ _ _ _ _ _ ,fun j hj ho=>?_,⟨?_,?_,?_⟩⟩
 ·refine (cc j hj).trans ?_
  rw [h.cellAt j hj]
  rw [List.getElem?_set_ne (by omega),List.getElem?_set_ne (by omega),List.getElem?_set_ne (by omega)]
 ·refine (cc _ (by omega)).trans ?_
  rw [List.getElem?_set_ne (by omega),List.getElem?_set_ne (by omega),List.getElem?_set_self (by omega)]
 ·refine (cc _ (by omega)).trans ?_
  rw [List.getElem?_set_ne (by omega),List.getElem?_set_self (by simp; omega)]
 ·refine (cc _ (by omega)).trans ?_
  rw [List.getElem?_set_self (by simp; omega)]
end Go.Proofs.YtmdfbnlgfhjnoaaGreatDoor
