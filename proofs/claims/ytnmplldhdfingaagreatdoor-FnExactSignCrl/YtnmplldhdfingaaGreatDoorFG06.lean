import Derived.Deep.RegionHeldLaw
import Derived.Test.YtnmplldhdfingaaGreatDoorFG05
set_option maxRecDepth 10000
set_option maxHeartbeats 8000000
set_option linter.unusedVariables false
namespace Go.Proofs.YtnmplldhdfingaaGreatDoor
open Go.RowKit
structure BoxN (t g:Nat)(W:World)(a:Option Addr)(n c:Nat):Prop where
 heap:W.heap[g]? = some (.cells #[.slice a n c] t (0,0))
theorem BoxN.cell {t g:Nat}{W:World}{a:Option Addr}{n c:Nat}(h:BoxN t g W a n c):W.cell? ⟨g,0,none⟩=some (.slice a n c):=(cell_of_row _ g 0 _ t (0,0) h.heap).trans rfl
theorem BoxN.kept {t g:Nat}{W W':World}{a:Option Addr}{n c:Nat}(h:BoxN t g W a n c)(hb:Below W.heap.size W W'):BoxN t g W' a n c:=⟨(hb.block _ (Array.getElem?_eq_some_iff.1 h.heap).1).trans h.heap⟩
open Go.RowKit
def FS (s:ByteArray):ByteArray:=strOfNums (foldL s)
theorem two_below (w:World)(o0 o1:Obj):Below w.heap.size w ((w.alloc o0).alloc o1):=((Below.refl _ _).alloc (Nat.le_refl _) _).alloc (by simp) _
theorem two_blocks (w:World)(o0 o1:Obj):((w.alloc o0).alloc o1).heap[w.heap.size]? = some o0∧((w.alloc o0).alloc o1).heap[w.heap.size+1]? = some o1:=by
 have s1:(w.alloc o0).heap.size=w.heap.size+1:=by simp
 exact ⟨(alloc_old' _ o1 _ (by omega)).trans (heap_alloc_new w o0),by rw [← s1]; exact heap_alloc_new _ o1⟩
open Go.RowKit
structure GP where
 parts:List PT
 ser:Int
 tm:Int
 rs:Int
instance:Inhabited GP:=⟨⟨[],0,0,0⟩⟩
def gov (a:Option Addr)(n c:Nat)(x:GP):Value:=.agg #[.slice a n c,.int .i64 x.ser,.int .i64 x.tm,.int .i64 x.rs]
structure Cells4 (w:World)(b o:Nat)(a:Option Addr)(n c:Nat)(x:GP):Prop where
 c0:w.cell? ⟨b,o,none⟩=some (.slice a n c)
 c1:w.cell? ⟨b,o+1,none⟩=some (.int .i64 x.ser)
 c2:w.cell? ⟨b,o+2,none⟩=some (.int .i64 x.tm)
 c3:w.cell? ⟨b,o+3,none⟩=some (.int .i64 x.rs)
theorem Cells4.of {w w':World}{b o:Nat}{a:Option Addr}{n c:Nat}{x:GP}(h:Cells4 w b o a n c x)(hc:∀ i,w'.cell? ⟨b,i,none⟩=w.cell? ⟨b,i,none⟩):Cells4 w' b o a n c x :=
 ⟨(hc _).trans h.c0,(hc _).trans h.c1,(hc _).trans h.c2,(hc _).trans h.c3⟩
structure Gns (w:World)(a:Option Addr)(n:Nat)(xs:List GP):Prop where
 len:xs.length=n
 max:n≤9223372036854775807
 get:∀ k,k<n→∃ b off an nn cn,a=some ⟨b,off,none⟩∧b<w.heap.size∧Cells4 w b (off+k * 4) an nn cn (xs.getD k default)∧Pts w an nn (xs.getD k default).parts
theorem Gns.kept {w w':World}{a:Option Addr}{n:Nat}{xs:List GP}(h:Gns w a n xs)(hb:Below w.heap.size w w'):Gns w' a n xs:=by
 refine ⟨h.len,h.max,fun k hk=>?_⟩
 obtain ⟨b,off,an,nn,cn,ha,hlt,hc,hp⟩:=h.get k hk
 exact ⟨b,off,an,nn,cn,ha,Nat.lt_of_lt_of_le hlt hb.size,hc.of (fun i=>hb.cell (p:=⟨b,i,none⟩) hlt),hp.kept hb⟩
def GpOk (x:GP):Prop:=x.parts.length≤1048576∧∀ k,k<x.parts.length→(x.parts.getD k default).val.size≤1048576
theorem szGone_any (a:Option Addr)(n c:Nat)(x:GP)(lf:Int)(w:World)(h:Pts w a n x.parts)(h0:0≤lf)(h1:lf≤1048576) :
  Calls Tryz.prog 37 #[gov a n c x,.int .i64 lf] w fun e w'=>∃ r,e=.returned (.int .i64 r)∧(r<0∨(0≤r∧r≤1048576∧GpOk x))∧Below w.heap.size w w':=by
 unfold gov
 have H0:Hid (Pts w a n x.parts):=h
 have HN:Hid (x.parts.length=n):=h.len
 clear h
 have hbl:Below w.heap.size w (w.alloc (.cells #[.slice a n c,.int .i64 x.ser,.int .i64 x.tm,.int .i64 x.rs] 67)):=(Below.refl _ _).alloc (Nat.le_refl _) _
 go_enter Tryz.func37,Tryz.ntmps37
 go_wp2_with fail
 refine (szName_any a n c x.parts lf _ (H0.out.kept hbl) h0 h1).mono ?_
 rintro e w1 ⟨r,rfl,hr,hb1⟩
 have B1:Below w.heap.size w w1:=hbl.trans (hb1.mono hbl.size)
 have HR:Hid (_):=hr
 by_cases hneg:r<0
 ·clear hr
  go_wp2
  go_ret
  exact ⟨_,rfl,.inl (by decide),B1⟩
 ·have hr2:0≤r∧r≤1048576:=by omega
  clear hr
  go_wp2
  go_ret
  refine ⟨_,rfl,.inr ⟨hr2.1,hr2.2,?_⟩,B1⟩
  have hn:=HN.out
  rcases HR.out with h | ⟨_,_,h3,h4⟩
  ·omega
  ·exact ⟨by rw [hn]; exact h3,fun k hk=>h4 k (by rw [← hn]; exact hk)⟩
theorem szGoneS_any (a:Option Addr)(n cap:Nat)(xs:List GP)(lf:Int)(w:World)(h:Gns w a n xs)(hl0:0≤lf)(hl1:lf≤1048576) :
  Calls Tryz.prog 14 #[.slice a n cap,.int .i64 lf] w fun e w'=>∃ r,e=.returned (.int .i64 r)∧(r<0∨(0≤r∧r≤1048576∧n≤1048576∧∀ k,k<n→GpOk (xs.getD k default)))∧Below w.heap.size w w':=by
 have H0:Hid (Gns w a n xs):=h
 have hn:=h.max
 clear h
 by_cases hlt:(n:Int)≤lf
 ·go_enter Tryz.func14,Tryz.ntmps14
  go_wp2
  go_loopw [1,5] (fun l i wr=>∃ (k:Nat) (left:Int),k≤n∧i=.int .i64 k∧l=.int .i64 left∧0≤left∧left≤1048576∧Hid (∀ j,j<k→GpOk (xs.getD j default))∧Below w.heap.size w wr) (fun _ i _=>n - (intOf i).toNat)
  case atStart=>exact ⟨0,lf - n,Nat.zero_le _,rfl,rfl,by omega,by omega,fun j hj=>absurd hj (Nat.not_lt_zero _),Below.refl _ _⟩
  case round =>
   obtain ⟨k,left,hk,rfl,rfl,h0,h1,HA,hbr⟩:=hrel
   by_cases hkn:k<n
   ·obtain ⟨b,off,an,nn,cn,rfl,hlb,hc,hp⟩:=H0.out.get k hkn
    obtain ⟨y,hy⟩:∃ y,y=xs.getD k default:=⟨_,rfl⟩
    rw [← hy] at hc hp
    have HY:Hid (y=xs.getD k default):=hy
    obtain ⟨c0,c1,c2,c3⟩:=hc.of (w':=wr) (fun i=>hbr.cell (p:=⟨b,i,none⟩) hlb)
    have HP:Hid (Pts wr an nn y.parts):=hp.kept hbr
    have hkni:(k:Int)<(n:Int):=by omega
    clear hc hy hp
    go_wp2_with fail
    refine (szGone_any an nn cn y left _ HP.out h0 h1).mono ?_
    rintro e w2 ⟨r,rfl,hr,hb2⟩
    have hb2':Below w.heap.size w w2:=hbr.trans (hb2.mono hbr.size)
    by_cases hneg:r<0
    ·clear hr
     go_wp2
     go_ret
     exact ⟨_,rfl,.inl (by decide),hb2'⟩
    ·have hr1:0≤r:=by omega
     have hr2:r≤1048576:=by omega
     have HR:Hid (GpOk y):=by rcases hr with h | h; exact absurd h hneg; exact h.2.2
     clear hr
     go_wp2
     go_roundw
     case rel =>
      refine ⟨k+1,r,by omega,by go_num,rfl,hr1,hr2,fun j hj=>?_,hb2'⟩
      by_cases hjk:j=k
      ·subst hjk; rw [← HY.out]; exact HR.out
      ·exact HA.out j (by omega)
     case measure=>simp [intOf]; omega
   ·obtain rfl:n=k:=by omega
    go_wp2
    go_ret
    exact ⟨_,rfl,.inr ⟨h0,h1,by omega,HA.out⟩,hbr⟩
 ·go_enter Tryz.func14,Tryz.ntmps14
  go_wp2
  go_ret
  exact ⟨_,rfl,.inl (by decide),Below.refl _ _⟩
theorem eqGone_same (a b:Option Addr)(n ca cb:Nat)(x:GP)(w:World)(h:Pts w a n x.parts)(h2:Pts w b n x.parts) :
  Calls Tryz.prog 77 #[gov a n ca x,gov b n cb x] w fun e w'=>e=.returned (.bool true)∧Below w.heap.size w w':=by
 have H1:Hid (Pts w a n x.parts):=h
 have H2:Hid (Pts w b n x.parts):=h2
 clear h h2
 unfold gov
 have hbl:Below w.heap.size w ((w.alloc (.cells #[.slice a n ca,.int .i64 x.ser,.int .i64 x.tm,.int .i64 x.rs] 74)).alloc (.cells #[.slice b n cb,.int .i64 x.ser,.int .i64 x.tm,.int .i64 x.rs] 74)):=((Below.refl _ _).alloc (Nat.le_refl _) _).alloc (by simp) _
 have t1:(x.ser != x.ser)=false:=by simp
 have t3:(x.tm != x.tm)=false:=by simp
 have t4:(x.rs != x.rs)=false:=by simp
 obtain ⟨W0,hW0⟩:∃ W0,W0=((w.alloc (.cells #[.slice a n ca,.int .i64 x.ser,.int .i64 x.tm,.int .i64 x.rs] 74)).alloc (.cells #[.slice b n cb,.int .i64 x.ser,.int .i64 x.tm,.int .i64 x.rs] 74)):=⟨_,rfl⟩
 have b0:=two_blocks w (.cells #[.slice a n ca,.int .i64 x.ser,.int .i64 x.tm,.int .i64 x.rs] 74) (.cells #[.slice b n cb,.int .i64 x.ser,.int .i64 x.tm,.int .i64 x.rs] 74)
 rw [← hW0] at hbl b0
 go_enter Tryz.func77,Tryz.ntmps77
 go_wp2_with fail
 rw [← hW0]
 clear hW0
 refine (eqName_same a b n ca cb x.parts _ (H1.out.kept hbl) (H2.out.kept hbl)).mono ?_
 rintro e w2 ⟨rfl,hb2⟩
 have l0:=(Array.getElem?_eq_some_iff.1 b0.2).1
 have y0:=(hb2.block _ (by omega)).trans b0.1
 have y1:=(hb2.block _ l0).trans b0.2
 have c1:w2.cell? ⟨w.heap.size,1,none⟩=some (.int .i64 x.ser):=qk y0 rfl
 have c2:w2.cell? ⟨w.heap.size,2,none⟩=some (.int .i64 x.tm):=qk y0 rfl
 have c3:w2.cell? ⟨w.heap.size,3,none⟩=some (.int .i64 x.rs):=qk y0 rfl
 have d1:w2.cell? ⟨w.heap.size+1,1,none⟩=some (.int .i64 x.ser):=qk y1 rfl
 have d2:w2.cell? ⟨w.heap.size+1,2,none⟩=some (.int .i64 x.tm):=qk y1 rfl
 have d3:w2.cell? ⟨w.heap.size+1,3,none⟩=some (.int .i64 x.rs):=qk y1 rfl
 have HF:Hid (Below w.heap.size w w2):=hbl.trans (hb2.mono hbl.size)
 clear hb2 y0 y1 b0 hbl
 go_wp2
 go_ret
 exact ⟨rfl,HF.out⟩
open Go.RowKit
theorem results_go {fn:Func}{t:Tmp}(h:fn.results=#[.cell t 74])(tmps:Array Value)(g:Nat)(ht:tmps.getD t undef=.pointer (some ⟨g,0,none⟩))(w:World)(c0 c1 c2 c3:Value)
  (hb:w.heap[g]? = some (.cells #[c0,c1,c2,c3] 74 (0,0))):(results fn tmps).run Tryz.prog w=.ok (.agg #[c0,c1,c2,c3]) w:=by
 have d0:w.cell? ⟨g,0,none⟩=some c0:=qk hb rfl
 have d1:w.cell? ⟨g,1,none⟩=some c1:=qk hb rfl
 have d2:w.cell? ⟨g,2,none⟩=some c2:=qk hb rfl
 have d3:w.cell? ⟨g,3,none⟩=some c3:=qk hb rfl
 clear hb
 have ht':tmps[t]?.getD undef=.pointer (some ⟨g,0,none⟩):=by rw [← ht]; simp
 simp [results,h,go_sem,ht',d0,d1,d2,d3]
def put4 (w:World)(g o:Nat)(v0 v1 v2 v3:Value):World:=(((w.setCell ⟨g,o,none⟩ v0).setCell ⟨g,o+1,none⟩ v1).setCell ⟨g,o+2,none⟩ v2).setCell ⟨g,o+3,none⟩ v3
theorem put4_other (w:World)(g o l:Nat)(h:l≠g)(v0 v1 v2 v3:Value):(put4 w g o v0 v1 v2 v3).heap[l]? = w.heap[l]? :=
 (Below.heap_setCell _ _ _ _ (by show l≠g; exact h)).trans ((Below.heap_setCell _ _ _ _ (by show l≠g; exact h)).trans ((Below.heap_setCell _ _ _ _ (by show l≠g; exact h)).trans (Below.heap_setCell _ _ _ _ (by show l≠g; exact h))))
theorem put4_size (w:World)(g o:Nat)(v0 v1 v2 v3:Value):(put4 w g o v0 v1 v2 v3).heap.size=w.heap.size:=by simp [put4]
theorem put4_row {w:World}{g t:Nat}{c0 c1 c2 c3:Value}(h:w.heap[g]? = some (.cells #[c0,c1,c2,c3] t (0,0)))(v0 v1 v2 v3:Value):(put4 w g 0 v0 v1 v2 v3).heap[g]? = some (.cells #[v0,v1,v2,v3] t (0,0)):=by
 have q1:=heap_setCell_same w g 0 _ t v0 h
 have q2:=heap_setCell_same _ g 1 _ t v1 q1
 have q3:=heap_setCell_same _ g 2 _ t v2 q2
 exact heap_setCell_same _ g 3 _ t v3 q3
open Go.RowKit
theorem Tryz.infoGone:(Tryz.prog.info? 74).map (fun i=>(i.zero,i.size,i.bytes))=some (some (.agg #[.slice none 0 0,.int .i64 0,.int .i64 0,.int .i64 0]),4,48):=by kernel_rfl
def GoPre (w:World)(g k:Nat)(xs:List GP):Prop:=∀ j,j<k→∃ gn nn,g<gn∧Cells4 w g (j * 4) (some ⟨gn,0,none⟩) nn nn (xs.getD j default)∧Pts w (some ⟨gn,0,none⟩) nn (xs.getD j default).parts
theorem GoPre.kept {w w':World}{g k:Nat}{xs:List GP}(h:GoPre w g k xs)(hg:g<w.heap.size)(hb:Below w.heap.size w w'):GoPre w' g k xs:=fun j hj=>by
 obtain ⟨gn,nn,h1,h3,h4⟩:=h j hj
 exact ⟨gn,nn,h1,h3.of (fun i=>hb.cell (p:=⟨g,i,none⟩) hg),h4.kept hb⟩
structure Put4 (B:Nat)(w w':World)(g n cap i:Nat)(an:Option Addr)(nn cn:Nat)(x:GP):Prop where
 own:∃ vs,w'.ownsRow B 74 4 (.slice (some ⟨g,0,none⟩) n cap) n vs
 other:∀ l,l≠g→w'.heap[l]? = w.heap[l]?
 size:w'.heap.size=w.heap.size
 old:∀ j,j<n * 4→j<i * 4∨i * 4+4≤j→w'.cell? ⟨g,j,none⟩=w.cell? ⟨g,j,none⟩
 cells:Cells4 w' g (i * 4) an nn cn x
theorem put4_is {B:Nat}{w:World}{g n cap:Nat}{vs:List Value}(h:w.ownsRow B 74 4 (.slice (some ⟨g,0,none⟩) n cap) n vs)(i:Nat)(hi:i<n)(an:Option Addr)(nn cn:Nat)(x:GP):Put4 B w (put4 w g (i * 4) (.slice an nn cn) (.int .i64 x.ser) (.int .i64 x.tm) (.int .i64 x.rs)) g n cap i an nn cn x:=by
 have h1:=((((h.stored (i * 4) (.slice an nn cn)).1.stored (i * 4+1) (.int .i64 x.ser)).1.stored (i * 4+2) (.int .i64 x.tm)).1.stored (i * 4+3) (.int .i64 x.rs)).1
 have hl:vs.length=n * 4:=h.1
 have cc:=fun j (hj:j<n * 4)=>h1.cellAt j hj
 refine ⟨⟨_,h1⟩,fun l hl=>put4_other _ _ _ _ hl _ _ _ _,put4_size _ _ _ _ _ _ _,fun j hj ho=>?_,⟨?_,?_,?_,?_⟩⟩
 ·refine (cc j hj).trans ?_
  rw [h.cellAt j hj]
  rw [List.getElem?_set_ne (by omega),List.getElem?_set_ne (by omega),List.getElem?_set_ne (by omega),List.getElem?_set_ne (by omega)]
 ·refine (cc _ (by omega)).trans ?_
  rw [List.getElem?_set_ne (by omega),List.getElem?_set_ne (by omega),List.getElem?_set_ne (by omega),List.getElem?_set_self (by omega)]
 ·refine (cc _ (by omega)).trans ?_
  rw [List.getElem?_set_ne (by omega),List.getElem?_set_ne (by omega),List.getElem?_set_self (by simp; omega)]
 ·refine (cc _ (by omega)).trans ?_
  rw [List.getElem?_set_ne (by omega),List.getElem?_set_self (by simp; omega)]
 ·refine (cc _ (by omega)).trans ?_
  rw [List.getElem?_set_self (by simp; omega)]
theorem GoPre.gns {w:World}{g n:Nat}{xs:List GP}(h:GoPre w g n xs)(hl:xs.length=n)(hn:n≤9223372036854775807)(hg:g<w.heap.size):Gns w (some ⟨g,0,none⟩) n xs:=by
 refine ⟨hl,hn,fun k hk=>?_⟩
 obtain ⟨gn,nn,h1,h3,h4⟩:=h k hk
 exact ⟨g,0,_,_,_,rfl,hg,by rw [Nat.zero_add]; exact h3,h4⟩
open Go.RowKit
theorem eqGoneS_same (a b:Option Addr)(n ca cb:Nat)(xs:List GP)(w:World)(h:Gns w a n xs)(h2:Gns w b n xs) :
  Calls Tryz.prog 28 #[.slice a n ca,.slice b n cb] w fun e w'=>e=.returned (.bool true)∧Below w.heap.size w w':=by
 have HK:Hid (Gns w a n xs):=h
 have HK2:Hid (Gns w b n xs):=h2
 have hn:=h.max
 clear h h2
 go_enter Tryz.func28,Tryz.ntmps28
 go_wp2
 go_loopw [5] (fun i wr=>∃ k:Nat,k≤n∧i=.int .i64 k∧Below w.heap.size w wr) (fun i _=>n - (intOf i).toNat)
 case atStart=>exact ⟨0,Nat.zero_le _,rfl,Below.refl _ _⟩
 case round =>
  obtain ⟨k,hk,rfl,hbr⟩:=hrel
  by_cases hkn:k<n
  ·obtain ⟨b1,off1,an,nn,cn,rfl,hl1,hc1,hp1⟩:=HK.out.get k hkn
   obtain ⟨b2,off2,am,mm,cm,rfl,hl2,hc2,hp2⟩:=HK2.out.get k hkn
   obtain ⟨y,hy⟩:∃ y,y=xs.getD k default:=⟨_,rfl⟩
   rw [← hy] at hc1 hc2 hp1 hp2
   clear hy
   obtain rfl:mm=nn:=by rw [← hp2.len,← hp1.len]
   obtain ⟨c0,c1,c2,c3⟩:=hc1.of (w':=wr) (fun i=>hbr.cell (p:=⟨b1,i,none⟩) hl1)
   obtain ⟨d0,d1,d2,d3⟩:=hc2.of (w':=wr) (fun i=>hbr.cell (p:=⟨b2,i,none⟩) hl2)
   have HP1:Hid (Pts wr.drew an mm y.parts):=hp1.kept hbr.drew
   have HP2:Hid (Pts wr.drew am mm y.parts):=hp2.kept hbr.drew
   have hkni:(k:Int)<(n:Int):=by omega
   have hs:=hbr.size
   clear hc1 hc2 hp1 hp2
   go_wp2_with fail
   go_region_with (go_at_call 77; refine (eqGone_same an am mm cn cm y _ HP1.out HP2.out).mono ?_; rintro e w2 ⟨rfl,hb2⟩)
   all_goals
    have b5:Below w.heap.size w w2:=hbr.drew.trans (hb2.mono hs)
    go_wp2
    go_roundw
    case rel=>exact ⟨k+1,by omega,by go_num,b5⟩
    case measure=>simp [intOf]; omega
  ·go_wp2
   go_ret
   exact ⟨rfl,hbr⟩
structure CP where
 parts:List PT
 num:Int
 base:Int
 tm:Int
 next:Int
 scope:Int
 ind:Bool
 ents:List GP
 sig:List Int
def crv (a1:Option Addr)(n1 c1:Nat)(a2:Option Addr)(n2 c2:Nat)(a3:Option Addr)(n3 c3:Nat)(x:CP):Value:=.agg #[.slice a1 n1 c1,.int .i64 x.num,.int .i64 x.base,.int .i64 x.tm,.int .i64 x.next,.int .i64 x.scope,.bool x.ind,.slice a2 n2 c2,.slice a3 n3 c3]
structure Crs (w:World)(a1:Option Addr)(n1:Nat)(a2:Option Addr)(n2:Nat)(a3:Option Addr)(n3:Nat)(x:CP):Prop where
 nm:Pts w a1 n1 x.parts
 en:Gns w a2 n2 x.ents
 sg:Row w a3 n3 x.sig
 mx:n3≤9223372036854775807
theorem Crs.kept {w w':World}{a1:Option Addr}{n1:Nat}{a2:Option Addr}{n2:Nat}{a3:Option Addr}{n3:Nat}{x:CP}(h:Crs w a1 n1 a2 n2 a3 n3 x)(hb:Below w.heap.size w w'):Crs w' a1 n1 a2 n2 a3 n3 x:=⟨h.nm.kept hb,h.en.kept hb,h.sg.kept hb,h.mx⟩
def CpOk (n1 n2 n3:Nat)(x:CP):Prop:=n1≤1048576∧(∀ k,k<n1→(x.parts.getD k default).val.size≤1048576)∧n2≤1048576∧(∀ k,k<n2→GpOk (x.ents.getD k default))∧n3≤1048576
theorem szByteS_k (a:Option Addr)(n cap:Nat)(l:Int)(w:World)(hl0:0≤l)(hl:l≤1048576)(hn:n≤9223372036854775807) :
  Calls Tryz.prog 15 #[.slice a n cap,.int .i64 l] w fun e w'=>∃ r,e=.returned (.int .i64 r)∧(r<0∨(0≤r∧r≤1048576∧n≤1048576))∧w=w':=by
 by_cases hlt:(n:Int)≤l
 ·go_enter Tryz.func15,Tryz.ntmps15
  go_wp2
  go_ret
  exact ⟨_,rfl,.inr (by omega),rfl⟩
 ·go_enter Tryz.func15,Tryz.ntmps15
  go_wp2
  go_ret
  exact ⟨_,rfl,.inl (by decide),rfl⟩
theorem szCrl_any (a1:Option Addr)(n1 c1:Nat)(a2:Option Addr)(n2 c2:Nat)(a3:Option Addr)(n3 c3:Nat)(x:CP)(lf:Int)(w:World)(h:Crs w a1 n1 a2 n2 a3 n3 x)(hl0:0≤lf)(hl1:lf≤1048576) :
  Calls Tryz.prog 4 #[crv a1 n1 c1 a2 n2 c2 a3 n3 c3 x,.int .i64 lf] w fun e w'=>∃ r,e=.returned (.int .i64 r)∧(r<0∨(0≤r∧r≤1048576∧CpOk n1 n2 n3 x))∧Below w.heap.size w w':=by
 unfold crv
 have HK:Hid (Crs w a1 n1 a2 n2 a3 n3 x):=h
 clear h
 obtain ⟨w0,hw0⟩:∃ w0,w0=w.alloc (.cells #[.slice a1 n1 c1,.int .i64 x.num,.int .i64 x.base,.int .i64 x.tm,.int .i64 x.next,.int .i64 x.scope,.bool x.ind,.slice a2 n2 c2,.slice a3 n3 c3] 28):=⟨_,rfl⟩
 have hb0:Below w.heap.size w w0:=by rw [hw0]; exact (Below.refl _ _).alloc (Nat.le_refl _) _
 have hh0:w0.heap[w.heap.size]? = some (.cells #[.slice a1 n1 c1,.int .i64 x.num,.int .i64 x.base,.int .i64 x.tm,.int .i64 x.next,.int .i64 x.scope,.bool x.ind,.slice a2 n2 c2,.slice a3 n3 c3] 28):=by rw [hw0]; exact heap_alloc_new w _
 have hl0':w.heap.size<w0.heap.size:=(Array.getElem?_eq_some_iff.1 hh0).1
 go_enter Tryz.func4,Tryz.ntmps4
 go_wp2_with fail
 rw [← hw0]
 clear hw0
 refine (szName_any a1 n1 c1 x.parts lf _ (HK.out.kept hb0).nm hl0 hl1).mono ?_
 rintro e w1 ⟨r1,rfl,hr1,hb1⟩
 have B1:Below w.heap.size w w1:=hb0.trans (hb1.mono hb0.size)
 have hh1:=(hb1.block _ hl0').trans hh0
 have c7:w1.cell? ⟨w.heap.size,7,none⟩=some (.slice a2 n2 c2):=qk hh1 rfl
 by_cases hneg:r1<0
 ·clear hr1 hh1 hh0 hb0 hb1
  go_wp2
  go_ret
  exact ⟨_,rfl,.inl (by decide),B1⟩
 ·have hr1':0≤r1∧r1≤1048576:=by omega
  have HR1:Hid (n1≤1048576∧∀ k,k<n1→(x.parts.getD k default).val.size≤1048576):=by rcases hr1 with h | h; exact absurd h hneg; exact h.2.2
  have hl1':w.heap.size<w1.heap.size:=(Array.getElem?_eq_some_iff.1 hh1).1
  have HH1:Hid (_=_):=hh1
  have HB1:Hid (Below w.heap.size w w1):=B1
  clear hr1 hh0 hb0 hb1 hh1 B1
  go_wp2_with fail
  refine (szGoneS_any a2 n2 c2 x.ents r1 _ (HK.out.kept HB1.out).en hr1'.1 hr1'.2).mono ?_
  rintro e w2 ⟨r2,rfl,hr2,hb2⟩
  have B2:Below w.heap.size w w2:=HB1.out.trans (hb2.mono HB1.out.size)
  have hh2:=(hb2.block _ hl1').trans HH1.out
  have c8:w2.cell? ⟨w.heap.size,8,none⟩=some (.slice a3 n3 c3):=qk hh2 rfl
  by_cases hneg2:r2<0
  ·clear hr2 hh2 hb2
   go_wp2
   go_ret
   exact ⟨_,rfl,.inl (by decide),B2⟩
  ·have hr2':0≤r2∧r2≤1048576:=by omega
   have HR2:Hid (n2≤1048576∧∀ k,k<n2→GpOk (x.ents.getD k default)):=by rcases hr2 with h | h; exact absurd h hneg2; exact h.2.2
   have HB2:Hid (Below w.heap.size w w2):=B2
   clear hr2 hh2 hb2 B2
   go_wp2_with fail
   refine (szByteS_k a3 n3 c3 r2 _ hr2'.1 hr2'.2 HK.out.mx).mono ?_
   rintro e w3 ⟨r3,rfl,hr3,rfl⟩
   by_cases hneg3:r3<0
   ·clear hr3
    go_wp2
    go_ret
    exact ⟨_,rfl,.inl (by decide),HB2.out⟩
   ·have hr3':0≤r3∧r3≤1048576:=by omega
    have hn3:n3≤1048576:=by omega
    clear hr3
    go_wp2
    go_ret
    exact ⟨_,rfl,.inr ⟨hr3'.1,hr3'.2,HR1.out.1,HR1.out.2,HR2.out.1,HR2.out.2,hn3⟩,HB2.out⟩
end Go.Proofs.YtnmplldhdfingaaGreatDoor
