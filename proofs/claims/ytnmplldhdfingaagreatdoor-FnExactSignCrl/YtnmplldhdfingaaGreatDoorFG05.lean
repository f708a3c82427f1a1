import Derived.Handy
import Derived.Deep.RegionWith
import Derived.Laws.IdiomStrings
import Derived.Deep.DeepCutAuto
import Derived.Test.YtnmplldhdfingaaGreatDoorFG04
import Derived.Test.YtnmplldhdfingaaGreatDoorFG02
set_option maxRecDepth 10000
set_option maxHeartbeats 8000000
set_option linter.unusedVariables false
namespace Go.Proofs.YtnmplldhdfingaaGreatDoor
open Go.RowKit
structure PT where
 attr:Int
 val:ByteArray
instance:Inhabited PT:=⟨⟨0,ByteArray.empty⟩⟩
def ptv (x:PT):Value:=.agg #[.int .i64 x.attr,.string x.val]
def nmv (a:Option Addr)(n c:Nat):Value:=.agg #[.slice a n c]
structure Cells2 (w:World)(b o:Nat)(x:PT):Prop where
 c0:w.cell? ⟨b,o,none⟩=some (.int .i64 x.attr)
 c1:w.cell? ⟨b,o+1,none⟩=some (.string x.val)
theorem Cells2.of {w w':World}{b o:Nat}{x:PT}(h:Cells2 w b o x)(hc:∀ i,w'.cell? ⟨b,i,none⟩=w.cell? ⟨b,i,none⟩):Cells2 w' b o x :=
 ⟨(hc _).trans h.c0,(hc _).trans h.c1⟩
structure Pts (w:World)(a:Option Addr)(n:Nat)(xs:List PT):Prop where
 len:xs.length=n
 max:n≤9223372036854775807
 get:∀ k,k<n→∃ b off,a=some ⟨b,off,none⟩∧b<w.heap.size∧Cells2 w b (off+k * 2) (xs.getD k default)∧(xs.getD k default).val.size≤9223372036854775807
theorem Pts.kept {w w':World}{a:Option Addr}{n:Nat}{xs:List PT}(h:Pts w a n xs)(hb:Below w.heap.size w w'):Pts w' a n xs:=by
 refine ⟨h.len,h.max,fun k hk=>?_⟩
 obtain ⟨b,off,ha,hlt,hc,hn⟩:=h.get k hk
 exact ⟨b,off,ha,Nat.lt_of_lt_of_le hlt hb.size,hc.of (fun i=>hb.cell (p:=⟨b,i,none⟩) hlt),hn⟩
theorem szPart_any (x:PT)(left:Int)(w:World)(hn:x.val.size≤9223372036854775807)(h0:0≤left)(h1:left≤1048576) :
  Calls Tryz.prog 80 #[ptv x,.int .i64 left] w fun e w'=>∃ r,e=.returned (.int .i64 r)∧(r<0∨(0≤r∧r≤1048576∧x.val.size≤1048576))∧Below w.heap.size w w':=by
 unfold ptv
 have hbl:Below w.heap.size w (w.alloc (.cells #[.int .i64 x.attr,.string x.val] 118)):=(Below.refl _ _).alloc (Nat.le_refl _) _
 by_cases hlt:(x.val.size:Int)≤left
 ·go_enter Tryz.func80,Tryz.ntmps80
  go_wp2
  go_ret
  exact ⟨_,rfl,.inr (by omega),hbl⟩
 ·go_enter Tryz.func80,Tryz.ntmps80
  go_wp2
  go_ret
  exact ⟨_,rfl,.inl (by decide),hbl⟩
theorem szPartS_any (a:Option Addr)(n cap:Nat)(xs:List PT)(lf:Int)(w:World)(h:Pts w a n xs)(hl0:0≤lf)(hl1:lf≤1048576) :
  Calls Tryz.prog 36 #[.slice a n cap,.int .i64 lf] w fun e w'=>∃ r,e=.returned (.int .i64 r)∧(r<0∨(0≤r∧r≤1048576∧n≤1048576∧∀ k,k<n→(xs.getD k default).val.size≤1048576))∧Below w.heap.size w w':=by
 have H0:Hid (Pts w a n xs):=h
 have hn:=h.max
 clear h
 by_cases hlt:(n:Int)≤lf
 ·go_enter Tryz.func36,Tryz.ntmps36
  go_wp2
  go_loopw [1,5] (fun l i wr=>∃ (k:Nat) (left:Int),k≤n∧i=.int .i64 k∧l=.int .i64 left∧0≤left∧left≤1048576∧(∀ j,j<k→(xs.getD j default).val.size≤1048576)∧Below w.heap.size w wr) (fun _ i _=>n - (intOf i).toNat)
  case atStart=>exact ⟨0,lf - n,Nat.zero_le _,rfl,rfl,by omega,by omega,fun j hj=>absurd hj (Nat.not_lt_zero _),Below.refl _ _⟩
  case round =>
   obtain ⟨k,left,hk,rfl,rfl,h0,h1,hall,hbr⟩:=hrel
   by_cases hkn:k<n
   ·obtain ⟨b,off,rfl,hlb,hc,hnk⟩:=H0.out.get k hkn
    obtain ⟨y,hy⟩:∃ y,y=xs.getD k default:=⟨_,rfl⟩
    rw [← hy] at hc hnk
    have HY:Hid (y=xs.getD k default):=hy
    obtain ⟨c0,c1⟩:=hc.of (w':=wr) (fun i=>hbr.cell (p:=⟨b,i,none⟩) hlb)
    have hkni:(k:Int)<(n:Int):=by omega
    have HA:Hid (_):=hall
    clear hc hy hall
    go_wp2_with fail
    refine (szPart_any y left _ hnk h0 h1).mono ?_
    rintro e w2 ⟨r,rfl,hr,hb2⟩
    have hb2':Below w.heap.size w w2:=hbr.trans (hb2.mono hbr.size)
    by_cases hneg:r<0
    ·go_wp2
     go_ret
     exact ⟨_,rfl,.inl (by decide),hb2'⟩
    ·have hr1:0≤r:=by omega
     have hr2:r≤1048576:=by omega
     have hr3:y.val.size≤1048576:=by omega
     clear hr
     go_wp2
     go_roundw
     case rel =>
      refine ⟨k+1,r,by omega,by go_num,rfl,hr1,hr2,fun j hj=>?_,hb2'⟩
      by_cases hjk:j=k
      ·subst hjk; rw [← HY.out]; exact hr3
      ·exact HA.out j (by omega)
     case measure=>simp [intOf]; omega
   ·obtain rfl:n=k:=by omega
    have HA:Hid (_):=hall
    clear hall
    go_wp2
    go_ret
    exact ⟨_,rfl,.inr ⟨h0,h1,by omega,HA.out⟩,hbr⟩
 ·go_enter Tryz.func36,Tryz.ntmps36
  go_wp2
  go_ret
  exact ⟨_,rfl,.inl (by decide),Below.refl _ _⟩
theorem szName_any (a:Option Addr)(n c:Nat)(xs:List PT)(lf:Int)(w:World)(h:Pts w a n xs)(hl0:0≤lf)(hl1:lf≤1048576) :
  Calls Tryz.prog 13 #[nmv a n c,.int .i64 lf] w fun e w'=>∃ r,e=.returned (.int .i64 r)∧(r<0∨(0≤r∧r≤1048576∧n≤1048576∧∀ k,k<n→(xs.getD k default).val.size≤1048576))∧Below w.heap.size w w':=by
 unfold nmv
 have H0:Hid (Pts w a n xs):=h
 clear h
 have hbl:Below w.heap.size w (w.alloc (.cells #[.slice a n c] 24)):=(Below.refl _ _).alloc (Nat.le_refl _) _
 go_enter Tryz.func13,Tryz.ntmps13
 go_wp2_with fail
 refine (szPartS_any a n c xs lf _ (H0.out.kept hbl) hl0 hl1).mono ?_
 rintro e w1 ⟨r,rfl,hr,hb1⟩
 have hb1':Below w.heap.size w w1:=hbl.trans (hb1.mono hbl.size)
 have HR:Hid (_):=hr
 by_cases hneg:r<0
 ·clear hr
  go_wp2
  go_ret
  exact ⟨_,rfl,.inl (by decide),hb1'⟩
 ·have hr':0≤r∧r≤1048576:=by omega
  clear hr
  go_wp2
  go_ret
  exact ⟨_,rfl,HR.out,hb1'⟩
theorem eqPart_same (x:PT)(w:World) :
  Calls Tryz.prog 115 #[ptv x,ptv x] w fun e w'=>e=.returned (.bool true)∧Below w.heap.size w w':=by
 have hB:Below w.heap.size w ((w.alloc (.cells #[.int .i64 x.attr,.string x.val] 132)).alloc (.cells #[.int .i64 x.attr,.string x.val] 132)):=((Below.refl _ _).alloc (Nat.le_refl _) _).alloc (by simp) _
 have t1:(x.attr != x.attr)=false:=by simp
 unfold ptv
 go_enter Tryz.func115,Tryz.ntmps115
 go_wp2
 go_ret
 exact ⟨rfl,hB⟩
theorem eqPartS_same (a b:Option Addr)(n ca cb:Nat)(xs:List PT)(w:World)(h:Pts w a n xs)(h2:Pts w b n xs) :
  Calls Tryz.prog 76 #[.slice a n ca,.slice b n cb] w fun e w'=>e=.returned (.bool true)∧Below w.heap.size w w':=by
 have HK:Hid (Pts w a n xs):=h
 have HK2:Hid (Pts w b n xs):=h2
 have hn:=h.max
 clear h h2
 go_enter Tryz.func76,Tryz.ntmps76
 go_wp2
 go_loopw [5] (fun i wr=>∃ k:Nat,k≤n∧i=.int .i64 k∧Below w.heap.size w wr) (fun i _=>n - (intOf i).toNat)
 case atStart=>exact ⟨0,Nat.zero_le _,rfl,Below.refl _ _⟩
 case round =>
  obtain ⟨k,hk,rfl,hbr⟩:=hrel
  by_cases hkn:k<n
  ·obtain ⟨b1,off1,rfl,hl1,hc1,hm1⟩:=HK.out.get k hkn
   obtain ⟨b2,off2,rfl,hl2,hc2,hm2⟩:=HK2.out.get k hkn
   obtain ⟨y,hy⟩:∃ y,y=xs.getD k default:=⟨_,rfl⟩
   rw [← hy] at hc1 hc2
   clear hy
   obtain ⟨c0,c1⟩:=hc1.of (w':=wr) (fun i=>hbr.cell (p:=⟨b1,i,none⟩) hl1)
   obtain ⟨d0,d1⟩:=hc2.of (w':=wr) (fun i=>hbr.cell (p:=⟨b2,i,none⟩) hl2)
   have hkni:(k:Int)<(n:Int):=by omega
   have hs:=hbr.size
   clear hc1 hc2
   go_wp2_with fail
   go_region_with (go_at_call 115; refine (eqPart_same y _).mono ?_; rintro e w2 ⟨rfl,hb2⟩)
   all_goals
    have b5:Below w.heap.size w w2:=hbr.drew.trans (hb2.mono hs)
    go_wp2
    go_roundw
    case rel=>exact ⟨k+1,by omega,by go_num,b5⟩
    case measure=>simp [intOf]; omega
  ·go_wp2
   go_ret
   exact ⟨rfl,hbr⟩
theorem eqName_same (a b:Option Addr)(n ca cb:Nat)(xs:List PT)(w:World)(h:Pts w a n xs)(h2:Pts w b n xs) :
  Calls Tryz.prog 27 #[nmv a n ca,nmv b n cb] w fun e w'=>e=.returned (.bool true)∧Below w.heap.size w w':=by
 unfold nmv
 have H1:Hid (Pts w a n xs):=h
 have H2:Hid (Pts w b n xs):=h2
 clear h h2
 have hB:Below w.heap.size w ((w.alloc (.cells #[.slice a n ca] 35)).alloc (.cells #[.slice b n cb] 35)):=((Below.refl _ _).alloc (Nat.le_refl _) _).alloc (by simp) _
 go_enter Tryz.func27,Tryz.ntmps27
 go_wp2_with fail
 refine (eqPartS_same a b n ca cb xs _ (H1.out.kept hB) (H2.out.kept hB)).mono ?_
 rintro e w1 ⟨rfl,hb1⟩
 go_wp2
 go_ret
 exact ⟨rfl,hB.trans (hb1.mono hB.size)⟩
open Go.RowKit
theorem alloc_old' (w:World)(o:Obj)(g:Nat)(hg:g<w.heap.size):(w.alloc o).heap[g]? = w.heap[g]?:=((Below.refl w.heap.size w).alloc (Nat.le_refl _) o).block g hg
theorem three_blocks' (w:World)(o0 o1 o2:Obj):(((w.alloc o0).alloc o1).alloc o2).heap[w.heap.size]? = some o0∧(((w.alloc o0).alloc o1).alloc o2).heap[w.heap.size+1]? = some o1∧(((w.alloc o0).alloc o1).alloc o2).heap[w.heap.size+2]? = some o2:=by
 have s1:(w.alloc o0).heap.size=w.heap.size+1:=by simp
 have s2:((w.alloc o0).alloc o1).heap.size=w.heap.size+2:=by simp
 exact ⟨(alloc_old' _ o2 _ (by omega)).trans ((alloc_old' _ o1 _ (by omega)).trans (heap_alloc_new w o0)),(alloc_old' _ o2 _ (by omega)).trans (by rw [← s1]; exact heap_alloc_new _ o1),by rw [← s2]; exact heap_alloc_new _ o2⟩
theorem touch_set' {p q:Nat}(w:World)(g j:Nat)(u:Value)(h1:p≤g)(h2:g<q):Touch p q w (w.setCell ⟨g,j,none⟩ u) :=
 ⟨rfl,rfl,rfl,by simp,fun k _ hk=>heap_setCell_other w ⟨g,j,none⟩ k u (by simp; omega)⟩
theorem heap_kept' {B:Nat}{w w':World}(h:Below B w w'){g:Nat}(hg:g<B){o:Obj}(e:w.heap[g]? = some o):w'.heap[g]? = some o:=(h.block g hg).trans e
theorem three_below (w:World)(o0 o1 o2:Obj):Below w.heap.size w (((w.alloc o0).alloc o1).alloc o2):=(((Below.refl _ _).alloc (Nat.le_refl _) _).alloc (by simp) _).alloc (by simp; omega) _
theorem Tryz.infoPart:(Tryz.prog.info? 132).map (fun i=>(i.zero,i.size,i.bytes))=some (some (.agg #[.int .i64 0,.string ByteArray.empty]),2,24):=by kernel_rfl
theorem results_pt {fn:Func}{t:Tmp}(h:fn.results=#[.cell t 132])(tmps:Array Value)(g:Nat)(ht:tmps.getD t undef=.pointer (some ⟨g,0,none⟩))(w:World)(c0 c1:Value)
  (hb:w.heap[g]? = some (.cells #[c0,c1] 132 (0,0))):(results fn tmps).run Tryz.prog w=.ok (.agg #[c0,c1]) w:=by
 have d0:w.cell? ⟨g,0,none⟩=some c0:=qk hb rfl
 have d1:w.cell? ⟨g,1,none⟩=some c1:=qk hb rfl
 clear hb
 have ht':tmps[t]?.getD undef=.pointer (some ⟨g,0,none⟩):=by rw [← ht]; simp
 simp [results,h,go_sem,ht',d0,d1]
theorem results_nm {fn:Func}{t:Tmp}(h:fn.results=#[.cell t 35])(tmps:Array Value)(g:Nat)(ht:tmps.getD t undef=.pointer (some ⟨g,0,none⟩))(w:World)(c0:Value)
  (hb:w.heap[g]? = some (.cells #[c0] 35 (0,0))):(results fn tmps).run Tryz.prog w=.ok (.agg #[c0]) w:=by
 have d0:w.cell? ⟨g,0,none⟩=some c0:=qk hb rfl
 clear hb
 have ht':tmps[t]?.getD undef=.pointer (some ⟨g,0,none⟩):=by rw [← ht]; simp
 simp [results,h,go_sem,ht',d0]
theorem toPart_any (x:PT)(w:World) :
  Calls Tryz.prog 99 #[ptv x] w fun e w'=>e=.returned (ptv x)∧Below w.heap.size w w':=by
 obtain ⟨_,b1,_⟩:=three_blocks' w (.cells #[.int .i64 x.attr,.string x.val] 118) (.cells #[.int .i64 x.attr,.string x.val] 132) (.cells #[.int .i64 x.attr,.string x.val] 132)
 have HB1:Hid (_=_):=b1
 clear b1
 unfold ptv
 go_enter Tryz.func99,Tryz.ntmps99
 go_wp2
 try simp only [Exit.inBlock,Exit.then]
 exact bodyPost_ret (results_pt rfl _ (w.heap.size+1) rfl _ _ _ HB1.out) rfl ⟨rfl,three_below _ _ _ _⟩
def PtPre (w:World)(g k:Nat)(xs:List PT):Prop:=∀ j,j<k→Cells2 w g (j * 2) (xs.getD j default)
theorem PtPre.kept {w w':World}{g k:Nat}{xs:List PT}(h:PtPre w g k xs)(hg:g<w.heap.size)(hb:Below w.heap.size w w'):PtPre w' g k xs :=
 fun j hj=>(h j hj).of (fun i=>hb.cell (p:=⟨g,i,none⟩) hg)
def set2 (w:World)(g i:Nat)(u0 u1:Value):World:=(w.setCell ⟨g,i * 2,none⟩ u0).setCell ⟨g,i * 2+1,none⟩ u1
structure Set2 (B:Nat)(w w':World)(g n cap i:Nat)(x:PT):Prop where
 own:∃ vs,w'.ownsRow B 132 2 (.slice (some ⟨g,0,none⟩) n cap) n vs
 touch:Touch g (g+1) w w'
 size:w'.heap.size=w.heap.size
 old:∀ j,j<n * 2→j<i * 2∨i * 2+2≤j→w'.cell? ⟨g,j,none⟩=w.cell? ⟨g,j,none⟩
 cells:Cells2 w' g (i * 2) x
theorem set2_is {B:Nat}{w:World}{g n cap:Nat}{vs:List Value}(h:w.ownsRow B 132 2 (.slice (some ⟨g,0,none⟩) n cap) n vs)(i:Nat)(hi:i<n)(x:PT):Set2 B w (set2 w g i (.int .i64 x.attr) (.string x.val)) g n cap i x:=by
 have h1:=((h.stored (i * 2) (.int .i64 x.attr)).1.stored (i * 2+1) (.string x.val)).1
 have hl:vs.length=n * 2:=h.1
 have cc:=fun j (hj:j<n * 2)=>h1.cellAt j hj
 refine ⟨⟨_,h1⟩,?_,by simp [set2],fun j hj ho=>?_,⟨?_,?_⟩⟩
 ·exact (touch_set' _ _ _ _ (Nat.le_refl _) (Nat.lt_succ_self _)).trans (touch_set' _ _ _ _ (Nat.le_refl _) (Nat.lt_succ_self _))
 ·refine (cc j hj).trans ?_
  rw [h.cellAt j hj]
  rw [List.getElem?_set_ne (by omega),List.getElem?_set_ne (by omega)]
 ·refine (cc _ (by omega)).trans ?_
  rw [List.getElem?_set_ne (by omega),List.getElem?_set_self (by omega)]
 ·refine (cc _ (by omega)).trans ?_
  rw [List.getElem?_set_self (by simp; omega)]
theorem Pts.same {w w':World}{g n:Nat}{xs:List PT}(h:Pts w (some ⟨g,0,none⟩) n xs)(hb:w'.heap[g]? = w.heap[g]?)(hs:w.heap.size≤w'.heap.size):Pts w' (some ⟨g,0,none⟩) n xs:=by
 refine ⟨h.len,h.max,fun k hk=>?_⟩
 obtain ⟨b,off,ha,hlt,hc,hn⟩:=h.get k hk
 simp only [Option.some.injEq,Addr.mk.injEq,and_true] at ha
 obtain ⟨rfl,rfl⟩:=ha
 exact ⟨g,0,rfl,Nat.lt_of_lt_of_le hlt hs,hc.of (fun i=>by simp [World.cell?,hb]),hn⟩
open Go.RowKit
def prB (x:Int):Prop:=32≤x∧x≤126
def printP (s:ByteArray)(k:Nat):Prop:=∀ j,j<k→32≤cAt s j∧cAt s j≤126
def partP (x:PT):Prop:=(1≤x.attr∧x.attr≤20)∧x.val.size≤60∧printP x.val x.val.size∧foldL x.val≠[]
def nameP (xs:List PT):Prop:=xs.length≤8∧∀ k,k<xs.length→partP (xs.getD k default)
theorem foldL_empty (s:ByteArray)(h:s.size<1):foldL s = []:=by
 have:s.size=0:=by omega
 unfold foldL
 rw [this]
 rfl
theorem printP_succ {s:ByteArray}{k:Nat}(h:printP s k)(h1:32≤cAt s k∧cAt s k≤126):printP s (k+1):=fun j hj=>by
 by_cases e:j=k
 ·rw [e]; exact h1
 ·exact h j (by omega)
def Says (P:Prop)(w:World)(e:Ending)(w':World):Prop:=∃ b,e=.returned (.bool b)∧Hid (b=true↔P)∧Below w.heap.size w w'
theorem says_t {P:Prop}{w w':World}(h:P)(hb:Below w.heap.size w w'):Says P w (.returned (.bool true)) w':=⟨true,rfl,⟨fun _=>h,fun _=>rfl⟩,hb⟩
theorem says_f {P:Prop}{w w':World}(h:¬ P)(hb:Below w.heap.size w w'):Says P w (.returned (.bool false)) w':=⟨false,rfl,⟨fun e=>(by cases e),fun e=>absurd e h⟩,hb⟩
theorem strOf_nil:strOfNums [] = { data:=#[] }:=rfl
theorem strOf_ne (l:List Int)(h:l≠[]):strOfNums l≠{ data:=#[] }:=fun e=>by
 have:=strOfNums_size l
 rw [e] at this
 exact h (List.eq_nil_of_length_eq_zero this.symm)
theorem inBounds_any (x lo hi:Int)(w:World):Calls Tryz.prog 60 #[.int .i64 x,.int .i64 lo,.int .i64 hi] w fun e w'=>e=.returned (.bool (decide (lo≤x∧x≤hi)))∧w=w':=by
 by_cases h1:lo≤x
 ·by_cases h2:x≤hi
  ·go_enter Tryz.func60,Tryz.ntmps60
   go_wp2
   go_ret
   exact ⟨by rw [decide_eq_true ⟨h1,h2⟩]; simp [*],rfl⟩
  ·go_enter Tryz.func60,Tryz.ntmps60
   go_wp2
   go_ret
   exact ⟨by rw [decide_eq_false (by omega)]; simp [*],rfl⟩
 ·go_enter Tryz.func60,Tryz.ntmps60
  go_wp2
  go_ret
  exact ⟨by rw [decide_eq_false (by omega)]; simp [*],rfl⟩
theorem l1In_any (x lo hi:Int)(w:World):Calls Tryz.prog 41 #[.int .i64 x,.int .i64 lo,.int .i64 hi] w fun e w'=>e=.returned (.bool (decide (lo≤x∧x≤hi)))∧w=w':=by
 by_cases h1:lo≤x
 ·by_cases h2:x≤hi
  ·go_enter Tryz.func41,Tryz.ntmps41
   go_wp2
   go_ret
   exact ⟨by rw [decide_eq_true ⟨h1,h2⟩]; simp [*],rfl⟩
  ·go_enter Tryz.func41,Tryz.ntmps41
   go_wp2
   go_ret
   exact ⟨by rw [decide_eq_false (by omega)]; simp [*],rfl⟩
 ·go_enter Tryz.func41,Tryz.ntmps41
  go_wp2
  go_ret
  exact ⟨by rw [decide_eq_false (by omega)]; simp [*],rfl⟩
theorem isPrinted_any (x:Int)(w:World) :
  Calls Tryz.prog 136 #[.int .u8 x] w (SaysW (prB x) w):=by
 by_cases ha:32≤x
 ·by_cases hb:x≤126
  ·have HV:Hid (prB x):=⟨ha,hb⟩
   go_enter Tryz.func136,Tryz.ntmps136
   go_wp2
   go_ret
   exact saysW_t HV.out
  ·have HV:Hid (¬ prB x):=fun h=>Bool.false_ne_true (absurd h.2 hb)
   go_enter Tryz.func136,Tryz.ntmps136
   go_wp2
   go_ret
   exact saysW_f HV.out
 ·have HV:Hid (¬ prB x):=fun h=>Bool.false_ne_true (absurd h.1 ha)
  go_enter Tryz.func136,Tryz.ntmps136
  go_wp2
  go_ret
  exact saysW_f HV.out
theorem everyPrinted_any (s:ByteArray)(w:World)(hs:s.size≤1048576) :
  Calls Tryz.prog 135 #[.string s,.func (Fn.func 136) #[] #[]] w (SaysW (printP s s.size) w):=by
 go_enter Tryz.func135,Tryz.ntmps135
 go_wp2
 go_loopw [5] (fun i wr=>∃ k:Nat,k≤s.size∧i=.int .i64 k∧Hid (printP s k)∧w=wr) (fun i _=>s.size - (intOf i).toNat)
 case atStart=>exact ⟨0,Nat.zero_le _,rfl,(fun j hj=>absurd hj (Nat.not_lt_zero _)),rfl⟩
 case round =>
  obtain ⟨k,hk,rfl,HP,rfl⟩:=hrel
  by_cases hlt:k<s.size
  ·have hbx:=s[k].toNat_lt
   have HX:Hid (cAt s k=(s[k].toNat:Int)):=cAt_get s k hlt
   go_wp2_with fail
   refine (isPrinted_any _ _).mono ?_
   rintro e w1 ⟨b,rfl,HV,rfl⟩
   cases b with
   | false =>
    have HN:Hid (¬ (printP s s.size)):=fun h=>Bool.false_ne_true (HV.out.2 (by rw [← HX.out]; exact h k hlt))
    go_wp2
    go_ret
    exact saysW_f HN.out
   | true =>
    have HN:Hid (printP s (k+1)):=printP_succ HP.out (by rw [HX.out]; exact HV.out.1 rfl)
    clear HP HV
    go_wp2
    go_roundw
    case rel=>exact ⟨k+1,by omega,by go_num,HN,by trivial⟩
    case measure=>simp [intOf]; omega
  ·obtain rfl:k=s.size:=by omega
   have HN:Hid (printP s s.size):=HP.out
   go_wp2
   go_ret
   exact saysW_t HN.out
theorem implPartOk_any (x:PT)(w:World)(hs:x.val.size≤1048576) :
  Calls Tryz.prog 123 #[ptv x] w (Says (partP x) w):=by
 have hbl:Below w.heap.size w (w.alloc (.cells #[.int .i64 x.attr,.string x.val] 132)):=(Below.refl _ _).alloc (Nat.le_refl _) _
 obtain ⟨W0,hW0⟩:∃ W0,W0=w.alloc (.cells #[.int .i64 x.attr,.string x.val] 132):=⟨_,rfl⟩
 have hh:W0.heap[w.heap.size]? = some (.cells #[.int .i64 x.attr,.string x.val] 132 (0,0)):=by rw [hW0]; exact heap_alloc_new w _
 have d0:W0.cell? ⟨w.heap.size,0,none⟩=some (.int .i64 x.attr):=qk hh rfl
 have d1:W0.cell? ⟨w.heap.size,1,none⟩=some (.string x.val):=qk hh rfl
 rw [← hW0] at hbl
 have HW0:Hid (_=_):=hW0
 clear hW0 hh
 unfold ptv
 by_cases h1:1≤x.attr∧x.attr≤20
 ·by_cases h2:x.val.size≤60
  ·have HC:Hid (_∧_):=⟨h1,h2⟩
   have e1:Hid (decide (1≤x.attr∧x.attr≤20)=true):=decide_eq_true h1
   clear h1
   go_enter Tryz.func123,Tryz.ntmps123
   go_wp2_with fail
   rw [← HW0.out]
   refine (inBounds_any _ _ _ _).mono ?_
   rintro e w1 ⟨rfl,rfl⟩
   rw [e1.out]
   go_wp2_with fail
   refine (everyPrinted_any x.val _ hs).mono ?_
   rintro e w1 ⟨b,rfl,HV,rfl⟩
   cases b with
   | false =>
    have HN:Hid (¬ (partP x)):=fun h=>Bool.false_ne_true (HV.out.2 h.2.2.1)
    go_wp2
    go_ret
    exact says_f HN.out hbl
   | true =>
    have HVt:Hid (printP x.val x.val.size):=HV.out.1 rfl
    clear HV
    go_wp2_with fail
    refine (implFold_any x.val _ hs).mono ?_
    rintro e w1 ⟨rfl,hb1⟩
    have hB1:=hbl.trans (hb1.mono hbl.size)
    by_cases h3:foldL x.val = []
    ·have HN:Hid (¬ (partP x)):=fun h=>Bool.false_ne_true (absurd h3 h.2.2.2)
     rw [h3,strOf_nil]
     clear h3
     go_wp2
     go_ret
     exact says_f HN.out hB1
    ·have HN:Hid (partP x):=⟨HC.out.1,HC.out.2,HVt.out,h3⟩
     have z:=strOf_ne _ h3
     obtain ⟨t,ht⟩:∃ t,t=strOfNums (foldL x.val):=⟨_,rfl⟩
     rw [← ht] at z ⊢
     have z3:t.toList.isEmpty=false:=by
      rw [ht,ByteArray.toList_eq,strOfNums_data]
      cases hl:foldL x.val with
      | nil=>exact absurd hl h3
      | cons _ _=>rfl
     clear h3 ht z
     go_wp2
     go_ret
     exact says_t HN.out hB1
  ·have HN:Hid (¬ (partP x)):=fun h=>Bool.false_ne_true (absurd h.2.1 h2)
   have e1:Hid (decide (1≤x.attr∧x.attr≤20)=true):=decide_eq_true h1
   clear h1
   go_enter Tryz.func123,Tryz.ntmps123
   go_wp2_with fail
   rw [← HW0.out]
   refine (inBounds_any _ _ _ _).mono ?_
   rintro e w1 ⟨rfl,rfl⟩
   rw [e1.out]
   go_wp2
   go_ret
   exact says_f HN.out hbl
 ·have HN:Hid (¬ (partP x)):=fun h=>Bool.false_ne_true (absurd h.1 h1)
  have e1:Hid (decide (1≤x.attr∧x.attr≤20)=false):=decide_eq_false h1
  clear h1
  go_enter Tryz.func123,Tryz.ntmps123
  go_wp2_with fail
  rw [← HW0.out]
  refine (inBounds_any _ _ _ _).mono ?_
  rintro e w1 ⟨rfl,rfl⟩
  rw [e1.out]
  go_wp2
  go_ret
  exact says_f HN.out hbl
theorem implNameOk_any (a:Option Addr)(n c:Nat)(xs:List PT)(w:World)(h:Pts w a n xs)(hz:∀ k,k<n→(xs.getD k default).val.size≤1048576) :
  Calls Tryz.prog 100 #[nmv a n c] w (Says (nameP xs) w):=by
 have hn:=h.max
 have hbl:Below w.heap.size w (w.alloc (.cells #[.slice a n c] 35)):=(Below.refl _ _).alloc (Nat.le_refl _) _
 have HK:Hid (Pts w a n xs):=h
 have HZ:Hid (_):=hz
 have HL:Hid (xs.length=n):=h.len
 clear h hz
 unfold nmv
 by_cases h8:n≤8
 ·go_enter Tryz.func100,Tryz.ntmps100
  go_wp2
  go_loopw [12] (fun i wr=>∃ k:Nat,k≤n∧i=.int .i64 k∧Hid (∀ j,j<k→partP (xs.getD j default))∧Below w.heap.size w wr) (fun i _=>n - (intOf i).toNat)
  case atStart=>exact ⟨0,Nat.zero_le _,rfl,(fun j hj=>absurd hj (Nat.not_lt_zero _)),hbl⟩
  case round =>
   obtain ⟨k,hk,rfl,HA,hbr⟩:=hrel
   by_cases hkn:k<n
   ·obtain ⟨b,off,rfl,hlb,hc,_⟩:=HK.out.get k hkn
    have hzz:=HZ.out k hkn
    obtain ⟨y,hy⟩:∃ y,y=xs.getD k default:=⟨_,rfl⟩
    rw [← hy] at hc hzz
    have HY:Hid (y=xs.getD k default):=hy
    obtain ⟨c0,c1⟩:=hc.of (w':=wr) (fun i=>hbr.cell (p:=⟨b,i,none⟩) hlb)
    have hkni:(k:Int)<(n:Int):=by omega
    have hb2:Below w.heap.size w (wr.alloc (.cells #[.int .i64 y.attr,.string y.val] 132)):=hbr.alloc hbr.size _
    clear hc hy
    go_wp2_with fail
    refine (implPartOk_any y _ hzz).mono ?_
    rintro e w2 ⟨r,rfl,HV,hb3⟩
    have hb3':Below w.heap.size w w2:=hb2.trans (hb3.mono hb2.size)
    cases r with
    | false =>
     have HN:Hid (¬ (nameP xs)):=fun h=>Bool.false_ne_true (HV.out.2 (by rw [HY.out]; exact h.2 k (by rw [HL.out]; exact hkn)))
     go_wp2
     go_ret
     exact says_f HN.out hb3'
    | true =>
     have HN:Hid (∀ j,j<k+1→partP (xs.getD j default)):=fun j hj=>by
      by_cases e:j=k
      ·rw [e,← HY.out]; exact HV.out.1 rfl
      ·exact HA.out j (by omega)
     clear HV HA
     go_wp2
     go_roundw
     case rel=>exact ⟨k+1,by omega,by go_num,HN,hb3'⟩
     case measure=>simp [intOf]; omega
   ·obtain rfl:n=k:=by omega
    have HN:Hid (nameP xs):=⟨by rw [HL.out]; exact h8,fun j hj=>HA.out j (by rw [HL.out] at hj; exact hj)⟩
    go_wp2
    go_ret
    exact says_t HN.out hbr
 ·have HN:Hid (¬ (nameP xs)):=fun h=>Bool.false_ne_true (absurd h.1 (by rw [HL.out]; exact h8))
  go_enter Tryz.func100,Tryz.ntmps100
  go_wp2
  go_ret
  exact says_f HN.out hbl
open Go.RowKit
def bytesOf (s:ByteArray):List Int:=(List.range s.size).map (cAt s)
theorem bytesOf_len (s:ByteArray):(bytesOf s).length=s.size:=by simp [bytesOf]
theorem bytesOf_get (s:ByteArray)(k:Nat)(h:k<s.size):(bytesOf s).getD k 0=cAt s k:=by simp [bytesOf,h]
theorem cAt_byte (s:ByteArray)(k:Nat):0≤cAt s k∧cAt s k≤255:=by
 unfold cAt
 have:=(s.data.toList.getD k 0).toNat_lt
 omega
theorem conv_str (w:World)(s:ByteArray) :
  ∃ cp W,(convert 9 26 (.string s)).run Tryz.prog w=.ok (.slice (some ⟨w.heap.size,0,none⟩) s.size cp) W∧Row W (some ⟨w.heap.size,0,none⟩) s.size (bytesOf s)∧Below w.heap.size w W:=by
 have hr:=run_bytes_of_string (P:=Tryz.prog) w 9 26 5 s Tryz.underlying9 Tryz.underlying26 Tryz.underlying5
 obtain ⟨cp,hcp⟩:∃ cp,cp=grownCap w s.size 0 5:=⟨_,rfl⟩
 rw [← hcp] at hr
 refine ⟨cp,_,hr,⟨bytesOf_len s,fun k hk=>⟨w.heap.size,0,rfl,by simp,?_⟩,fun k=>?_⟩,((Below.refl _ _).drew).alloc (Nat.le_refl _) _⟩
 ·rw [Nat.zero_add,cell_of_row _ w.heap.size k _ 5 _ (heap_alloc_new w.drew _),bytesOf_get s k hk,cAt_get s k hk]
  have h1:k<s.data.size:=hk
  unfold bytesRow
  rw [Array.getElem?_append_left (by simpa using h1),Array.getElem?_map,Array.getElem?_eq_getElem h1]
  rfl
 ·by_cases hk:k<s.size
  ·rw [bytesOf_get s k hk]; exact cAt_byte s k
  ·rw [List.getD_eq_getElem?_getD,List.getElem?_eq_none (by rw [bytesOf_len]; omega)]; simp
theorem l3Text_any (a:Option Addr)(n c:Nat)(bs:List Int)(w:World)(h:Row w a n bs)(hn:n≤1048576) :
  Calls Tryz.prog 117 #[.slice a n c] w (SaysW (∀ k,k<n→32≤bs.getD k 0∧bs.getD k 0≤126) w):=by
 have H0:Hid (Row w a n bs):=h
 have hby:=h.byte
 clear h
 obtain ⟨P,hP⟩:∃ P:Prop,P = ∀ k,k<n→32≤bs.getD k 0∧bs.getD k 0≤126:=⟨_,rfl⟩
 rw [← hP]
 have HP:Hid (P = ∀ k,k<n→32≤bs.getD k 0∧bs.getD k 0≤126):=hP
 clear hP
 go_enter Tryz.func117,Tryz.ntmps117
 go_wp2
 go_loopw [3] (fun i wr=>∃ k:Nat,k≤n∧i=.int .i64 k∧Hid (∀ j,j<k→32≤bs.getD j 0∧bs.getD j 0≤126)∧w=wr) (fun i _=>n - (intOf i).toNat)
 case atStart=>exact ⟨0,Nat.zero_le _,rfl,(fun j hj=>absurd hj (Nat.not_lt_zero _)),rfl⟩
 case round =>
  obtain ⟨k,hk,rfl,HA,rfl⟩:=hrel
  by_cases hlt:k<n
  ·obtain ⟨b,off,rfl,hb,hc⟩:=H0.out.get k hlt
   obtain ⟨x,hx⟩:∃ x,x=bs.getD k 0:=⟨_,rfl⟩
   have hxb:=hby k
   rw [← hx] at hc hxb
   obtain ⟨hx0,hx1⟩:=hxb
   have HX:Hid (x=bs.getD k 0):=hx
   clear hx
   have hlti:(k:Int)<(n:Int):=by omega
   by_cases h1:32≤x
   ·by_cases h2:x≤126
    ·have HN:Hid (∀ j,j<k+1→32≤bs.getD j 0∧bs.getD j 0≤126):=fun j hj=>by
      by_cases e:j=k
      ·rw [e,← HX.out]; exact ⟨h1,h2⟩
      ·exact HA.out j (by omega)
     clear HA
     go_wp2
     go_roundw
     case rel=>exact ⟨k+1,by omega,by go_num,HN,by trivial⟩
     case measure=>simp [intOf]; omega
    ·have HN:Hid (¬ P):=fun h=>by rw [HP.out] at h; have:=h k hlt; rw [← HX.out] at this; omega
     go_wp2
     go_ret
     exact saysW_f HN.out
   ·have HN:Hid (¬ P):=fun h=>by rw [HP.out] at h; have:=h k hlt; rw [← HX.out] at this; omega
    go_wp2
    go_ret
    exact saysW_f HN.out
  ·obtain rfl:n=k:=by omega
   have HN:Hid P:=by show P; rw [HP.out]; exact HA.out
   clear HA
   go_wp2
   go_ret
   exact saysW_t HN.out
theorem specNameOk_any (a:Option Addr)(n c:Nat)(xs:List PT)(w:World)(h:Pts w a n xs)(hz:∀ k,k<n→(xs.getD k default).val.size≤1048576) :
  Calls Tryz.prog 81 #[nmv a n c] w (Says (nameP xs) w):=by
 have hn:=h.max
 obtain ⟨W0,hW0⟩:∃ W0,W0=w.alloc (.cells #[.slice a n c] 35):=⟨_,rfl⟩
 have hbl:Below w.heap.size w W0:=by rw [hW0]; exact (Below.refl _ _).alloc (Nat.le_refl _) _
 have hh:W0.heap[w.heap.size]? = some (.cells #[.slice a n c] 35 (0,0)):=by rw [hW0]; exact heap_alloc_new w _
 have hlt0:w.heap.size<W0.heap.size:=(Array.getElem?_eq_some_iff.1 hh).1
 have d0:W0.cell? ⟨w.heap.size,0,none⟩=some (.slice a n c):=qk hh rfl
 have HK:Hid (Pts W0 a n xs):=h.kept hbl
 have HZ:Hid (_):=hz
 have HL:Hid (xs.length=n):=h.len
 have HW0:Hid (_=_):=hW0
 clear h hz hW0 hh
 unfold nmv
 by_cases h8:n≤8
 ·go_enter Tryz.func81,Tryz.ntmps81
  go_upto_region 1 with fail
  rw [← HW0.out]
  go_wp2
  go_loopw [3] (fun i wr=>∃ k:Nat,k≤n∧i=.int .i64 k∧Hid (∀ j,j<k→partP (xs.getD j default))∧Below W0.heap.size W0 wr) (fun i _=>n - (intOf i).toNat)
  case atStart=>exact ⟨0,Nat.zero_le _,rfl,(fun j hj=>absurd hj (Nat.not_lt_zero _)),Below.refl _ _⟩
  case round =>
   obtain ⟨k,hk,rfl,HA,hbr⟩:=hrel
   have d1:wr.cell? ⟨w.heap.size,0,none⟩=some (.slice a n c):=(hbr.cell (p:=⟨w.heap.size,0,none⟩) hlt0).trans d0
   by_cases hkn:k<n
   ·obtain ⟨b,off,rfl,hlb,hc,_⟩:=HK.out.get k hkn
    have hzz:=HZ.out k hkn
    obtain ⟨y,hy⟩:∃ y,y=xs.getD k default:=⟨_,rfl⟩
    rw [← hy] at hc hzz
    have HY:Hid (y=xs.getD k default):=hy
    obtain ⟨c0,c1⟩:=hc.of (w':=wr) (fun i=>hbr.cell (p:=⟨b,i,none⟩) hlb)
    have hkni:(k:Int)<(n:Int):=by omega
    obtain ⟨W1,hW1⟩:∃ W1,W1=wr.alloc (.cells #[.int .i64 y.attr,.string y.val] 132):=⟨_,rfl⟩
    have hb2:Below W0.heap.size W0 W1:=by rw [hW1]; exact hbr.alloc hbr.size _
    have hh:W1.heap[wr.heap.size]? = some (.cells #[.int .i64 y.attr,.string y.val] 132 (0,0)):=by rw [hW1]; exact heap_alloc_new wr _
    have hlt1:wr.heap.size<W1.heap.size:=(Array.getElem?_eq_some_iff.1 hh).1
    have g0:W1.cell? ⟨wr.heap.size,0,none⟩=some (.int .i64 y.attr):=qk hh rfl
    have g1:W1.cell? ⟨wr.heap.size,1,none⟩=some (.string y.val):=qk hh rfl
    have HW1:Hid (_=_):=hW1
    have BAD:Hid (¬ partP y→¬ nameP xs):=fun h h2=>h (by rw [HY.out]; exact h2.2 k (by rw [HL.out]; exact hkn))
    have GOOD:Hid (partP y→∀ j,j<k+1→partP (xs.getD j default)):=fun h j hj=>by
     by_cases e:j=k
     ·rw [e,← HY.out]; exact h
     ·exact HA.out j (by omega)
    clear hc hy hW1 hh HA
    go_upto_region 7 with fail
    rw [← HW1.out]
    clear HW1 c0 c1 d1
    go_wp2_with fail
    refine (l1In_any _ _ _ _).mono ?_
    rintro e w1 ⟨rfl,rfl⟩
    by_cases h1:1≤y.attr∧y.attr≤20
    ·rw [decide_eq_true h1]
     have H1:Hid (_∧_):=h1
     clear h1
     by_cases h2:y.val.size<1
     ·have HN:Hid (¬ nameP xs):=BAD.out (fun h=>h.2.2.2 (foldL_empty _ h2))
      have hi2:(y.val.size:Int)<1:=by omega
      clear BAD GOOD
      go_wp2
      go_ret
      exact says_f HN.out (hbl.trans (hb2.mono hbl.size))
     ·by_cases h3:y.val.size≤60
      ·have hi2:¬ ((y.val.size:Int)<1):=by omega
       have hi3:¬ (60<(y.val.size:Int)):=by omega
       obtain ⟨cp,W2,hcv,hrow,hb3⟩:=conv_str W1 y.val
       have hB3:Below W0.heap.size W0 W2:=hb2.trans (hb3.mono hb2.size)
       have g12:W2.cell? ⟨wr.heap.size,1,none⟩=some (.string y.val):=(hb3.cell (p:=⟨wr.heap.size,1,none⟩) hlt1).trans g1
       have HROW:Hid (_):=hrow
       clear hrow
       go_wp2_with fail
       refine (l3Text_any _ _ _ _ _ HROW.out (by omega)).mono ?_
       rintro e w2 ⟨bb,rfl,HV,rfl⟩
       have HV2:Hid (bb=true↔printP y.val y.val.size):=by
        show _↔_
        rw [HV.out]
        exact ⟨fun h j hj=>by have:=h j hj; rw [bytesOf_get _ _ hj] at this; exact this,fun h j hj=>by rw [bytesOf_get _ _ hj]; exact h j hj⟩
       clear HV hcv
       cases bb with
       | false =>
        have HN:Hid (¬ nameP xs):=BAD.out (fun h=>Bool.false_ne_true (HV2.out.2 h.2.2.1))
        clear BAD GOOD HV2
        go_wp2
        go_ret
        exact says_f HN.out (hbl.trans (hB3.mono hbl.size))
       | true =>
        have HP:Hid (printP y.val y.val.size):=HV2.out.1 rfl
        clear HV2
        go_wp2_with fail
        refine (specFold_any y.val _ hzz).mono ?_
        rintro e w3 ⟨rfl,hb4⟩
        have hB4:Below W0.heap.size W0 w3:=hB3.trans (hb4.mono hB3.size)
        by_cases h4:foldL y.val = []
        ·have HN:Hid (¬ nameP xs):=BAD.out (fun h=>h.2.2.2 h4)
         rw [h4,strOf_nil]
         clear h4 BAD GOOD
         go_wp2
         go_ret
         exact says_f HN.out (hbl.trans (hB4.mono hbl.size))
        ·have HN:Hid (_):=GOOD.out ⟨H1.out,h3,HP.out,h4⟩
         obtain ⟨t,ht⟩:∃ t,t=strOfNums (foldL y.val):=⟨_,rfl⟩
         rw [← ht]
         have z3:t.toList.isEmpty=false:=by
          rw [ht,ByteArray.toList_eq,strOfNums_data]
          cases hl:foldL y.val with
          | nil=>exact absurd hl h4
          | cons _ _=>rfl
         clear h4 ht BAD GOOD
         go_wp2
         go_roundw
         case rel=>exact ⟨k+1,by omega,by go_num,HN,hB4⟩
         case measure=>simp [intOf]; omega
      ·have HN:Hid (¬ nameP xs):=BAD.out (fun h=>h3 h.2.1)
       have hi2:¬ ((y.val.size:Int)<1):=by omega
       have hi3:60<(y.val.size:Int):=by omega
       clear BAD GOOD
       go_wp2
       go_ret
       exact says_f HN.out (hbl.trans (hb2.mono hbl.size))
    ·rw [decide_eq_false h1]
     have HN:Hid (¬ nameP xs):=BAD.out (fun h=>h1 h.1)
     clear h1 BAD GOOD
     go_wp2
     go_ret
     exact says_f HN.out (hbl.trans (hb2.mono hbl.size))
   ·obtain rfl:n=k:=by omega
    have HN:Hid (nameP xs):=⟨by rw [HL.out]; exact h8,fun j hj=>HA.out j (by rw [HL.out] at hj; exact hj)⟩
    clear HA
    go_wp2
    go_ret
    exact says_t HN.out (hbl.trans (hbr.mono hbl.size))
 ·have HN:Hid (¬ nameP xs):=fun h=>absurd h.1 (by rw [HL.out]; exact h8)
  go_enter Tryz.func81,Tryz.ntmps81
  go_upto_region 1 with fail
  rw [← HW0.out]
  go_wp2
  go_ret
  exact says_f HN.out hbl
end Go.Proofs.YtnmplldhdfingaaGreatDoor
