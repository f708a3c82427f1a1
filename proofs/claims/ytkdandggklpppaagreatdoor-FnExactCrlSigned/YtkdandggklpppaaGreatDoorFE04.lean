import Derived.Handy
import Derived.Deep.RegionWith
import Derived.Test.YtkdandggklpppaaGreatDoorFE03
import Derived.Test.YtkdandggklpppaaGreatDoorFE02
set_option maxRecDepth 10000
set_option maxHeartbeats 8000000
set_option linter.unusedVariables false
namespace Go.Proofs.YtkdandggklpppaaGreatDoor
open Go.RowKit
structure PT where
 attr:Int
 val:ByteArray
instance:Inhabited PT:=⟨⟨0,ByteArray.empty⟩⟩
def ptv (x:PT):Value:=.agg #[.int .i64 x.attr,.string x.val]
def nmv (a:Option Addr)(n c:Nat):Value:=.agg #[.slice a n c]
structure Cells2 (w:World)(b o:Nat)(x:PT):Prop where
 c0:w.cell? ⟨b,o,none⟩=some (.int .i64 x.attr)
 c1:w.cell? ⟨b,o+1,none⟩=some (.string x.val)
theorem Cells2.of {w w':World}{b o:Nat}{x:PT}(h:Cells2 w b o x)(hc:∀ i,w'.cell? ⟨b,i,none⟩=w.cell? ⟨b,i,none⟩):Cells2 w' b o x :=
 ⟨(hc _).trans h.c0,(hc _).trans h.c1⟩
structure Pts (w:World)(a:Option Addr)(n:Nat)(xs:List PT):Prop where
 len:xs.length=n
 max:n≤9223372036854775807
 get:∀ k,k<n→∃ b off,a=some ⟨b,off,none⟩∧b<w.heap.size∧Cells2 w b (off+k * 2) (xs.getD k default)∧(xs.getD k default).val.size≤9223372036854775807
theorem Pts.kept {w w':World}{a:Option Addr}{n:Nat}{xs:List PT}(h:Pts w a n xs)(hb:Below w.heap.size w w'):Pts w' a n xs:=by
 refine ⟨h.len,h.max,fun k hk=>?_⟩
 obtain ⟨b,off,ha,hlt,hc,hn⟩:=h.get k hk
 exact ⟨b,off,ha,Nat.lt_of_lt_of_le hlt hb.size,hc.of (fun i=>hb.cell (p:=⟨b,i,none⟩) hlt),hn⟩
theorem szPart_any (x:PT)(left:Int)(w:World)(hn:x.val.size≤9223372036854775807)(h0:0≤left)(h1:left≤1048576) :
  Calls Tryz.prog 60 #[ptv x,.int .i64 left] w fun e w'=>∃ r,e=.returned (.int .i64 r)∧(r<0∨(0≤r∧r≤1048576∧x.val.size≤1048576))∧Below w.heap.size w w':=by
 unfold ptv
 have hbl:Below w.heap.size w (w.alloc (.cells #[.int .i64 x.attr,.string x.val] 102)):=(Below.refl _ _).alloc (Nat.le_refl _) _
 by_cases hlt:(x.val.size:Int)≤left
 ·go_enter Tryz.func60,Tryz.ntmps60
  go_wp2
  go_ret
  exact ⟨_,rfl,.inr (by omega),hbl⟩
 ·go_enter Tryz.func60,Tryz.ntmps60
  go_wp2
  go_ret
  exact ⟨_,rfl,.inl (by decide),hbl⟩
theorem szPartS_any (a:Option Addr)(n cap:Nat)(xs:List PT)(lf:Int)(w:World)(h:Pts w a n xs)(hl0:0≤lf)(hl1:lf≤1048576) :
  Calls Tryz.prog 25 #[.slice a n cap,.int .i64 lf] w fun e w'=>∃ r,e=.returned (.int .i64 r)∧(r<0∨(0≤r∧r≤1048576∧n≤1048576∧∀ k,k<n→(xs.getD k default).val.size≤1048576))∧Below w.heap.size w w':=by
 have H0:Hid (Pts w a n xs):=h
 have hn:=h.max
 clear h
 by_cases hlt:(n:Int)≤lf
 ·go_enter Tryz.func25,Tryz.ntmps25
  go_wp2
  go_loopw [1,5] (fun l i wr=>∃ (k:Nat) (left:Int),k≤n∧i=.int .i64 k∧l=.int .i64 left∧0≤left∧left≤1048576∧(∀ j,j<k→(xs.getD j default).val.size≤1048576)∧Below w.heap.size w wr) (fun _ i _=>n - (intOf i).toNat)
  case atStart=>exact ⟨0,lf - n,Nat.zero_le _,rfl,rfl,by omega,by omega,fun j hj=>absurd hj (Nat.not_lt_zero _),Below.refl _ _⟩
  case round =>
   obtain ⟨k,left,hk,rfl,rfl,h0,h1,hall,hbr⟩:=hrel
   by_cases hkn:k<n
   ·obtain ⟨b,off,rfl,hlb,hc,hnk⟩:=H0.out.get k hkn
    obtain ⟨y,hy⟩:∃ y,y=xs.getD k default:=⟨_,rfl⟩
    rw [← hy] at hc hnk
    have HY:Hid (y=xs.getD k default):=hy
    obtain ⟨c0,c1⟩:=hc.of (w':=wr) (fun i=>hbr.cell (p:=⟨b,i,none⟩) hlb)
    have hkni:(k:Int)<(n:Int):=by omega
    have HA:Hid (_):=hall
    clear hc hy hall
    go_wp2_with fail
    refine (szPart_any y left _ hnk h0 h1).mono ?_
    rintro e w2 ⟨r,rfl,hr,hb2⟩
    have hb2':Below w.heap.size w w2:=hbr.trans (hb2.mono hbr.size)
    by_cases hneg:r<0
    ·go_wp2
     go_ret
     exact ⟨_,rfl,.inl (by decide),hb2'⟩
    ·have hr1:0≤r:=by omega
     have hr2:r≤1048576:=by omega
     have hr3:y.val.size≤1048576:=by omega
     clear hr
     go_wp2
     go_roundw
     case rel =>
      refine ⟨k+1,r,by omega,by go_num,rfl,hr1,hr2,fun j hj=>?_,hb2'⟩
      by_cases hjk:j=k
      ·subst hjk; rw [← HY.out]; exact hr3
      ·exact HA.out j (by omega)
     case measure=>simp [intOf]; omega
   ·obtain rfl:n=k:=by omega
    have HA:Hid (_):=hall
    clear hall
    go_wp2
    go_ret
    exact ⟨_,rfl,.inr ⟨h0,h1,by omega,HA.out⟩,hbr⟩
 ·go_enter Tryz.func25,Tryz.ntmps25
  go_wp2
  go_ret
  exact ⟨_,rfl,.inl (by decide),Below.refl _ _⟩
theorem szName_any (a:Option Addr)(n c:Nat)(xs:List PT)(lf:Int)(w:World)(h:Pts w a n xs)(hl0:0≤lf)(hl1:lf≤1048576) :
  Calls Tryz.prog 10 #[nmv a n c,.int .i64 lf] w fun e w'=>∃ r,e=.returned (.int .i64 r)∧(r<0∨(0≤r∧r≤1048576∧n≤1048576∧∀ k,k<n→(xs.getD k default).val.size≤1048576))∧Below w.heap.size w w':=by
 unfold nmv
 have H0:Hid (Pts w a n xs):=h
 clear h
 have hbl:Below w.heap.size w (w.alloc (.cells #[.slice a n c] 24)):=(Below.refl _ _).alloc (Nat.le_refl _) _
 go_enter Tryz.func10,Tryz.ntmps10
 go_wp2_with fail
 refine (szPartS_any a n c xs lf _ (H0.out.kept hbl) hl0 hl1).mono ?_
 rintro e w1 ⟨r,rfl,hr,hb1⟩
 have hb1':Below w.heap.size w w1:=hbl.trans (hb1.mono hbl.size)
 have HR:Hid (_):=hr
 by_cases hneg:r<0
 ·clear hr
  go_wp2
  go_ret
  exact ⟨_,rfl,.inl (by decide),hb1'⟩
 ·have hr':0≤r∧r≤1048576:=by omega
  clear hr
  go_wp2
  go_ret
  exact ⟨_,rfl,HR.out,hb1'⟩
theorem eqPart_same (x:PT)(w:World) :
  Calls Tryz.prog 90 #[ptv x,ptv x] w fun e w'=>e=.returned (.bool true)∧Below w.heap.size w w':=by
 have hB:Below w.heap.size w ((w.alloc (.cells #[.int .i64 x.attr,.string x.val] 110)).alloc (.cells #[.int .i64 x.attr,.string x.val] 110)):=((Below.refl _ _).alloc (Nat.le_refl _) _).alloc (by simp) _
 have t1:(x.attr != x.attr)=false:=by simp
 unfold ptv
 go_enter Tryz.func90,Tryz.ntmps90
 go_wp2
 go_ret
 exact ⟨rfl,hB⟩
theorem eqPartS_same (a b:Option Addr)(n ca cb:Nat)(xs:List PT)(w:World)(h:Pts w a n xs)(h2:Pts w b n xs) :
  Calls Tryz.prog 58 #[.slice a n ca,.slice b n cb] w fun e w'=>e=.returned (.bool true)∧Below w.heap.size w w':=by
 have HK:Hid (Pts w a n xs):=h
 have HK2:Hid (Pts w b n xs):=h2
 have hn:=h.max
 clear h h2
 go_enter Tryz.func58,Tryz.ntmps58
 go_wp2
 go_loopw [5] (fun i wr=>∃ k:Nat,k≤n∧i=.int .i64 k∧Below w.heap.size w wr) (fun i _=>n - (intOf i).toNat)
 case atStart=>exact ⟨0,Nat.zero_le _,rfl,Below.refl _ _⟩
 case round =>
  obtain ⟨k,hk,rfl,hbr⟩:=hrel
  by_cases hkn:k<n
  ·obtain ⟨b1,off1,rfl,hl1,hc1,hm1⟩:=HK.out.get k hkn
   obtain ⟨b2,off2,rfl,hl2,hc2,hm2⟩:=HK2.out.get k hkn
   obtain ⟨y,hy⟩:∃ y,y=xs.getD k default:=⟨_,rfl⟩
   rw [← hy] at hc1 hc2
   clear hy
   obtain ⟨c0,c1⟩:=hc1.of (w':=wr) (fun i=>hbr.cell (p:=⟨b1,i,none⟩) hl1)
   obtain ⟨d0,d1⟩:=hc2.of (w':=wr) (fun i=>hbr.cell (p:=⟨b2,i,none⟩) hl2)
   have hkni:(k:Int)<(n:Int):=by omega
   have hs:=hbr.size
   clear hc1 hc2
   go_wp2_with fail
   go_region_with (go_at_call 90; refine (eqPart_same y _).mono ?_; rintro e w2 ⟨rfl,hb2⟩)
   all_goals
    have b5:Below w.heap.size w w2:=hbr.drew.trans (hb2.mono hs)
    go_wp2
    go_roundw
    case rel=>exact ⟨k+1,by omega,by go_num,b5⟩
    case measure=>simp [intOf]; omega
  ·go_wp2
   go_ret
   exact ⟨rfl,hbr⟩
theorem eqName_same (a b:Option Addr)(n ca cb:Nat)(xs:List PT)(w:World)(h:Pts w a n xs)(h2:Pts w b n xs) :
  Calls Tryz.prog 22 #[nmv a n ca,nmv b n cb] w fun e w'=>e=.returned (.bool true)∧Below w.heap.size w w':=by
 unfold nmv
 have H1:Hid (Pts w a n xs):=h
 have H2:Hid (Pts w b n xs):=h2
 clear h h2
 have hB:Below w.heap.size w ((w.alloc (.cells #[.slice a n ca] 36)).alloc (.cells #[.slice b n cb] 36)):=((Below.refl _ _).alloc (Nat.le_refl _) _).alloc (by simp) _
 go_enter Tryz.func22,Tryz.ntmps22
 go_wp2_with fail
 refine (eqPartS_same a b n ca cb xs _ (H1.out.kept hB) (H2.out.kept hB)).mono ?_
 rintro e w1 ⟨rfl,hb1⟩
 go_wp2
 go_ret
 exact ⟨rfl,hB.trans (hb1.mono hB.size)⟩
end Go.Proofs.YtkdandggklpppaaGreatDoor
