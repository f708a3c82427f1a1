import Derived.Test.YtmdfbnlgfhjnoaaGreatDoorFC05
set_option maxRecDepth 10000
set_option maxHeartbeats 8000000
set_option linter.unusedVariables false
namespace Go.Proofs.YtmdfbnlgfhjnoaaGreatDoor
open Go.RowKit
structure GE where
 g:GT
 parts:List PT
instance:Inhabited GE:=⟨⟨⟨0,⟨#[]⟩,0,0⟩,[]⟩⟩
structure Cells5 (w:World)(b o:Nat)(an:Option Addr)(nn cn:Nat)(x:GE):Prop where
 c0:w.cell? ⟨b,o,none⟩=some (.int .i64 x.g.kind)
 c1:w.cell? ⟨b,o+1,none⟩=some (.string x.g.text)
 c2:w.cell? ⟨b,o+2,none⟩=some (.int .i64 x.g.addr)
 c3:w.cell? ⟨b,o+3,none⟩=some (.int .i64 x.g.bits)
 c4:w.cell? ⟨b,o+4,none⟩=some (.slice an nn cn)
theorem Cells5.of {w w':World}{b o:Nat}{a:Option Addr}{n c:Nat}{x:GE}(h:Cells5 w b o a n c x)(hc:∀ i,w'.cell? ⟨b,i,none⟩=w.cell? ⟨b,i,none⟩):Cells5 w' b o a n c x :=
 ⟨(hc _).trans h.c0,(hc _).trans h.c1,(hc _).trans h.c2,(hc _).trans h.c3,(hc _).trans h.c4⟩
structure Ges (w:World)(a:Option Addr)(n:Nat)(xs:List GE):Prop where
 len:xs.length=n
 max:n≤9223372036854775807
 get:∀ k,k<n→∃ b off an nn cn,a=some ⟨b,off,none⟩∧b<w.heap.size∧Cells5 w b (off+k * 5) an nn cn (xs.getD k default)∧Pts w an nn (xs.getD k default).parts∧(xs.getD k default).g.text.size≤9223372036854775807
theorem Ges.kept {w w':World}{a:Option Addr}{n:Nat}{xs:List GE}(h:Ges w a n xs)(hb:Below w.heap.size w w'):Ges w' a n xs:=by
 refine ⟨h.len,h.max,fun k hk=>?_⟩
 obtain ⟨b,off,an,nn,cn,ha,hlt,hc,hp,hs⟩:=h.get k hk
 exact ⟨b,off,an,nn,cn,ha,Nat.lt_of_lt_of_le hlt hb.size,hc.of (fun i=>hb.cell (p:=⟨b,i,none⟩) hlt),hp.kept hb,hs⟩
def GeOk (x:GE):Prop:=x.g.text.size≤1048576∧x.parts.length≤1048576∧∀ k,k<x.parts.length→(x.parts.getD k default).val.size≤1048576
theorem szGenNameS_any (a:Option Addr)(n cap:Nat)(xs:List GE)(lf:Int)(w:World)(h:Ges w a n xs)(hl0:0≤lf)(hl1:lf≤1048576) :
  Calls Tryz.prog 30 #[.slice a n cap,.int .i64 lf] w fun e w'=>∃ r,e=.returned (.int .i64 r)∧(r<0∨(0≤r∧r≤1048576∧n≤1048576∧∀ k,k<n→GeOk (xs.getD k default)))∧Below w.heap.size w w':=by
 have H0:Hid (Ges w a n xs):=h
 have hn:=h.max
 clear h
 by_cases hlt:(n:Int)≤lf
 ·go_enter Tryz.func30,Tryz.ntmps30
  go_wp2
  go_loopw [1,5] (fun l i wr=>∃ (k:Nat) (left:Int),k≤n∧i=.int .i64 k∧l=.int .i64 left∧0≤left∧left≤1048576∧Hid (∀ j,j<k→GeOk (xs.getD j default))∧Below w.heap.size w wr) (fun _ i _=>n - (intOf i).toNat)
  case atStart=>exact ⟨0,lf - n,Nat.zero_le _,rfl,rfl,by omega,by omega,fun j hj=>absurd hj (Nat.not_lt_zero _),Below.refl _ _⟩
  case round =>
   obtain ⟨k,left,hk,rfl,rfl,h0,h1,HA,hbr⟩:=hrel
   by_cases hkn:k<n
   ·obtain ⟨b,off,an,nn,cn,rfl,hlb,hc,hp,hs⟩:=H0.out.get k hkn
    obtain ⟨y,hy⟩:∃ y,y=xs.getD k default:=⟨_,rfl⟩
    rw [← hy] at hc hp hs
    have HY:Hid (y=xs.getD k default):=hy
    obtain ⟨c0,c1,c2,c3,c4⟩:=hc.of (w':=wr) (fun i=>hbr.cell (p:=⟨b,i,none⟩) hlb)
    have HP:Hid (Pts wr an nn y.parts):=hp.kept hbr
    have HN:Hid (y.parts.length=nn):=hp.len
    have hkni:(k:Int)<(n:Int):=by omega
    clear hc hy hp
    go_wp2_with fail
    refine (szGenName_any y.g an nn cn y.parts left _ HP.out hs h0 h1).mono ?_
    rintro e w2 ⟨r,rfl,hr,hb2⟩
    have hb2':Below w.heap.size w w2:=hbr.trans (hb2.mono hbr.size)
    by_cases hneg:r<0
    ·clear hr
     go_wp2
     go_ret
     exact ⟨_,rfl,.inl (by decide),hb2'⟩
    ·have hr1:0≤r:=by omega
     have hr2:r≤1048576:=by omega
     have HR:Hid (GeOk y):=by
      rcases hr with h | ⟨_,_,h3,h4,h5⟩
      ·exact absurd h hneg
      ·exact ⟨h3,by rw [HN.out]; exact h4,fun k hk=>h5 k (by rw [← HN.out]; exact hk)⟩
     clear hr
     go_wp2
     go_roundw
     case rel =>
      refine ⟨k+1,r,by omega,by go_num,rfl,hr1,hr2,fun j hj=>?_,hb2'⟩
      by_cases hjk:j=k
      ·subst hjk; rw [← HY.out]; exact HR.out
      ·exact HA.out j (by omega)
     case measure=>simp [intOf]; omega
   ·obtain rfl:n=k:=by omega
    go_wp2
    go_ret
    exact ⟨_,rfl,.inr ⟨h0,h1,by omega,HA.out⟩,hbr⟩
 ·go_enter Tryz.func30,Tryz.ntmps30
  go_wp2
  go_ret
  exact ⟨_,rfl,.inl (by decide),Below.refl _ _⟩
theorem eqGenNameS_same (a b:Option Addr)(n ca cb:Nat)(xs:List GE)(w:World)(h:Ges w a n xs)(h2:Ges w b n xs) :
  Calls Tryz.prog 49 #[.slice a n ca,.slice b n cb] w fun e w'=>e=.returned (.bool true)∧Below w.heap.size w w':=by
 have HK:Hid (Ges w a n xs):=h
 have HK2:Hid (Ges w b n xs):=h2
 have hn:=h.max
 clear h h2
 go_enter Tryz.func49,Tryz.ntmps49
 go_wp2
 go_loopw [5] (fun i wr=>∃ k:Nat,k≤n∧i=.int .i64 k∧Below w.heap.size w wr) (fun i _=>n - (intOf i).toNat)
 case atStart=>exact ⟨0,Nat.zero_le _,rfl,Below.refl _ _⟩
 case round =>
  obtain ⟨k,hk,rfl,hbr⟩:=hrel
  by_cases hkn:k<n
  ·obtain ⟨b1,off1,an,nn,cn,rfl,hl1,hc1,hp1,_⟩:=HK.out.get k hkn
   obtain ⟨b2,off2,am,mm,cm,rfl,hl2,hc2,hp2,_⟩:=HK2.out.get k hkn
   obtain ⟨y,hy⟩:∃ y,y=xs.getD k default:=⟨_,rfl⟩
   rw [← hy] at hc1 hc2 hp1 hp2
   clear hy
   obtain rfl:mm=nn:=by rw [← hp2.len,← hp1.len]
   obtain ⟨c0,c1,c2,c3,c4⟩:=hc1.of (w':=wr) (fun i=>hbr.cell (p:=⟨b1,i,none⟩) hl1)
   obtain ⟨d0,d1,d2,d3,d4⟩:=hc2.of (w':=wr) (fun i=>hbr.cell (p:=⟨b2,i,none⟩) hl2)
   have HP1:Hid (Pts wr.drew an mm y.parts):=hp1.kept hbr.drew
   have HP2:Hid (Pts wr.drew am mm y.parts):=hp2.kept hbr.drew
   have hkni:(k:Int)<(n:Int):=by omega
   have hs:=hbr.size
   clear hc1 hc2 hp1 hp2
   go_wp2_with fail
   go_region_with (go_at_call 113; refine (eqGenName_same y.g an am mm cn cm y.parts _ HP1.out HP2.out).mono ?_; rintro e w2 ⟨rfl,hb2⟩)
   all_goals
    have b5:Below w.heap.size w w2:=hbr.drew.trans (hb2.mono hs)
    go_wp2
    go_roundw
    case rel=>exact ⟨k+1,by omega,by go_num,b5⟩
    case measure=>simp [intOf]; omega
  ·go_wp2
   go_ret
   exact ⟨rfl,hbr⟩
end Go.Proofs.YtmdfbnlgfhjnoaaGreatDoor
