import Derived.Test.YtmdfbnlgfhjnoaaGreatDoorFD26
set_option maxRecDepth 10000
set_option maxHeartbeats 8000000
set_option linter.unusedVariables false
namespace Go.Proofs.YtmdfbnlgfhjnoaaGreatDoor
open Go.RowKit
def GensN (xs:List GE)(n:Nat):Prop:=∀ k,k<n→genP (xs.getD k default).g (xs.getD k default).parts
def gensP (xs:List GE)(n:Nat):Prop:=n≤8∧GensN xs n
theorem l9Gens_any (a:Option Addr)(n c:Nat)(xs:List GE)(w:World)(h:Ges w a n xs)(hz:∀ k,k<n→GeOk (xs.getD k default)) :
  Calls Tryz.prog 76 #[.slice a n c] w (SaysB (gensP xs n) w):=by
 have H0:Hid (Ges w a n xs):=h
 have HZ:Hid (∀ k,k<n→GeOk (xs.getD k default)):=hz
 have hn:=h.max
 clear h hz
 by_cases h8:n≤8
 ·have h8':¬ ((8:Int)<(n:Int)):=by omega
  go_enter Tryz.func76,Tryz.ntmps76
  go_wp2
  go_loopw [3] (fun i wr=>∃ k:Nat,k≤n∧i=.int .i64 k∧Hid (GensN xs k)∧Below w.heap.size w wr) (fun i _=>n - (intOf i).toNat)
  case atStart=>exact ⟨0,Nat.zero_le _,rfl,fun k hk=>absurd hk (Nat.not_lt_zero _),Below.refl _ _⟩
  case round =>
   obtain ⟨k,hk,rfl,HE,hbr⟩:=hrel
   by_cases hkn:k<n
   ·obtain ⟨b,off,an,nn,cn,rfl,hlb,hc,hp,_⟩:=H0.out.get k hkn
    have hgp:=HZ.out k hkn
    obtain ⟨y,hy⟩:∃ y,y=xs.getD k default:=⟨_,rfl⟩
    rw [← hy] at hc hp hgp
    have HY:Hid (y=xs.getD k default):=hy
    obtain ⟨c0,c1,c2,c3,c4⟩:=hc.of (w':=wr) (fun i=>hbr.cell (p:=⟨b,i,none⟩) hlb)
    have HP:Hid (Pts wr an nn y.parts):=hp.kept hbr
    have HS:Hid (y.g.text.size≤1048576∧∀ k,k<nn→(y.parts.getD k default).val.size≤1048576):=⟨hgp.1,by rw [← hp.len]; exact hgp.2.2⟩
    have hkni:(k:Int)<(n:Int):=by omega
    clear hc hy hp hgp
    go_wp2_with fail
    refine (specGenOk_any y.g an nn cn y.parts _ HP.out HS.out.2 HS.out.1).mono ?_
    rintro e w2 ⟨v,rfl,hv,hb2⟩
    have B2:Below w.heap.size w w2:=hbr.trans (hb2.mono hbr.size)
    have HV:Hid _:=hv
    clear hb2 hv
    cases v with
    | false =>
     have HN:Hid (¬ gensP xs n):=fun q=>by have:=q.2 k hkn; rw [← HY.out] at this; have:=HV.out.2 this; simp at this
     go_wp2
     go_ret
     exact saysB_f HN.out B2
    | true =>
     have HN:Hid (GensN xs (k+1)):=fun j hj=>by
      by_cases e:j<k
      ·exact HE.out j e
      ·obtain rfl:j=k:=by omega
       rw [← HY.out]; exact HV.out.1 rfl
     go_wp2
     go_roundw
     case rel=>exact ⟨k+1,by omega,by go_num,HN,B2⟩
     case measure=>simp [intOf]; omega
   ·obtain rfl:k=n:=by omega
    go_wp2
    go_ret
    exact saysB_t ⟨h8,HE.out⟩ hbr
 ·have h8':(8:Int)<(n:Int):=by omega
  go_enter Tryz.func76,Tryz.ntmps76
  go_wp2
  go_ret
  exact saysB_f (fun q=>h8 q.1) (Below.refl _ _)
theorem everyGen_any (a:Option Addr)(n c:Nat)(xs:List GE)(w:World)(hm:MaxW w)(h:Ges w a n xs)(hz:∀ k,k<n→GeOk (xs.getD k default)) :
  Calls Tryz.prog 172 #[.slice a n c,.func (Fn.func 129) #[] #[]] w (SaysB (GensN xs n) w):=by
 have H0:Hid (Ges w a n xs):=h
 have HM:Hid (MaxW w):=hm
 have HZ:Hid (∀ k,k<n→GeOk (xs.getD k default)):=hz
 have hn:=h.max
 clear h hz hm
 go_enter Tryz.func172,Tryz.ntmps172
 go_wp2
 go_loopw [9] (fun i wr=>∃ k:Nat,k≤n∧i=.int .i64 k∧Hid (GensN xs k)∧Below w.heap.size w wr) (fun i _=>n - (intOf i).toNat)
 case atStart=>exact ⟨0,Nat.zero_le _,rfl,fun k hk=>absurd hk (Nat.not_lt_zero _),Below.refl _ _⟩
 case round =>
  obtain ⟨k,hk,rfl,HE,hbr⟩:=hrel
  have hws:=hbr.size
  by_cases hkn:k<n
  ·obtain ⟨b,off,an,nn,cn,rfl,hlb,hc,hp,_⟩:=H0.out.get k hkn
   have hgp:=HZ.out k hkn
   obtain ⟨y,hy⟩:∃ y,y=xs.getD k default:=⟨_,rfl⟩
   rw [← hy] at hc hp hgp
   have HY:Hid (y=xs.getD k default):=hy
   obtain ⟨c0,c1,c2,c3,c4⟩:=hc.of (w':=wr) (fun i=>hbr.cell (p:=⟨b,i,none⟩) hlb)
   have hbz:Below wr.heap.size wr (wr.alloc (.cells #[.int .i64 y.g.kind,.string y.g.text,.int .i64 y.g.addr,.int .i64 y.g.bits,.slice an nn cn] 127)):=(Below.refl _ _).alloc (Nat.le_refl _) _
   have B1:Hid (Below w.heap.size w (wr.alloc (.cells #[.int .i64 y.g.kind,.string y.g.text,.int .i64 y.g.addr,.int .i64 y.g.bits,.slice an nn cn] 127))):=hbr.trans (hbz.mono hws)
   have HP:Hid (Pts (wr.alloc (.cells #[.int .i64 y.g.kind,.string y.g.text,.int .i64 y.g.addr,.int .i64 y.g.bits,.slice an nn cn] 127)) an nn y.parts):=hp.kept B1.out
   have HS:Hid (y.g.text.size≤1048576∧∀ k,k<nn→(y.parts.getD k default).val.size≤1048576):=⟨hgp.1,by rw [← hp.len]; exact hgp.2.2⟩
   have hkni:(k:Int)<(n:Int):=by omega
   have hbw:b<wr.heap.size:=by omega
   clear hc hy hp hgp hbz
   go_wp2_with fail
   refine (implGenOk_any y.g an nn cn y.parts _ (HM.out.kept B1.out) HP.out HS.out.2 HS.out.1).mono ?_
   rintro e w2 ⟨v,rfl,hv,hb2⟩
   have B2:Below w.heap.size w w2:=B1.out.trans (hb2.mono B1.out.size)
   have HV:Hid _:=hv
   clear hb2 hv
   cases v with
   | false =>
    have HN:Hid (¬ GensN xs n):=fun q=>by have:=q k hkn; rw [← HY.out] at this; have:=HV.out.2 this; simp at this
    go_wp2
    go_ret
    exact saysB_f HN.out B2
   | true =>
    have HN:Hid (GensN xs (k+1)):=fun j hj=>by
     by_cases e:j<k
     ·exact HE.out j e
     ·obtain rfl:j=k:=by omega
      rw [← HY.out]; exact HV.out.1 rfl
    go_wp2
    go_roundw
    case rel=>exact ⟨k+1,by omega,by go_num,HN,B2⟩
    case measure=>simp [intOf]; omega
  ·obtain rfl:k=n:=by omega
   go_wp2
   go_ret
   exact saysB_t HE.out hbr
theorem gensGen_any (a:Option Addr)(n c:Nat)(xs:List GE)(w:World)(hm:MaxW w)(h:Ges w a n xs)(hz:∀ k,k<n→GeOk (xs.getD k default)) :
  Calls Tryz.prog 128 #[.slice a n c,.func (Fn.func 129) #[] #[]] w (SaysB (gensP xs n) w):=by
 by_cases h8:n≤8
 ·have h8':(n:Int)≤8:=by omega
  go_enter Tryz.func128,Tryz.ntmps128
  go_wp2_with fail
  refine (everyGen_any a n c xs _ hm h hz).mono ?_
  rintro e w2 ⟨r,rfl,HR,hb2⟩
  go_wp2
  go_ret
  exact ⟨r,rfl,⟨fun e=>⟨h8,HR.out.1 e⟩,fun e=>HR.out.2 e.2⟩,hb2⟩
 ·have h8':(8:Int)<(n:Int):=by omega
  go_enter Tryz.func128,Tryz.ntmps128
  go_wp2
  go_ret
  exact saysB_f (fun e=>absurd e.1 h8) (Below.refl _ _)
end Go.Proofs.YtmdfbnlgfhjnoaaGreatDoor
