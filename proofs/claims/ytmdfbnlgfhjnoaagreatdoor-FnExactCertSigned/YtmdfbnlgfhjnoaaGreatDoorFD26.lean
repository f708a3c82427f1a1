import Derived.Deep.MidRow
import Derived.Test.YtmdfbnlgfhjnoaaGreatDoorFD24
import Derived.Test.YtmdfbnlgfhjnoaaGreatDoorFD25
set_option maxRecDepth 10000
set_option maxHeartbeats 8000000
set_option linter.unusedVariables false
namespace Go.Proofs.YtmdfbnlgfhjnoaaGreatDoor
open Go.RowKit
def BasesN (xs:List GE)(n:Nat):Prop:=∀ k,k<n→baseP (xs.getD k default).g (xs.getD k default).parts
def basesP (xs:List GE)(n:Nat):Prop:=n≤8∧BasesN xs n
theorem l9Bases_any (a:Option Addr)(n c:Nat)(xs:List GE)(w:World)(h:Ges w a n xs)(hz:∀ k,k<n→GeOk (xs.getD k default)) :
  Calls Tryz.prog 78 #[.slice a n c] w (SaysB (basesP xs n) w):=by
 have H0:Hid (Ges w a n xs):=h
 have HZ:Hid (∀ k,k<n→GeOk (xs.getD k default)):=hz
 have hn:=h.max
 clear h hz
 by_cases h8:n≤8
 ·have h8':¬ ((8:Int)<(n:Int)):=by omega
  go_enter Tryz.func78,Tryz.ntmps78
  go_wp2
  go_loopw [3] (fun i wr=>∃ k:Nat,k≤n∧i=.int .i64 k∧Hid (BasesN xs k)∧Below w.heap.size w wr) (fun i _=>n - (intOf i).toNat)
  case atStart=>exact ⟨0,Nat.zero_le _,rfl,fun k hk=>absurd hk (Nat.not_lt_zero _),Below.refl _ _⟩
  case round =>
   obtain ⟨k,hk,rfl,HE,hbr⟩:=hrel
   by_cases hkn:k<n
   ·obtain ⟨b,off,an,nn,cn,rfl,hlb,hc,hp,_⟩:=H0.out.get k hkn
    have hgp:=HZ.out k hkn
    obtain ⟨y,hy⟩:∃ y,y=xs.getD k default:=⟨_,rfl⟩
    rw [← hy] at hc hp hgp
    have HY:Hid (y=xs.getD k default):=hy
    obtain ⟨c0,c1,c2,c3,c4⟩:=hc.of (w':=wr) (fun i=>hbr.cell (p:=⟨b,i,none⟩) hlb)
    have HP:Hid (Pts wr an nn y.parts):=hp.kept hbr
    have HS:Hid (y.g.text.size≤1048576∧∀ k,k<nn→(y.parts.getD k default).val.size≤1048576):=⟨hgp.1,by rw [← hp.len]; exact hgp.2.2⟩
    have hkni:(k:Int)<(n:Int):=by omega
    clear hc hy hp hgp
    go_wp2_with fail
    refine (specBaseOk_any y.g an nn cn y.parts _ HP.out HS.out.2 HS.out.1).mono ?_
    rintro e w2 ⟨v,rfl,hv,hb2⟩
    have B2:Below w.heap.size w w2:=hbr.trans (hb2.mono hbr.size)
    have HV:Hid _:=hv
    clear hb2 hv
    cases v with
    | false =>
     have HN:Hid (¬ basesP xs n):=fun q=>by have:=q.2 k hkn; rw [← HY.out] at this; have:=HV.out.2 this; simp at this
     go_wp2
     go_ret
     exact saysB_f HN.out B2
    | true =>
     have HN:Hid (BasesN xs (k+1)):=fun j hj=>by
      by_cases e:j<k
      ·exact HE.out j e
      ·obtain rfl:j=k:=by omega
       rw [← HY.out]; exact HV.out.1 rfl
     go_wp2
     go_roundw
     case rel=>exact ⟨k+1,by omega,by go_num,HN,B2⟩
     case measure=>simp [intOf]; omega
   ·obtain rfl:k=n:=by omega
    go_wp2
    go_ret
    exact saysB_t ⟨h8,HE.out⟩ hbr
 ·have h8':(8:Int)<(n:Int):=by omega
  go_enter Tryz.func78,Tryz.ntmps78
  go_wp2
  go_ret
  exact saysB_f (fun q=>h8 q.1) (Below.refl _ _)
theorem everyBase_any (a:Option Addr)(n c:Nat)(xs:List GE)(w:World)(hm:MaxW w)(h:Ges w a n xs)(hz:∀ k,k<n→GeOk (xs.getD k default)) :
  Calls Tryz.prog 172 #[.slice a n c,.func (Fn.func 146) #[] #[]] w (SaysB (BasesN xs n) w):=by
 have H0:Hid (Ges w a n xs):=h
 have HM:Hid (MaxW w):=hm
 have HZ:Hid (∀ k,k<n→GeOk (xs.getD k default)):=hz
 have hn:=h.max
 clear h hz hm
 go_enter Tryz.func172,Tryz.ntmps172
 go_wp2
 go_loopw [9] (fun i wr=>∃ k:Nat,k≤n∧i=.int .i64 k∧Hid (BasesN xs k)∧Below w.heap.size w wr) (fun i _=>n - (intOf i).toNat)
 case atStart=>exact ⟨0,Nat.zero_le _,rfl,fun k hk=>absurd hk (Nat.not_lt_zero _),Below.refl _ _⟩
 case round =>
  obtain ⟨k,hk,rfl,HE,hbr⟩:=hrel
  have hws:=hbr.size
  by_cases hkn:k<n
  ·obtain ⟨b,off,an,nn,cn,rfl,hlb,hc,hp,_⟩:=H0.out.get k hkn
   have hgp:=HZ.out k hkn
   obtain ⟨y,hy⟩:∃ y,y=xs.getD k default:=⟨_,rfl⟩
   rw [← hy] at hc hp hgp
   have HY:Hid (y=xs.getD k default):=hy
   obtain ⟨c0,c1,c2,c3,c4⟩:=hc.of (w':=wr) (fun i=>hbr.cell (p:=⟨b,i,none⟩) hlb)
   have hbz:Below wr.heap.size wr (wr.alloc (.cells #[.int .i64 y.g.kind,.string y.g.text,.int .i64 y.g.addr,.int .i64 y.g.bits,.slice an nn cn] 127)):=(Below.refl _ _).alloc (Nat.le_refl _) _
   have B1:Hid (Below w.heap.size w (wr.alloc (.cells #[.int .i64 y.g.kind,.string y.g.text,.int .i64 y.g.addr,.int .i64 y.g.bits,.slice an nn cn] 127))):=hbr.trans (hbz.mono hws)
   have HP:Hid (Pts (wr.alloc (.cells #[.int .i64 y.g.kind,.string y.g.text,.int .i64 y.g.addr,.int .i64 y.g.bits,.slice an nn cn] 127)) an nn y.parts):=hp.kept B1.out
   have HS:Hid (y.g.text.size≤1048576∧∀ k,k<nn→(y.parts.getD k default).val.size≤1048576):=⟨hgp.1,by rw [← hp.len]; exact hgp.2.2⟩
   have hkni:(k:Int)<(n:Int):=by omega
   have hbw:b<wr.heap.size:=by omega
   clear hc hy hp hgp hbz
   go_wp2_with fail
   refine (implBaseOk_any y.g an nn cn y.parts _ (HM.out.kept B1.out) HP.out HS.out.2 HS.out.1).mono ?_
   rintro e w2 ⟨v,rfl,hv,hb2⟩
   have B2:Below w.heap.size w w2:=B1.out.trans (hb2.mono B1.out.size)
   have HV:Hid _:=hv
   clear hb2 hv
   cases v with
   | false =>
    have HN:Hid (¬ BasesN xs n):=fun q=>by have:=q k hkn; rw [← HY.out] at this; have:=HV.out.2 this; simp at this
    go_wp2
    go_ret
    exact saysB_f HN.out B2
   | true =>
    have HN:Hid (BasesN xs (k+1)):=fun j hj=>by
     by_cases e:j<k
     ·exact HE.out j e
     ·obtain rfl:j=k:=by omega
      rw [← HY.out]; exact HV.out.1 rfl
    go_wp2
    go_roundw
    case rel=>exact ⟨k+1,by omega,by go_num,HN,B2⟩
    case measure=>simp [intOf]; omega
  ·obtain rfl:k=n:=by omega
   go_wp2
   go_ret
   exact saysB_t HE.out hbr
theorem gensBase_any (a:Option Addr)(n c:Nat)(xs:List GE)(w:World)(hm:MaxW w)(h:Ges w a n xs)(hz:∀ k,k<n→GeOk (xs.getD k default)) :
  Calls Tryz.prog 128 #[.slice a n c,.func (Fn.func 146) #[] #[]] w (SaysB (basesP xs n) w):=by
 by_cases h8:n≤8
 ·have h8':(n:Int)≤8:=by omega
  go_enter Tryz.func128,Tryz.ntmps128
  go_wp2_with fail
  refine (everyBase_any a n c xs _ hm h hz).mono ?_
  rintro e w2 ⟨r,rfl,HR,hb2⟩
  go_wp2
  go_ret
  exact ⟨r,rfl,⟨fun e=>⟨h8,HR.out.1 e⟩,fun e=>HR.out.2 e.2⟩,hb2⟩
 ·have h8':(8:Int)<(n:Int):=by omega
  go_enter Tryz.func128,Tryz.ntmps128
  go_wp2
  go_ret
  exact saysB_f (fun e=>absurd e.1 h8) (Below.refl _ _)
theorem isTime_any (t:Int)(w:World):Calls Tryz.prog 140 #[.int .i64 t] w fun e w'=>e=.returned (.bool (decide (0≤t∧t≤253402300799)))∧w=w':=by
 go_enter Tryz.func140,Tryz.ntmps140
 go_wp2_with fail
 refine (inBounds_any t 0 253402300799 _).mono ?_
 rintro e w1 ⟨rfl,rfl⟩
 obtain ⟨v,hv⟩:∃ v,decide (0≤t∧t≤253402300799)=v:=⟨_,rfl⟩
 rw [hv]
 have HV:Hid (decide (0≤t∧t≤253402300799)=v):=hv
 clear hv
 go_wp2
 go_ret
 exact ⟨by rw [HV.out]; rfl,rfl⟩
theorem someName_any (a:Option Addr)(n c:Nat)(xs:List PT)(w:World)(h:Pts w a n xs)(hz:∀ k,k<n→(xs.getD k default).val.size≤1048576) :
  Calls Tryz.prog 95 #[nmv a n c] w (Says (calledP xs) w):=by
 have HL:Hid (xs.length=n):=h.len
 have hn:=h.max
 obtain ⟨w0,hw0⟩:∃ w0,w0=w.alloc (.cells #[.slice a n c] 40):=⟨_,rfl⟩
 have hb0:Below w.heap.size w w0:=by rw [hw0]; exact (Below.refl _ _).alloc (Nat.le_refl _) _
 have hh0:w0.heap[w.heap.size]? = some (.cells #[.slice a n c] 40):=by rw [hw0]; exact heap_alloc_new w _
 have hl0:w.heap.size<w0.heap.size:=(Array.getElem?_eq_some_iff.1 hh0).1
 have HK:Hid (Pts w0 a n xs):=h.kept hb0
 have HZ:Hid (_):=hz
 clear h hz
 unfold nmv
 go_enter Tryz.func95,Tryz.ntmps95
 go_wp2_with fail
 rw [← hw0]
 clear hw0
 refine (implNameOk_any a n c xs _ HK.out HZ.out).mono ?_
 rintro e w1 ⟨b,rfl,hb,hb1⟩
 have hc:w1.cell? ⟨w.heap.size,0,none⟩=some (.slice a n c):=(cell_of_row _ _ 0 _ 40 (0,0) ((hb1.block _ hl0).trans hh0)).trans rfl
 have HB:Hid (Below w.heap.size w w1):=hb0.trans (hb1.mono hb0.size)
 clear hb0 hb1 hh0
 rcases b with _ | _
 ·have HN:Hid (¬ calledP xs):=fun q=>by have:=hb.out.2 q.1; simp at this
  clear hb
  go_wp2
  go_ret
  exact says_f HN.out HB.out
 ·have HN:Hid (nameP xs):=hb.out.1 rfl
  clear hb
  by_cases h0:n=0
  ·subst h0
   have HE:Hid (¬ calledP xs):=fun q=>q.2 (List.eq_nil_of_length_eq_zero HL.out)
   go_wp2
   go_ret
   exact says_f HE.out HB.out
  ·have hp:(0:Int)<(n:Int):=by omega
   have HE:Hid (calledP xs):=⟨HN.out,fun e=>h0 (by rw [← HL.out,e]; rfl)⟩
   go_wp2
   go_ret
   exact ⟨decide (0<n),rfl,⟨fun _=>HE.out,fun _=>decide_eq_true (by omega)⟩,HB.out⟩
open Go.RowKit
theorem keeps_and {B:Nat}{W:World}{P Q:World→Prop}(h:Keeps B W P)(k:Keeps B W Q):Keeps B W (fun W=>P W∧Q W):=by
 obtain ⟨R1,s1,r1,q1⟩:=h
 obtain ⟨R2,s2,r2,q2⟩:=k
 exact ⟨fun W=>R1 W∧R2 W,stab_and s1 s2,⟨r1,r2⟩,fun W' r=>⟨q1 _ r.1,q2 _ r.2⟩⟩
theorem toName_k (a:Option Addr)(n c:Nat)(xs:List PT)(w:World)(h:Pts w a n xs)(hn:n≤1048576) :
  Calls Tryz.prog 38 #[.agg #[.slice a n c]] w fun e w'=>∃ a',e=.returned (.agg #[.slice a' n n])∧Keeps w.heap.size w' (fun W=>Pts W a' n xs)∧Below w.heap.size w w' :=
 (toName_at a n c xs w h hn).mono fun _ _ ⟨_,h1,hg,h2,h3⟩=>⟨_,h1,keeps_of (stab_pts hg) h2,h3⟩
theorem toGenNameS_k (a:Option Addr)(n cap:Nat)(xs:List GE)(w:World)(h:Ges w a n xs)(hn:n≤1048576)(hz:∀ k,k<n→GeOk (xs.getD k default)) :
  Calls Tryz.prog 39 #[.slice a n cap] w fun e w'=>∃ a',e=.returned (.slice a' n n)∧Keeps w.heap.size w' (fun W=>Ges W a' n xs)∧Below w.heap.size w w' :=
 (toGenNameS_at a n cap xs w h hn hz).mono fun _ _ ⟨h1,h2,h3,h4⟩=>⟨_,h1,(keeps_of (stab_and (stab_ge (Nat.le_refl _)) (stab_lt _ _)) ⟨h2,h3⟩).map (fun W q=>q.1.ges h.len h.max q.2 hz),h4⟩
theorem stab_pm {lo hi:Nat}{a:Option Addr}{n cap:Nat}{ps:List (Int × Int)}:Stab lo (fun W=>OwnPm lo hi W a n cap ps):=fun W W' e s h=>⟨stab_owns W W' e s h.row,h.max,h.lt⟩
theorem toPolMapS_k (a:Option Addr)(n c:Nat)(ps:List (Int × Int))(w:World)(h:Pms w a n ps)(hn:n≤1048576) :
  Calls Tryz.prog 41 #[.slice a n c] w fun e w'=>∃ a',e=.returned (.slice a' n n)∧Keeps w.heap.size w' (fun W=>Pms W a' n ps)∧Below w.heap.size w w' :=
 (toPolMapS_any a n c ps w h hn).mono fun _ _ ⟨_,h1,h2,h3⟩=>⟨_,h1,(keeps_of stab_pm h2).map (fun _ q=>q.toPms),h3⟩
theorem toByteS_k (a:Option Addr)(n cap:Nat)(bs:List Int)(w:World)(h:Row w a n bs)(hn:n≤1048576) :
  Calls Tryz.prog 43 #[.slice a n cap] w fun e w'=>∃ a',e=.returned (.slice a' n n)∧Keeps w.heap.size w' (fun W=>Row W a' n bs)∧Below w.heap.size w w' :=
 (toByteS_any a n cap bs w h hn).mono fun _ _ ⟨_,h1,h2,h3⟩=>⟨_,h1,(keeps_of (stab_own (Nat.le_refl _)) h2).map (fun _ q=>q.toRow),h3⟩
theorem eqByteS_one (a b:Option Addr)(n ca cb:Nat)(xs:List Int)(w:World)(hx:Row w a n xs)(hy:Row w b n xs)(hn:n≤1048576) :
  Calls Tryz.prog 12 #[.slice a n ca,.slice b n cb] w fun e w'=>e=.returned (.bool true)∧Below w.heap.size w w' :=
 (eqByteS_any a b n n ca cb xs xs w hx hy (by unfold maxLen; omega) (by unfold maxLen; omega)).mono fun _ _ ⟨h1,h2⟩=>⟨by rw [h1,decide_eq_true rfl],h2⟩
theorem nil_row {W:World}{a:Option Addr}{n:Nat}{bs:List Int}(h:Row W a n bs):a=none→n=0:=fun e=>by
 by_cases hn:0<n
 ·obtain ⟨b,off,ha,_⟩:=h.get 0 hn
  rw [e] at ha
  cases ha
 ·omega
end Go.Proofs.YtmdfbnlgfhjnoaaGreatDoor
