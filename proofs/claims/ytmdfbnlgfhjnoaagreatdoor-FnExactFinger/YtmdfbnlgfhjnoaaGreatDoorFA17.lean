import Derived.BigQuiet
import Derived.Deep.QuietTactic
import Derived.Test.YtmdfbnlgfhjnoaaGreatDoorFA15
import Derived.Handy
import Derived.Deep.DeepCutAuto
import Derived.Test.YtmdfbnlgfhjnoaaGreatDoorFA16
set_option maxRecDepth 10000
set_option maxHeartbeats 8000000
set_option linter.unusedVariables false
namespace Go.Proofs.YtmdfbnlgfhjnoaaGreatDoor
open Go.RowKit
def localP (s:ByteArray):Prop:=(1≤s.size∧s.size≤20)∧allB wordB s s.size
def mailP (s:ByteArray):Prop:=∃ a b,cutAt s 64 = [a,b]∧localP a∧hostP b false
theorem pcs_none (s:ByteArray)(c:Int):∀ (k f i:Nat),i+k=s.size→(∀ j,i≤j→j<s.size→cAt s j≠c)→pcs s c k f i = [s.extract f s.size]
 | 0,f,i,hi,_=>by
  have e:i=s.size:=by omega
  rw [e]; rfl
 | k+1,f,i,hi,h=>by
  rw [pcs,if_neg (h i (Nat.le_refl _) (by omega))]
  exact pcs_none s c k f (i+1) (by omega) (fun j h1 h2=>h j (by omega) h2)
theorem pcs_skip (s:ByteArray)(c:Int)(t:Nat)(ht:t<s.size)(hc:cAt s t=c):∀ (k f i:Nat),i+k=s.size→i≤t→(∀ j,i≤j→j<t→cAt s j≠c) →
  pcs s c k f i=s.extract f t::pcs s c (s.size - (t+1)) (t+1) (t+1)
 | 0,f,i,hi,hit,_=>by omega
 | k+1,f,i,hi,hit,h=>by
  by_cases e:i=t
  ·subst e
   rw [pcs,if_pos hc,show s.size - (i+1)=k by omega]
  ·rw [pcs,if_neg (h i (Nat.le_refl _) (by omega))]
   exact pcs_skip s c t ht hc k f (i+1) (by omega) (by omega) (fun j h1 h2=>h j (by omega) h2)
theorem cut_none {s:ByteArray}{c:Int}(h:∀ j,j<s.size→cAt s j≠c):cutAt s c = [s]:=by
 unfold cutAt
 rw [pcs_none s c s.size 0 0 (by omega) (fun j _ hj=>h j hj),ext_whole]
theorem cut_hit {s:ByteArray}{c:Int}{t:Nat}(ht:t<s.size)(hc:cAt s t=c)(h:∀ j,j<t→cAt s j≠c):cutAt s c=s.extract 0 t::pcs s c (s.size - (t+1)) (t+1) (t+1) :=
 pcs_skip s c t ht hc s.size 0 0 (by omega) (Nat.zero_le _) (fun j _ hj=>h j hj)
theorem pcs_cover (s:ByteArray)(c:Int):∀ (k f i:Nat),i+k=s.size→f≤i→∀ j,f≤j→j<s.size→cAt s j=c∨∃ p∈pcs s c k f i,∃ t,t<p.size∧cAt p t=cAt s j
 | 0,f,i,hi,hf,j,hj,hjs=>by
  refine .inr ⟨s.extract f i,by simp [pcs],j - f,?_,?_⟩
  ·rw [ext_sz s f i (by omega)]; omega
  ·rw [ext_cAt s f i (j - f) (by omega),show f+(j - f)=j by omega]
 | k+1,f,i,hi,hf,j,hj,hjs=>by
  unfold pcs
  by_cases hc:cAt s i=c
  ·rw [if_pos hc]
   by_cases h1:j<i
   ·refine .inr ⟨s.extract f i,List.mem_cons_self,j - f,?_,?_⟩
    ·rw [ext_sz s f i (by omega)]; omega
    ·rw [ext_cAt s f i (j - f) (by omega),show f+(j - f)=j by omega]
   ·by_cases h2:j=i
    ·rw [h2]; exact .inl hc
    ·rcases pcs_cover s c k (i+1) (i+1) (by omega) (Nat.le_refl _) j (by omega) hjs with h | ⟨p,hp,q⟩
     ·exact .inl h
     ·exact .inr ⟨p,List.mem_cons_of_mem _ hp,q⟩
  ·rw [if_neg hc]
   exact pcs_cover s c k f (i+1) (by omega) (by omega) j hj hjs
theorem hostP_bytes {s:ByteArray}{wild:Bool}(h:hostP s wild)(j:Nat)(hj:j<s.size):cAt s j=46∨cAt s j=42∨labB (cAt s j):=by
 rcases pcs_cover s 46 s.size 0 0 (by omega) (Nat.le_refl _) j (Nat.zero_le _) hj with h1 | ⟨p,hp,t,ht,e⟩
 ·exact .inl h1
 ·right
  obtain ⟨k,hk,hkp⟩:=List.getElem_of_mem hp
  have hg:(cutAt s 46).getD k ByteArray.empty=p:=by
   rw [List.getD_eq_getElem?_getD,show (cutAt s 46)[k]? = some p from List.getElem?_eq_some_iff.2 ⟨hk,hkp⟩]
   rfl
  rcases h.2.2 k hk with ⟨h0,_,h3,_⟩ | h3
  ·subst h0
   rw [hg] at h3
   subst h3
   have h1:(star:ByteArray).size=1:=rfl
   have e0:t=0:=by omega
   subst e0
   rw [← e]
   exact .inl rfl
  ·rw [hg] at h3
   rw [← e]
   exact .inr (h3.2.2 t ht)
theorem host_no64 {s:ByteArray}{wild:Bool}(h:hostP s wild)(j:Nat)(hj:j<s.size):cAt s j≠64:=by
 intro e
 rcases hostP_bytes h j hj with h1 | h1 | h1
 ·omega
 ·omega
 ·rw [e] at h1
  rcases h1 with (h1 | h1) | h1 <;> omega
theorem mailP_iff {s:ByteArray}{t:Nat}(ht:t<s.size)(hc:cAt s t=64)(h:∀ j,j<t→cAt s j≠64):mailP s↔localP (s.extract 0 t)∧hostP (s.extract (t+1) s.size) false:=by
 unfold mailP
 rw [cut_hit ht hc h]
 constructor
 ·rintro ⟨a,b,e,h1,h2⟩
  have e1:=(List.cons.inj e).1
  have e2:=(List.cons.inj e).2
  obtain ⟨j,r,e3,_,h5,h6,h7⟩:=pcs_head s 64 (s.size - (t+1)) (t+1) (t+1) (by omega) (Nat.le_refl _)
  rw [e3] at e2
  have e4:=(List.cons.inj e2).1
  have e5:=(List.cons.inj e2).2
  rcases h7 with ⟨_,h8⟩ | ⟨h8,_⟩
  ·rw [h8] at e4
   rw [e1,e4]
   exact ⟨h1,h2⟩
  ·exact absurd e5 h8
 ·rintro ⟨h1,h2⟩
  refine ⟨_,_,?_,h1,h2⟩
  rw [pcs_none s 64 _ _ _ (by omega) (fun j h3 h4=>?_)]
  have h5:=host_no64 h2 (j - (t+1)) (by rw [ext_sz s _ _ (Nat.le_refl _)]; omega)
  rw [ext_cAt s _ _ _ (by omega),show t+1+(j - (t+1))=j by omega] at h5
  exact h5
theorem mailP_none {s:ByteArray}(h:∀ j,j<s.size→cAt s j≠64):¬ mailP s:=by
 rintro ⟨a,b,e,_⟩
 rw [cut_none h] at e
 cases e
theorem everyWord_any (s:ByteArray)(w:World)(hs:s.size≤1048576) :
  Calls Tryz.prog 186 #[.string s,.func (Fn.func 216) #[] #[]] w (SaysW (allB wordB s s.size) w):=by
 go_enter Tryz.func186,Tryz.ntmps186
 go_wp2
 go_loopw [5] (fun i wr=>∃ k:Nat,k≤s.size∧i=.int .i64 k∧Hid (allB wordB s k)∧w=wr) (fun i _=>s.size - (intOf i).toNat)
 case atStart=>exact ⟨0,Nat.zero_le _,rfl,(fun j hj=>absurd hj (Nat.not_lt_zero _)),rfl⟩
 case round =>
  obtain ⟨k,hk,rfl,HP,rfl⟩:=hrel
  by_cases hlt:k<s.size
  ·have HX:Hid (cAt s k=(s[k].toNat:Int)):=cAt_get s k hlt
   go_wp2_with fail
   refine (isWordByte_any _ _).mono ?_
   rintro e w1 ⟨b,rfl,HV,rfl⟩
   cases b with
   | false =>
    have HN:Hid (¬ allB wordB s s.size):=fun h=>Bool.false_ne_true (HV.out.2 (by rw [← HX.out]; exact h k hlt))
    clear HV HP
    go_wp2
    go_ret
    exact saysW_f HN.out
   | true =>
    have HN:Hid (allB wordB s (k+1)):=allB_succ HP.out (by rw [HX.out]; exact HV.out.1 rfl)
    clear HP HV
    go_wp2
    go_roundw
    case rel=>exact ⟨k+1,by omega,by go_num,HN,by trivial⟩
    case measure=>simp [intOf]; omega
  ·obtain rfl:k=s.size:=by omega
   go_wp2
   go_ret
   exact saysW_t HP.out
theorem wordMail_any (s:ByteArray)(w:World)(hs:s.size≤1048576) :
  Calls Tryz.prog 215 #[.string s,.int .i64 20,.func (Fn.func 216) #[] #[]] w (SaysW (localP s) w):=by
 obtain ⟨P,hP⟩:∃ P:Prop,P=localP s:=⟨_,rfl⟩
 rw [← hP]
 have HP:Hid (P=((1≤s.size∧s.size≤20)∧allB wordB s s.size)):=hP
 clear hP
 rcases Nat.eq_zero_or_pos s.size with h0 | h0
 ·have HN:Hid (¬ P):=fun h=>by rw [HP.out] at h; omega
  have z:s.toList.isEmpty=true:=by
   rw [ByteArray.toList_eq]
   have:s.data.toList = []:=List.eq_nil_of_length_eq_zero (by simpa using h0)
   rw [this]
   rfl
  clear h0
  go_enter Tryz.func215,Tryz.ntmps215
  go_wp2
  go_ret
  exact saysW_f HN.out
 ·have z:s.toList.isEmpty=false:=by
   rw [ByteArray.toList_eq]
   cases hl:s.data.toList with
   | nil =>
        have:s.data.toList.length=0:=by rw [hl]; rfl
        simp at this
        have h2:s.size=0:=by rw [this]; rfl
        omega
   | cons _ _=>rfl
  by_cases h20:(s.size:Int)≤20
  ·go_enter Tryz.func215,Tryz.ntmps215
   go_wp2_with fail
   refine (everyWord_any s _ hs).mono ?_
   rintro e w1 ⟨b,rfl,HV,rfl⟩
   cases b with
   | true =>
    have HN:Hid P:=by show P; rw [HP.out]; exact ⟨⟨by omega,by omega⟩,HV.out.1 rfl⟩
    clear HV
    go_wp2
    go_ret
    exact saysW_t HN.out
   | false =>
    have HN:Hid (¬ P):=fun h=>by rw [HP.out] at h; exact Bool.false_ne_true (HV.out.2 h.2)
    clear HV
    go_wp2
    go_ret
    exact saysW_f HN.out
  ·have HN:Hid (¬ P):=fun h=>by rw [HP.out] at h; omega
   go_enter Tryz.func215,Tryz.ntmps215
   go_wp2
   go_ret
   exact saysW_f HN.out
theorem l6Local_any (s:ByteArray)(w:World)(hs:s.size≤1048576):Calls Tryz.prog 207 #[.string s] w (SaysW (localP s) w):=by
 go_enter Tryz.func207,Tryz.ntmps207
 go_wp2
 go_loopw [3] (fun i wr=>∃ k:Nat,k≤s.size∧i=.int .i64 k∧Hid (allB wordB s k)∧w=wr) (fun i _=>s.size - (intOf i).toNat)
 case atStart=>exact ⟨0,Nat.zero_le _,rfl,(fun j hj=>absurd hj (Nat.not_lt_zero _)),rfl⟩
 case round =>
  obtain ⟨k,hk,rfl,HP,rfl⟩:=hrel
  by_cases hlt:k<s.size
  ·have hx:=cAt_get s k hlt
   have GOOD:Hid (wordB (s[k].toNat:Int)→allB wordB s (k+1)):=fun h=>allB_succ HP.out (by rw [hx]; exact h)
   have BAD:Hid (¬ wordB (s[k].toNat:Int)→¬ localP s):=fun h q=>h (by rw [← hx]; exact q.2 k hlt)
   clear HP hx
   by_cases hb:wordB (s[k].toNat:Int)
   ·have HN:Hid (allB wordB s (k+1)):=GOOD.out hb
    clear GOOD BAD
    have hc:(97≤(s[k].toNat:Int)∧(s[k].toNat:Int)≤122)∨((s[k].toNat:Int)<97∧48≤(s[k].toNat:Int)∧(s[k].toNat:Int)≤57):=by
     rcases hb with h | h
     ·exact .inl h
     ·exact .inr ⟨by omega,h.1,h.2⟩
    clear hb
    rcases hc with ⟨c1,c2⟩ | ⟨c1,c2,c3⟩
    all_goals
     go_wp2
     go_roundw
     case rel=>exact ⟨k+1,by omega,by go_num,HN,by trivial⟩
     case measure=>simp [intOf]; omega
   ·have HN:Hid (¬ localP s):=BAD.out hb
    clear GOOD BAD
    have hc:(97≤(s[k].toNat:Int)∧122<(s[k].toNat:Int)∧48≤(s[k].toNat:Int)∧57<(s[k].toNat:Int))∨((s[k].toNat:Int)<97∧48≤(s[k].toNat:Int)∧57<(s[k].toNat:Int))∨((s[k].toNat:Int)<97∧(s[k].toNat:Int)<48):=by
     unfold wordB at hb
     omega
    clear hb
    rcases hc with ⟨c1,c2,c3,c4⟩ | ⟨c1,c2,c3⟩ | ⟨c1,c2⟩
    ·have z1:decide ((s[k].toNat:Int)≤122)=false:=decide_eq_false (by omega)
     have z2:decide ((s[k].toNat:Int)≤57)=false:=decide_eq_false (by omega)
     go_wp2
     go_ret
     exact saysW_f HN.out
    ·have z2:decide ((s[k].toNat:Int)≤57)=false:=decide_eq_false (by omega)
     go_wp2
     go_ret
     exact saysW_f HN.out
    ·go_wp2
     go_ret
     exact saysW_f HN.out
  ·obtain rfl:k=s.size:=by omega
   by_cases c1:1≤(s.size:Int)
   ·by_cases c2:(s.size:Int)≤20
    ·have HN:Hid (localP s):=⟨⟨by omega,by omega⟩,HP.out⟩
     clear HP
     go_wp2
     go_ret
     exact saysW_t HN.out
    ·have HN:Hid (¬ localP s):=fun h=>by have:=h.1.2; omega
     clear HP
     go_wp2
     go_ret
     exact saysW_f HN.out
   ·have HN:Hid (¬ localP s):=fun h=>by have:=h.1.1; omega
    clear HP
    go_wp2
    go_ret
    exact saysW_f HN.out
open Go.RowKit
theorem list_two {L:List ByteArray}(h:L.length=2):L = [L.getD 0 ByteArray.empty,L.getD 1 ByteArray.empty]:=by
 match L,h with
 | [a,b],_=>rfl
def mailR (s x y:ByteArray)(ok:Bool):Prop:=(ok=true∧cutAt s 64 = [x,y])∨(ok=false∧(cutAt s 64).length≠2)
theorem below_drewM {B:Nat}{w w':World}(h:Below B w w')(n:Nat):Below B w (w'.drewN n):=by
 induction n with
 | zero=>simpa [World.drewN] using h
 | succ n ih=>exact ih.drew
theorem l6Mail_any (s:ByteArray)(w:World)(hs:s.size≤1048576):Calls Tryz.prog 206 #[.string s] w fun e w'=>∃ x y ok,e=.returned (.tuple #[.string x,.string y,.bool ok])∧Hid (mailR s x y ok)∧x.size≤s.size∧y.size≤s.size∧Below w.heap.size w w':=by
 go_enter Tryz.func206,Tryz.ntmps206
 go_wp2_with fail
 refine (l5Split_any s 64 _ hs).mono ?_
 rintro e w1 ⟨a,n,cap,rfl,hn,HS0,hb⟩
 by_cases h2:n=2
 ·have e2:=list_two (hn.symm.trans h2)
  subst h2
  obtain ⟨g,rfl,hg,hcell⟩:=HS0.get (by omega)
  obtain ⟨hc1,hc2⟩:=HS0.caps
  have c0:=hcell 0 (by decide)
  have c1:=hcell 1 (by decide)
  have y0:=cut_size s 64 0
  have y1:=cut_size s 64 1
  obtain ⟨x,hx⟩:∃ x,x=(cutAt s 64).getD 0 ByteArray.empty:=⟨_,rfl⟩
  obtain ⟨y,hy⟩:∃ y,y=(cutAt s 64).getD 1 ByteArray.empty:=⟨_,rfl⟩
  rw [← hx] at c0 e2 y0
  rw [← hy] at c1 e2 y1
  have HE:Hid (mailR s x y true):=.inl ⟨rfl,e2⟩
  clear hx hy e2 hcell HS0 hn
  go_wp2
  go_quiet (fail)
  go_wp2
  go_ret3
  first
   | exact ⟨x,y,true,rfl,HE,y0,y1,hb⟩
   | exact ⟨x,y,true,rfl,HE,y0,y1,hb.drew⟩
   | exact ⟨x,y,true,rfl,HE,y0,y1,below_drewM hb _⟩
 ·have HE:Hid (mailR s ByteArray.empty ByteArray.empty false):=.inr ⟨rfl,fun h=>h2 (hn.trans h)⟩
  have z:((n:Int) != 2)=true:=bne_iff_ne.2 (by omega)
  clear HS0 hn h2
  go_wp2
  go_ret3
  exact ⟨ByteArray.empty,ByteArray.empty,false,rfl,HE,Nat.zero_le _,Nat.zero_le _,hb⟩
theorem mailR_t {s x y:ByteArray}(h:mailR s x y true):mailP s↔localP x∧hostP y false:=by
 rcases h with ⟨_,h⟩ | ⟨h,_⟩
 ·constructor
  ·rintro ⟨a,b,e,h1,h2⟩
   rw [h] at e
   obtain ⟨rfl,e2⟩:=List.cons.inj e
   obtain ⟨rfl,_⟩:=List.cons.inj e2
   exact ⟨h1,h2⟩
  ·rintro ⟨h1,h2⟩
   exact ⟨x,y,h,h1,h2⟩
 ·cases h
theorem mailR_f {s x y:ByteArray}(h:mailR s x y false):¬ mailP s:=by
 rcases h with ⟨h,_⟩ | ⟨_,h⟩
 ·cases h
 ·rintro ⟨a,b,e,_⟩
  rw [e] at h
  exact h rfl
theorem l6MailOk_any (s:ByteArray)(w:World)(hs:s.size≤1048576):Calls Tryz.prog 176 #[.string s] w (SaysB (mailP s) w):=by
 go_enter Tryz.func176,Tryz.ntmps176
 go_wp2_with fail
 refine (l6Mail_any s _ hs).mono ?_
 rintro e w1 ⟨x,y,ok,rfl,HR,hx,hy,hb⟩
 cases ok with
 | false =>
  have HN:Hid (¬ mailP s):=mailR_f HR.out
  clear HR
  go_wp2
  go_ret
  exact saysB_f HN.out hb
 | true =>
  have HI:Hid (mailP s↔localP x∧hostP y false):=mailR_t HR.out
  clear HR
  go_wp2_with fail
  refine (l6Local_any x _ (by omega)).mono ?_
  rintro e w2 ⟨b1,rfl,HV1,hw2⟩
  subst hw2
  cases b1 with
  | false =>
   have HN:Hid (¬ mailP s):=fun h=>Bool.false_ne_true (HV1.out.2 (HI.out.1 h).1)
   clear HV1 HI
   go_wp2
   go_ret
   exact saysB_f HN.out hb
  | true =>
   have HI2:Hid (mailP s↔hostP y false):=⟨fun h=>(HI.out.1 h).2,fun h=>HI.out.2 ⟨HV1.out.1 rfl,h⟩⟩
   clear HV1 HI
   go_wp2_with fail
   refine (specHostOk_any y false _).mono ?_
   rintro e w3 ⟨b2,rfl,HV2,hb2⟩
   have hb3:Below w.heap.size w w3:=hb.trans (hb2.mono hb.size)
   cases b2 with
   | false =>
    have HN:Hid (¬ mailP s):=fun h=>Bool.false_ne_true (HV2.out.2 (HI2.out.1 h))
    clear HV2 HI2
    go_wp2
    go_ret
    exact saysB_f HN.out hb3
   | true =>
    have HN:Hid (mailP s):=HI2.out.2 (HV2.out.1 rfl)
    clear HV2 HI2
    go_wp2
    go_ret
    exact saysB_t HN.out hb3
open Go.RowKit
def flat (ps:List (Int × Int)):List Value:=ps.flatMap fun p=>[Value.int .i64 p.1,.int .i64 p.2]
theorem flat_cons (p:Int × Int)(r:List (Int × Int)):flat (p::r)=Value.int .i64 p.1::.int .i64 p.2::flat r:=rfl
theorem flat_len (ps:List (Int × Int)):(flat ps).length=ps.length * 2:=by
 induction ps with
 | nil=>rfl
 | cons p r ih=>rw [flat_cons]; simp [ih]; omega
theorem flat_get (ps:List (Int × Int)):∀ k,k<ps.length→(flat ps)[k * 2]? = some (.int .i64 (ps.getD k (0,0)).1)∧(flat ps)[k * 2+1]? = some (.int .i64 (ps.getD k (0,0)).2):=by
 induction ps with
 | nil=>intro k h; simp at h
 | cons p r ih =>
  intro k h
  cases k with
  | zero=>simp [flat_cons]
  | succ k =>
   have:=ih k (by simpa using h)
   rw [flat_cons,show (k+1) * 2=k * 2+1+1 by omega]
   simpa using this
def Pre2 (vs:List Value)(ps:List (Int × Int))(k:Nat):Prop:=∀ j,j<k→vs[j * 2]? = some (.int .i64 (ps.getD j (0,0)).1)∧vs[j * 2+1]? = some (.int .i64 (ps.getD j (0,0)).2)
theorem Pre2.set {vs:List Value}{ps:List (Int × Int)}{k:Nat}(h:Pre2 vs ps k)(hk:k * 2+1<vs.length):Pre2 ((vs.set (k * 2) (.int .i64 (ps.getD k (0,0)).1)).set (k * 2+1) (.int .i64 (ps.getD k (0,0)).2)) ps (k+1):=by
 intro j hj
 by_cases e:j=k
 ·subst e
  refine ⟨?_,?_⟩
  ·rw [List.getElem?_set_ne (by omega),List.getElem?_set_self (by omega)]
  ·rw [List.getElem?_set_self (by simp; omega)]
 ·have h1:=h j (by omega)
  refine ⟨?_,?_⟩
  ·rw [List.getElem?_set_ne (by omega),List.getElem?_set_ne (by omega)]; exact h1.1
  ·rw [List.getElem?_set_ne (by omega),List.getElem?_set_ne (by omega)]; exact h1.2
theorem Pre2.all {vs:List Value}{ps:List (Int × Int)}{n:Nat}(h:Pre2 vs ps n)(hv:vs.length=n * 2)(hp:ps.length=n):vs=flat ps:=by
 apply List.ext_getElem?
 intro i
 by_cases hi:i<n * 2
 ·have h1:=h (i / 2) (by omega)
  have h2:=flat_get ps (i / 2) (by omega)
  rcases Nat.mod_two_eq_zero_or_one i with e | e
  ·have ei:i / 2 * 2=i:=by omega
   rw [ei] at h1 h2
   exact h1.1.trans h2.1.symm
  ·have ei:i / 2 * 2+1=i:=by omega
   rw [ei] at h1 h2
   exact h1.2.trans h2.2.symm
 ·rw [List.getElem?_eq_none (by omega),List.getElem?_eq_none (by rw [flat_len]; omega)]
structure OwnPm (lo hi:Nat)(w:World)(a:Option Addr)(n cap:Nat)(ps:List (Int × Int)):Prop where
 row:w.ownsRow lo 115 2 (.slice a n cap) n (flat ps)
 max:n≤9223372036854775807
 lt:∀ x,a=some x→x.block<hi
theorem OwnPm.len {lo hi:Nat}{w:World}{a:Option Addr}{n cap:Nat}{ps:List (Int × Int)}(h:OwnPm lo hi w a n cap ps):ps.length=n:=by
 have:=h.row.1
 rw [flat_len] at this
 omega
theorem OwnPm.toPms {lo hi:Nat}{w:World}{a:Option Addr}{n cap:Nat}{ps:List (Int × Int)}(h:OwnPm lo hi w a n cap ps):Pms w a n ps:=by
 refine ⟨h.len,h.max,fun k hk=>?_⟩
 have hf:=flat_get ps k (by rw [h.len]; exact hk)
 rcases h.row.2 with ⟨_,h0⟩ | ⟨g,cap',cur,hv,hb,hg,_⟩
 ·omega
 ·simp only [Value.slice.injEq] at hv
  obtain ⟨rfl,_,rfl⟩:=hv
  exact ⟨g,0,rfl,(Array.getElem?_eq_some_iff.1 hg).1,by rw [Nat.zero_add,h.row.cellAt _ (by omega)]; exact hf.1,by rw [Nat.zero_add,h.row.cellAt _ (by omega)]; exact hf.2⟩
theorem Tryz.infoPolMap:(Tryz.prog.info? 115).map (fun i=>(i.zero,i.size,i.bytes))=some (some (.agg #[.int .i64 0,.int .i64 0]),2,16):=by kernel_rfl
theorem results_pm {fn:Func}{t:Tmp}(h:fn.results=#[.cell t 115])(tmps:Array Value)(g:Nat)(ht:tmps.getD t undef=.pointer (some ⟨g,0,none⟩))(w:World)(p:Int × Int)
  (hb:w.heap[g]? = some (.cells #[.int .i64 p.1,.int .i64 p.2] 115 (0,0))):(results fn tmps).run Tryz.prog w=.ok (pmv p) w:=by
 have d0:w.cell? ⟨g,0,none⟩=some (.int .i64 p.1):=(cell_of_row _ g 0 _ 115 (0,0) hb).trans rfl
 have d1:w.cell? ⟨g,1,none⟩=some (.int .i64 p.2):=(cell_of_row _ g 1 _ 115 (0,0) hb).trans rfl
 clear hb
 have ht':tmps[t]?.getD undef=.pointer (some ⟨g,0,none⟩):=by rw [← ht]; simp
 simp [results,h,go_sem,ht',d0,d1,pmv]
theorem alloc_oldP (w:World)(o:Obj)(g:Nat)(hg:g<w.heap.size):(w.alloc o).heap[g]? = w.heap[g]?:=((Below.refl w.heap.size w).alloc (Nat.le_refl _) o).block g hg
theorem toPolMap_any (p:Int × Int)(w:World) :
  Calls Tryz.prog 92 #[pmv p] w fun e w'=>e=.returned (pmv p)∧Below w.heap.size w w':=by
 obtain ⟨a,b⟩:=p
 have b1:((((w.alloc (.cells #[.int .i64 a,.int .i64 b] 130)).alloc (.cells #[.int .i64 a,.int .i64 b] 115)).alloc (.cells #[.int .i64 a,.int .i64 b] 115))).heap[w.heap.size+1]? = some (.cells #[.int .i64 a,.int .i64 b] 115):=by
  have s1:(w.alloc (.cells #[.int .i64 a,.int .i64 b] 130)).heap.size=w.heap.size+1:=by simp
  exact (alloc_oldP _ _ _ (by simp)).trans (by rw [← s1]; exact heap_alloc_new _ _)
 have HB1:Hid (_=_):=b1
 clear b1
 unfold pmv
 go_enter Tryz.func92,Tryz.ntmps92
 go_wp2
 try simp only [Exit.inBlock,Exit.then]
 exact bodyPost_ret (results_pm (p:=(a,b)) rfl _ (w.heap.size+1) rfl _ HB1.out) rfl ⟨rfl,(((Below.refl _ _).alloc (Nat.le_refl _) _).alloc (by simp) _).alloc (by simp; omega) _⟩
theorem toPolMapS_any (a:Option Addr)(n c:Nat)(ps:List (Int × Int))(w:World)(h:Pms w a n ps)(hn:n≤1048576) :
  Calls Tryz.prog 41 #[.slice a n c] w fun e w'=>∃ ar,e=.returned (.slice ar n n)∧OwnPm w.heap.size w'.heap.size w' ar n n ps∧Below w.heap.size w w':=by
 obtain ⟨i0,hi,hz0,hz1,hz2⟩:=info_parts Tryz.infoPolMap
 have H0:Hid (Pms w a n ps):=h
 have HL:Hid (ps.length=n):=h.len
 clear h
 go_enter Tryz.func41,Tryz.ntmps41
 go_wp2_with (first | (at_make; refine wpList_make_full _ rfl _ _ 43 rfl w.heap.size 115 i0 _ 2 Tryz.underlying43 hi hz0 hz1 _ _ _ _ n rfl rfl rfl rfl (by rw [hz2]; omega) (by unfold maxLen; omega) (by exact Nat.le_refl _) ?_; intro w2 hown hgrow))
 have hbl:Below w.heap.size w w2:=(Below.refl _ _).grown hgrow (Nat.le_refl _) (by simp)
 clear hgrow hi hz0 hz1 hz2
 go_loopw [4] (fun i wr=>∃ k:Nat,k≤n∧i=.int .i64 k∧(∃ vs,wr.ownsRow w.heap.size 115 2 (.slice (some ⟨w.heap.size,0,none⟩) n n) n vs∧Pre2 vs ps k)∧Below w.heap.size w wr) (fun i _=>n - (intOf i).toNat)
 case atStart=>exact ⟨0,Nat.zero_le _,rfl,⟨_,hown,fun j hj=>absurd hj (Nat.not_lt_zero _)⟩,hbl⟩
 case round =>
  obtain ⟨k,hk,rfl,⟨vs,hor,hpre⟩,hbr⟩:=hrel
  by_cases hkn:k<n
  ·obtain ⟨b,off,rfl,hlb,x0,x1⟩:=(H0.out.kept hbr).get k hkn
   obtain ⟨p,hp⟩:∃ p,p=ps.getD k (0,0):=⟨_,rfl⟩
   rw [← hp] at x0 x1
   have HP:Hid (ps.getD k (0,0)=p):=hp.symm
   have hkni:(k:Int)<(n:Int):=by omega
   have HPRE:Hid (Pre2 vs ps k):=hpre
   have HOR:Hid (_):=hor
   have hws:=hbr.size
   clear hp hpre hor hown hbl
   go_wp2_with fail
   refine (toPolMap_any p _).mono ?_
   rintro e w3 ⟨rfl,hb3⟩
   have hor3:=ownsRow_below HOR.out hb3
   have hvl:vs.length=n * 2:=hor3.1
   have f0:w3.frozen? ⟨w.heap.size,k * 2,none⟩=false:=hor3.frozenAt _
   have f1:w3.frozen? ⟨w.heap.size,k * 2+1,none⟩=false:=hor3.frozenAt _
   obtain ⟨y0,hy0⟩:∃ y,w3.cell? ⟨w.heap.size,k * 2,none⟩=some y:=⟨_,(hor3.cellAt _ (by omega)).trans (List.getElem?_eq_getElem (by omega))⟩
   obtain ⟨y1,hy1⟩:∃ y,w3.cell? ⟨w.heap.size,k * 2+1,none⟩=some y:=⟨_,(hor3.cellAt _ (by omega)).trans (List.getElem?_eq_getElem (by omega))⟩
   have hP:=HPRE.out.set (by omega)
   rw [HP.out] at hP
   have hO:=((hor3.stored (k * 2) (.int .i64 p.1)).1.stored (k * 2+1) (.int .i64 p.2)).1
   have hB:Below w.heap.size w ((w3.setCell ⟨w.heap.size,k * 2,none⟩ (.int .i64 p.1)).setCell ⟨w.heap.size,k * 2+1,none⟩ (.int .i64 p.2)):=((keepP hbr hb3).setCell (Nat.le_refl _) _).setCell (Nat.le_refl _) _
   have FIN:Hid (_∧_∧_):=⟨hO,hP,hB⟩
   clear hP hO hB hor3 hb3 hbr HPRE HOR
   rw [pmv]
   go_wp2
   go_roundw
   case rel=>exact ⟨k+1,by omega,by go_num,⟨_,FIN.out.1,FIN.out.2.1⟩,FIN.out.2.2⟩
   case measure=>simp [intOf]; omega
  ·obtain rfl:k=n:=by omega
   have hvs:=hpre.all hor.1 HL.out
   rw [hvs] at hor
   have FIN:Hid (OwnPm w.heap.size wr.heap.size wr (some ⟨w.heap.size,0,none⟩) k k ps∧_):=⟨⟨hor,by omega,fun x hx=>by cases hx; exact (hor.lt _ rfl).2⟩,hbr⟩
   clear hor hpre hbr hvs hown hbl
   go_wp2
   go_ret
   exact ⟨_,rfl,FIN.out.1,FIN.out.2⟩
end Go.Proofs.YtmdfbnlgfhjnoaaGreatDoor
