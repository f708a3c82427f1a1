import Derived.Test.YtmdfbnlgfhjnoaaGreatDoorFB10
import Derived.Deep.RegionHeldLaw
import Derived.Test.YtmdfbnlgfhjnoaaGreatDoorFB07
import Derived.Lib.SlBytesConst
import Derived.Laws.Closers25b
import Derived.Test.YtmdfbnlgfhjnoaaGreatDoorFB08
import Derived.Test.YtmdfbnlgfhjnoaaGreatDoorFB09
import Derived.Test.YtmdfbnlgfhjnoaaGreatDoorFB06
import Derived.BigQuiet
import Derived.Deep.QuietTactic
set_option maxRecDepth 10000
set_option maxHeartbeats 8000000
set_option linter.unusedVariables false
namespace Go.Proofs.YtmdfbnlgfhjnoaaGreatDoor
open Go.RowKit
def powOk (b e m:Int):Prop:=(1≤m∧m≤2147483648)∧(0≤b∧b≤m - 1)∧0≤e
instance (b e m:Int):Decidable (powOk b e m):=by unfold powOk; infer_instance
def powV (b e m:Int):Int × Bool:=if powOk b e m then (pw b e.toNat m,true) else (0,false)
def pair (t:Int × Bool):Value:=.tuple #[.int .i64 t.1,.bool t.2]
theorem implPowMod_any (b e m:Int)(w:World)(he':e≤9223372036854775807) :
  Calls Tryz.prog 277 #[.int .i64 b,.int .i64 e,.int .i64 m] w fun r w'=>r=.returned (pair (powV b e m))∧w'=w:=by
 by_cases h1:1≤m∧m≤2147483648
 ·by_cases h2:0≤b∧b≤m - 1
  ·by_cases h3:0≤e
   ·have HR:Hid (powV b e m=(pw b e.toNat m,true)):=by show _=_; unfold powV; rw [if_pos ⟨h1,h2,h3⟩]
    have HV:Hid ((1 % m) * b ^ e.toNat % m=pw b e.toNat m):=by show _=_; unfold pw; rw [Int.mul_emod,Int.emod_emod_of_dvd _ (Int.dvd_refl m),← Int.mul_emod,Int.one_mul]
    obtain ⟨hm,hm'⟩:=h1
    obtain ⟨hb,hb'⟩:=h2
    have hb1:b<m:=by omega
    have hm1:=mod_bd 1 hm
    go_enter Tryz.func277,Tryz.ntmps277
    go_wp2_with fail
    refine (inBounds_t m 1 2147483648 _ ⟨hm,hm'⟩).mono ?_
    rintro r w1 ⟨rfl,rfl⟩
    go_wp2_with fail
    refine (inBounds_t b 0 (m - 1) _ ⟨hb,hb'⟩).mono ?_
    rintro r w1 ⟨rfl,rfl⟩
    go_wp2
    go_loopw [0,1,8] (fun vb ve vo wr=>∃ (b' e' out:Int),vb=.int .i64 b'∧ve=.int .i64 e'∧vo=.int .i64 out∧0≤b'∧b'<m∧0≤e'∧e'≤9223372036854775807∧0≤out∧out<m∧Hid (out * b' ^ e'.toNat % m=pw b e.toNat m)∧w1=wr) (fun _ ve _ _=>(intOf ve).toNat)
    case atStart=>exact ⟨b,e,1 % m,rfl,rfl,rfl,hb,hb1,h3,he',hm1.1,hm1.2,HV,rfl⟩
    case round =>
     obtain ⟨b',e',out,rfl,rfl,rfl,hb0,hb1,he0,he1,ho0,ho1,HI,rfl⟩:=hrel
     by_cases hp:0<e'
     ·have hbb:=mul_bd hb0 hb1 hb0 hb1 hm'
      have hob:=mul_bd ho0 ho1 hb0 hb1 hm'
      have hbm:=mod_bd (b' * b') hm
      have hom:=mod_bd (out * b') hm
      have ha:=and1 e' he0 he1
      by_cases hodd:e' % 2=1
      ·have HN:Hid ((out * b' % m) * (b' * b' % m) ^ (e' / 2).toNat % m=pw b e.toNat m):=by
        show _=_
        rw [← HI.out,show (e' / 2).toNat=e'.toNat / 2 by omega]
        exact pw_odd out b' m e'.toNat (by omega)
       have z:(e' % 2 == 1)=true:=beq_iff_eq.2 hodd
       clear hodd HI
       go_wp2
       go_roundw
       case rel=>exact ⟨_,_,_,rfl,rfl,rfl,hbm.1,hbm.2,by omega,by omega,hom.1,hom.2,HN,by trivial⟩
       case measure=>simp [intOf]; omega
      ·have HN:Hid (out * (b' * b' % m) ^ (e' / 2).toNat % m=pw b e.toNat m):=by
        show _=_
        rw [← HI.out,show (e' / 2).toNat=e'.toNat / 2 by omega]
        exact pw_even out b' m e'.toNat (by omega)
       have z:(e' % 2 == 1)=false:=beq_false_of_ne hodd
       clear hodd HI
       go_wp2
       go_roundw
       case rel=>exact ⟨_,_,_,rfl,rfl,rfl,hbm.1,hbm.2,by omega,by omega,ho0,ho1,HN,by trivial⟩
       case measure=>simp [intOf]; omega
     ·obtain rfl:e'=0:=by omega
      have HE:Hid (out=pw b e.toNat m):=by
       show _=_
       rw [← HI.out,show Int.toNat 0=0 from rfl,Int.pow_zero,Int.mul_one,Int.emod_eq_of_lt ho0 ho1]
      clear HI
      go_wp2
      go_ret2
      exact ⟨by rw [HR.out,← HE.out]; rfl,rfl⟩
   ·have HV:Hid (powV b e m=(0,false)):=by show _=_; unfold powV; rw [if_neg (fun h=>h3 h.2.2)]
    go_enter Tryz.func277,Tryz.ntmps277
    go_wp2_with fail
    refine (inBounds_t m 1 2147483648 _ h1).mono ?_
    rintro r w1 ⟨rfl,rfl⟩
    go_wp2_with fail
    refine (inBounds_t b 0 (m - 1) _ h2).mono ?_
    rintro r w1 ⟨rfl,rfl⟩
    go_wp2
    go_ret2
    exact ⟨by rw [HV.out]; rfl,rfl⟩
  ·have HV:Hid (powV b e m=(0,false)):=by show _=_; unfold powV; rw [if_neg (fun h=>h2 h.2.1)]
   go_enter Tryz.func277,Tryz.ntmps277
   go_wp2_with fail
   refine (inBounds_t m 1 2147483648 _ h1).mono ?_
   rintro r w1 ⟨rfl,rfl⟩
   go_wp2_with fail
   refine (inBounds_f b 0 (m - 1) _ h2).mono ?_
   rintro r w1 ⟨rfl,rfl⟩
   go_wp2
   go_ret2
   exact ⟨by rw [HV.out]; rfl,rfl⟩
 ·have HV:Hid (powV b e m=(0,false)):=by show _=_; unfold powV; rw [if_neg (fun h=>h1 h.1)]
  go_enter Tryz.func277,Tryz.ntmps277
  go_wp2_with fail
  refine (inBounds_f m 1 2147483648 _ h1).mono ?_
  rintro r w1 ⟨rfl,rfl⟩
  go_wp2
  go_ret2
  exact ⟨by rw [HV.out]; rfl,rfl⟩
open Go.RowKit
def gp (b e:Int):Int:=pw b e.toNat 1000000007
def memP (y:Int):Prop:=(1≤y∧y≤1000000006)∧gp y 500000003=1
def keyP (y:Int):Prop:=memP y∧y≠1
instance (x:Int):Decidable (memP x):=by unfold memP; infer_instance
instance (x:Int):Decidable (keyP x):=by unfold keyP; infer_instance
theorem power_any (b e:Int)(w:World)(hb:0≤b)(hb':b≤1000000006)(he:0≤e)(he':e≤9223372036854775807) :
  Calls Tryz.prog 275 #[.int .i64 b,.int .i64 e] w fun r w'=>r=.returned (.int .i64 (gp b e))∧w'=w:=by
 have HV:Hid (powV b e 1000000007=(gp b e,true)):=by show _=_; unfold powV; rw [if_pos ⟨by decide,⟨hb,by omega⟩,he⟩]; rfl
 go_enter Tryz.func275,Tryz.ntmps275
 go_wp2_with fail
 refine (implPowMod_any b e 1000000007 _ he').mono ?_
 rintro r w1 ⟨rfl,rfl⟩
 rw [HV.out,pair]
 go_wp2
 go_ret
 exact ⟨rfl,rfl⟩
theorem l7PowP_any (b e:Int)(w:World)(hb:0≤b)(hb':b≤1000000006)(he:0≤e)(he':e≤9223372036854775807) :
  Calls Tryz.prog 164 #[.int .i64 b,.int .i64 e,.int .i64 1000000007] w fun r w'=>r=.returned (.int .i64 (gp b e))∧w'=w :=
 l7Pow_any b e 1000000007 w (by decide) (by decide) hb (by omega) he he'
theorem isMember_any (y:Int)(w:World):Calls Tryz.prog 271 #[.int .i64 y] w fun r w'=>r=.returned (.bool (decide (memP y)))∧w'=w:=by
 by_cases h:1≤y∧y≤1000000006
 ·have HV:Hid ((gp y 500000003 == 1)=decide (memP y)):=by
   show _=_
   by_cases h2:gp y 500000003=1
   ·rw [decide_eq_true ⟨h,h2⟩,beq_iff_eq.2 h2]
   ·rw [decide_eq_false (fun hh=>h2 hh.2),beq_false_of_ne h2]
  go_enter Tryz.func271,Tryz.ntmps271
  go_wp2_with fail
  refine (inBounds_t y 1 1000000006 _ h).mono ?_
  rintro r w1 ⟨rfl,rfl⟩
  go_wp2_with fail
  refine (power_any y 500000003 _ (by omega) h.2 (by decide) (by decide)).mono ?_
  rintro r w1 ⟨rfl,rfl⟩
  go_wp2
  go_ret
  exact ⟨by rw [← HV.out]; rfl,rfl⟩
 ·rw [decide_eq_false (fun hh=>h hh.1)]
  go_enter Tryz.func271,Tryz.ntmps271
  go_wp2_with fail
  refine (inBounds_f y 1 1000000006 _ h).mono ?_
  rintro r w1 ⟨rfl,rfl⟩
  go_wp2
  go_ret
  exact ⟨rfl,rfl⟩
theorem l7Member_any (y:Int)(w:World):Calls Tryz.prog 126 #[.int .i64 y] w fun r w'=>r=.returned (.bool (decide (memP y)))∧w'=w:=by
 by_cases h:1≤y∧y≤1000000006
 ·have HV:Hid ((gp y 500000003 == 1)=decide (memP y)):=by
   show _=_
   by_cases h2:gp y 500000003=1
   ·rw [decide_eq_true ⟨h,h2⟩,beq_iff_eq.2 h2]
   ·rw [decide_eq_false (fun hh=>h2 hh.2),beq_false_of_ne h2]
  go_enter Tryz.func126,Tryz.ntmps126
  go_wp2_with fail
  refine (l1In_t y 1 1000000006 _ h).mono ?_
  rintro r w1 ⟨rfl,rfl⟩
  go_wp2_with fail
  refine (l7PowP_any y 500000003 _ (by omega) h.2 (by decide) (by decide)).mono ?_
  rintro r w1 ⟨rfl,rfl⟩
  go_wp2
  go_ret
  exact ⟨by rw [← HV.out]; rfl,rfl⟩
 ·rw [decide_eq_false (fun hh=>h hh.1)]
  go_enter Tryz.func126,Tryz.ntmps126
  go_wp2_with fail
  refine (l1In_f y 1 1000000006 _ h).mono ?_
  rintro r w1 ⟨rfl,rfl⟩
  go_wp2
  go_ret
  exact ⟨rfl,rfl⟩
theorem isKey_any (y:Int)(w:World):Calls Tryz.prog 268 #[.int .i64 y] w fun r w'=>r=.returned (.bool (decide (keyP y)))∧w'=w:=by
 by_cases h:y=1
 ·rw [decide_eq_false (fun hh=>hh.2 h)]
  have z:(y != 1)=false:=by simp [h]
  clear h
  go_enter Tryz.func268,Tryz.ntmps268
  go_wp2
  go_ret
  exact ⟨rfl,rfl⟩
 ·have HV:Hid (decide (memP y)=decide (keyP y)):=by
   show _=_
   exact decide_eq_decide.2 ⟨fun hh=>⟨hh,h⟩,fun hh=>hh.1⟩
  have z:(y != 1)=true:=by simp [h]
  clear h
  go_enter Tryz.func268,Tryz.ntmps268
  go_wp2_with fail
  refine (isMember_any y _).mono ?_
  rintro r w1 ⟨rfl,rfl⟩
  go_wp2
  go_ret
  exact ⟨by rw [← HV.out]; rfl,rfl⟩
open Go.RowKit
theorem two_below (w:World)(o0 o1:Obj):Below w.heap.size w ((w.alloc o0).alloc o1):=((Below.refl _ _).alloc (Nat.le_refl _) _).alloc (by simp) _
theorem two_blocks (w:World)(o0 o1:Obj):((w.alloc o0).alloc o1).heap[w.heap.size]? = some o0∧((w.alloc o0).alloc o1).heap[w.heap.size+1]? = some o1:=by
 have s1:(w.alloc o0).heap.size=w.heap.size+1:=by simp
 exact ⟨(alloc_old' _ o1 _ (by omega)).trans (heap_alloc_new w o0),by rw [← s1]; exact heap_alloc_new _ o1⟩
open Go.RowKit
theorem take_snoc (l:List Int)(k:Nat)(h:k<l.length):l.take (k+1)=l.take k++[l.getD k 0]:=by
 have e:l.getD k 0=l[k]:=by simp [h]
 rw [List.take_succ_eq_append_getElem h,e]
def eightI (v:Int):List Int:=eight v.toNat
theorem eightI_len (v:Int):(eightI v).length=8:=rfl
theorem eightI_byte (v:Int):∀ k,0≤(eightI v).getD k 0∧(eightI v).getD k 0≤255:=eight_byte _
theorem eight_at (n q:Nat)(h:q≤7):(n:Int) / 2 ^ (8 * q) % 256=(eightI (n:Int)).getD (7 - q) 0:=by
 have e:eightI (n:Int)=eight n:=rfl
 rw [e]
 match q,h with
 | 0,_=>simp [eight]
 | 1,_=>simp [eight]
 | 2,_=>simp [eight]
 | 3,_=>simp [eight]
 | 4,_=>simp [eight]
 | 5,_=>simp [eight]
 | 6,_=>simp [eight]
 | 7,_=>simp [eight]
theorem l1Eight_any (v:Int)(w:World)(h0:0≤v)(h1:v≤18446744073709551615) :
  Calls Tryz.prog 138 #[.int .u64 v] w fun e w'=>∃ a cap,e=.returned (.slice a 8 cap)∧Own w.heap.size w' a 8 cap (eightI v)∧Below w.heap.size w w':=by
 obtain ⟨i0,hi,hz0,hz1,hz2⟩:=info_parts Tryz.info5
 obtain ⟨n,rfl⟩:=Int.eq_ofNat_of_zero_le h0
 have hoe:=own_empty w
 have hbe:Below w.heap.size w (w.alloc (.cells #[] 5)):=(Below.refl _ _).alloc (Nat.le_refl _) _
 go_enter Tryz.func138,Tryz.ntmps138
 go_wp2
 go_loopw [3,4] (fun o i wr=>∃ (a:Option Addr) (q len cap:Nat),q≤8∧len=8 - q∧i=.int .i64 ((q:Int) - 1)∧o=.slice a len cap∧Own w.heap.size wr a len cap ((eightI (n:Int)).take (8 - q))∧Below w.heap.size w wr) (fun _ i _=>((intOf i)+1).toNat)
 case atStart=>exact ⟨_,8,0,0,Nat.le_refl _,rfl,rfl,rfl,hoe,hbe⟩
 case round =>
  obtain ⟨a,q,len,cap,hq,hle,rfl,rfl,hor,hbr⟩:=hrel
  have HLe:Hid (len=8 - q):=hle
  clear hle
  rcases q with _ | q
  ·go_wp2
   go_ret
   obtain rfl:len=8:=HLe.out
   exact ⟨_,_,rfl,hor,hbr⟩
  ·have e1:((q+1:Nat):Int) - 1=(q:Int):=by omega
   rw [e1]
   clear e1
   have hl9:len≤9:=by have:=HLe.out; omega
   have hq7:q≤7:=by omega
   have hws:w.heap.size≤wr.heap.size:=hbr.size
   have HE:Hid (_=_):=eight_at n q hq7
   go_wp2_with (at_builtin; go_loud (refine wpList_append_own _ rfl _ _ 32 rfl w.heap.size 5 i0 (.int .u8 0) 1 1 Tryz.underlying32 hi hz0 hz1 hz2 rfl (by decide) _ _ _ rfl (hor.row.alloc _) ⟨wr.heap.size,0,none⟩ 1 1 [_] rfl rfl (cell_one_new _ _ _) (by intro u hu; simp at hu; subst hu; rfl) (by unfold maxLen; omega) (by omega) (by simp; omega) ?_); intro v' w1 hown' hgrow' _)
   have hb1:Below w.heap.size w w1:=below_appended (hbr.alloc hws _) (by simp; omega) (hor.row.alloc _) hgrow'
   rw [HE.out] at hown'
   obtain ⟨a',cap',rfl,ho⟩:=own_appended (ys:=[(eightI (n:Int)).getD (7 - q) 0]) hown' hor.byte (by simpa using snoc_byte (xs:=[]) (by simp) _ (eightI_byte (n:Int) (7 - q)))
   have e2:(eightI (n:Int)).take (8 - (q+1))++[(eightI (n:Int)).getD (7 - q) 0]=(eightI (n:Int)).take (8 - q):=by
    rw [show 8 - q=7 - q+1 by omega,show 8 - (q+1)=7 - q by omega,take_snoc _ _ (by rw [eightI_len]; omega)]
   rw [e2] at ho
   go_roundw
   case rel=>exact ⟨a',q,len+1,cap',by omega,by have:=HLe.out; omega,rfl,rfl,ho,hb1⟩
   case measure=>simp [intOf]
open Go.RowKit
structure GE where
 g:GT
 parts:List PT
instance:Inhabited GE:=⟨⟨⟨0,⟨#[]⟩,0,0⟩,[]⟩⟩
structure Cells5 (w:World)(b o:Nat)(an:Option Addr)(nn cn:Nat)(x:GE):Prop where
 c0:w.cell? ⟨b,o,none⟩=some (.int .i64 x.g.kind)
 c1:w.cell? ⟨b,o+1,none⟩=some (.string x.g.text)
 c2:w.cell? ⟨b,o+2,none⟩=some (.int .i64 x.g.addr)
 c3:w.cell? ⟨b,o+3,none⟩=some (.int .i64 x.g.bits)
 c4:w.cell? ⟨b,o+4,none⟩=some (.slice an nn cn)
theorem Cells5.of {w w':World}{b o:Nat}{a:Option Addr}{n c:Nat}{x:GE}(h:Cells5 w b o a n c x)(hc:∀ i,w'.cell? ⟨b,i,none⟩=w.cell? ⟨b,i,none⟩):Cells5 w' b o a n c x :=
 ⟨(hc _).trans h.c0,(hc _).trans h.c1,(hc _).trans h.c2,(hc _).trans h.c3,(hc _).trans h.c4⟩
structure Ges (w:World)(a:Option Addr)(n:Nat)(xs:List GE):Prop where
 len:xs.length=n
 max:n≤9223372036854775807
 get:∀ k,k<n→∃ b off an nn cn,a=some ⟨b,off,none⟩∧b<w.heap.size∧Cells5 w b (off+k * 5) an nn cn (xs.getD k default)∧Pts w an nn (xs.getD k default).parts∧(xs.getD k default).g.text.size≤9223372036854775807
theorem Ges.kept {w w':World}{a:Option Addr}{n:Nat}{xs:List GE}(h:Ges w a n xs)(hb:Below w.heap.size w w'):Ges w' a n xs:=by
 refine ⟨h.len,h.max,fun k hk=>?_⟩
 obtain ⟨b,off,an,nn,cn,ha,hlt,hc,hp,hs⟩:=h.get k hk
 exact ⟨b,off,an,nn,cn,ha,Nat.lt_of_lt_of_le hlt hb.size,hc.of (fun i=>hb.cell (p:=⟨b,i,none⟩) hlt),hp.kept hb,hs⟩
def GeOk (x:GE):Prop:=x.g.text.size≤1048576∧x.parts.length≤1048576∧∀ k,k<x.parts.length→(x.parts.getD k default).val.size≤1048576
theorem szGenNameS_any (a:Option Addr)(n cap:Nat)(xs:List GE)(lf:Int)(w:World)(h:Ges w a n xs)(hl0:0≤lf)(hl1:lf≤1048576) :
  Calls Tryz.prog 30 #[.slice a n cap,.int .i64 lf] w fun e w'=>∃ r,e=.returned (.int .i64 r)∧(r<0∨(0≤r∧r≤1048576∧n≤1048576∧∀ k,k<n→GeOk (xs.getD k default)))∧Below w.heap.size w w':=by
 have H0:Hid (Ges w a n xs):=h
 have hn:=h.max
 clear h
 by_cases hlt:(n:Int)≤lf
 ·go_enter Tryz.func30,Tryz.ntmps30
  go_wp2
  go_loopw [1,5] (fun l i wr=>∃ (k:Nat) (left:Int),k≤n∧i=.int .i64 k∧l=.int .i64 left∧0≤left∧left≤1048576∧Hid (∀ j,j<k→GeOk (xs.getD j default))∧Below w.heap.size w wr) (fun _ i _=>n - (intOf i).toNat)
  case atStart=>exact ⟨0,lf - n,Nat.zero_le _,rfl,rfl,by omega,by omega,fun j hj=>absurd hj (Nat.not_lt_zero _),Below.refl _ _⟩
  case round =>
   obtain ⟨k,left,hk,rfl,rfl,h0,h1,HA,hbr⟩:=hrel
   by_cases hkn:k<n
   ·obtain ⟨b,off,an,nn,cn,rfl,hlb,hc,hp,hs⟩:=H0.out.get k hkn
    obtain ⟨y,hy⟩:∃ y,y=xs.getD k default:=⟨_,rfl⟩
    rw [← hy] at hc hp hs
    have HY:Hid (y=xs.getD k default):=hy
    obtain ⟨c0,c1,c2,c3,c4⟩:=hc.of (w':=wr) (fun i=>hbr.cell (p:=⟨b,i,none⟩) hlb)
    have HP:Hid (Pts wr an nn y.parts):=hp.kept hbr
    have HN:Hid (y.parts.length=nn):=hp.len
    have hkni:(k:Int)<(n:Int):=by omega
    clear hc hy hp
    go_wp2_with fail
    refine (szGenName_any y.g an nn cn y.parts left _ HP.out hs h0 h1).mono ?_
    rintro e w2 ⟨r,rfl,hr,hb2⟩
    have hb2':Below w.heap.size w w2:=hbr.trans (hb2.mono hbr.size)
    by_cases hneg:r<0
    ·clear hr
     go_wp2
     go_ret
     exact ⟨_,rfl,.inl (by decide),hb2'⟩
    ·have hr1:0≤r:=by omega
     have hr2:r≤1048576:=by omega
     have HR:Hid (GeOk y):=by
      rcases hr with h | ⟨_,_,h3,h4,h5⟩
      ·exact absurd h hneg
      ·exact ⟨h3,by rw [HN.out]; exact h4,fun k hk=>h5 k (by rw [← HN.out]; exact hk)⟩
     clear hr
     go_wp2
     go_roundw
     case rel =>
      refine ⟨k+1,r,by omega,by go_num,rfl,hr1,hr2,fun j hj=>?_,hb2'⟩
      by_cases hjk:j=k
      ·subst hjk; rw [← HY.out]; exact HR.out
      ·exact HA.out j (by omega)
     case measure=>simp [intOf]; omega
   ·obtain rfl:n=k:=by omega
    go_wp2
    go_ret
    exact ⟨_,rfl,.inr ⟨h0,h1,by omega,HA.out⟩,hbr⟩
 ·go_enter Tryz.func30,Tryz.ntmps30
  go_wp2
  go_ret
  exact ⟨_,rfl,.inl (by decide),Below.refl _ _⟩
theorem eqGenNameS_same (a b:Option Addr)(n ca cb:Nat)(xs:List GE)(w:World)(h:Ges w a n xs)(h2:Ges w b n xs) :
  Calls Tryz.prog 49 #[.slice a n ca,.slice b n cb] w fun e w'=>e=.returned (.bool true)∧Below w.heap.size w w':=by
 have HK:Hid (Ges w a n xs):=h
 have HK2:Hid (Ges w b n xs):=h2
 have hn:=h.max
 clear h h2
 go_enter Tryz.func49,Tryz.ntmps49
 go_wp2
 go_loopw [5] (fun i wr=>∃ k:Nat,k≤n∧i=.int .i64 k∧Below w.heap.size w wr) (fun i _=>n - (intOf i).toNat)
 case atStart=>exact ⟨0,Nat.zero_le _,rfl,Below.refl _ _⟩
 case round =>
  obtain ⟨k,hk,rfl,hbr⟩:=hrel
  by_cases hkn:k<n
  ·obtain ⟨b1,off1,an,nn,cn,rfl,hl1,hc1,hp1,_⟩:=HK.out.get k hkn
   obtain ⟨b2,off2,am,mm,cm,rfl,hl2,hc2,hp2,_⟩:=HK2.out.get k hkn
   obtain ⟨y,hy⟩:∃ y,y=xs.getD k default:=⟨_,rfl⟩
   rw [← hy] at hc1 hc2 hp1 hp2
   clear hy
   obtain rfl:mm=nn:=by rw [← hp2.len,← hp1.len]
   obtain ⟨c0,c1,c2,c3,c4⟩:=hc1.of (w':=wr) (fun i=>hbr.cell (p:=⟨b1,i,none⟩) hl1)
   obtain ⟨d0,d1,d2,d3,d4⟩:=hc2.of (w':=wr) (fun i=>hbr.cell (p:=⟨b2,i,none⟩) hl2)
   have HP1:Hid (Pts wr.drew an mm y.parts):=hp1.kept hbr.drew
   have HP2:Hid (Pts wr.drew am mm y.parts):=hp2.kept hbr.drew
   have hkni:(k:Int)<(n:Int):=by omega
   have hs:=hbr.size
   clear hc1 hc2 hp1 hp2
   go_wp2_with fail
   go_region_with (go_at_call 113; refine (eqGenName_same y.g an am mm cn cm y.parts _ HP1.out HP2.out).mono ?_; rintro e w2 ⟨rfl,hb2⟩)
   all_goals
    have b5:Below w.heap.size w w2:=hbr.drew.trans (hb2.mono hs)
    go_wp2
    go_roundw
    case rel=>exact ⟨k+1,by omega,by go_num,b5⟩
    case measure=>simp [intOf]; omega
  ·go_wp2
   go_ret
   exact ⟨rfl,hbr⟩
open Go.RowKit
theorem szByteS_k (a:Option Addr)(n cap:Nat)(l:Int)(w:World)(hl0:0≤l)(hl:l≤1048576)(hn:n≤9223372036854775807) :
  Calls Tryz.prog 34 #[.slice a n cap,.int .i64 l] w fun e w'=>∃ r,e=.returned (.int .i64 r)∧(r<0∨(0≤r∧r≤1048576∧n≤1048576))∧w=w':=by
 by_cases hlt:(n:Int)≤l
 ·go_enter Tryz.func34,Tryz.ntmps34
  go_wp2
  go_ret
  exact ⟨_,rfl,.inr (by omega),rfl⟩
 ·go_enter Tryz.func34,Tryz.ntmps34
  go_wp2
  go_ret
  exact ⟨_,rfl,.inl (by decide),rfl⟩
open Go.RowKit
def Stab (B:Nat)(R:World→Prop):Prop:=∀ W W':World,(∀ l,B≤l→l<W.heap.size→W'.heap[l]? = W.heap[l]?)→W.heap.size≤W'.heap.size→R W→R W'
theorem stab_and {B:Nat}{R Q:World→Prop}(h:Stab B R)(k:Stab B Q):Stab B (fun W=>R W∧Q W):=fun W W' e s r=>⟨h W W' e s r.1,k W W' e s r.2⟩
theorem pts_move {B g n:Nat}{xs:List PT}(hB:B≤g)(W W':World)(e:∀ l,B≤l→l<W.heap.size→W'.heap[l]? = W.heap[l]?)(s:W.heap.size≤W'.heap.size)(h:Pts W (some ⟨g,0,none⟩) n xs):Pts W' (some ⟨g,0,none⟩) n xs:=by
 refine ⟨h.len,h.max,fun k hk=>?_⟩
 obtain ⟨b,off,ha,hlt,hc,hn⟩:=h.get k hk
 simp only [Option.some.injEq,Addr.mk.injEq,and_true] at ha
 obtain ⟨rfl,rfl⟩:=ha
 exact ⟨g,0,rfl,Nat.lt_of_lt_of_le hlt s,hc.of (fun i=>by simp [World.cell?,e g hB hlt]),hn⟩
theorem stab_pts {B g n:Nat}{xs:List PT}(hB:B≤g):Stab B (fun W=>Pts W (some ⟨g,0,none⟩) n xs):=fun W W' e s h=>pts_move hB W W' e s h
theorem stab_own {B B':Nat}{a:Option Addr}{n cap:Nat}{bs:List Int}(hB:B≤B'):Stab B (fun W=>Own B' W a n cap bs):=fun W W' e s h=>by
 refine ⟨⟨h.row.1,?_⟩,h.byte⟩
 rcases h.row.2 with q | ⟨g,c,cur,h1,hb,hg,r⟩
 ·exact .inl q
 ·exact .inr ⟨g,c,cur,h1,hb,(e g (by omega) (Array.getElem?_eq_some_iff.1 hg).1).trans hg,r⟩
open Go.RowKit
def calledP (xs:List PT):Prop:=nameP xs∧xs≠[]
end Go.Proofs.YtmdfbnlgfhjnoaaGreatDoor
