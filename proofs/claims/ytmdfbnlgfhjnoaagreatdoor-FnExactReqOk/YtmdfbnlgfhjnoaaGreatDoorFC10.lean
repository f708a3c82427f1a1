import Derived.Lib.SplitLaws
import Derived.Lib.Split
import Derived.Test.YtmdfbnlgfhjnoaaGreatDoorFC03
import Derived.Test.YtmdfbnlgfhjnoaaGreatDoorFC08
import Derived.Test.YtmdfbnlgfhjnoaaGreatDoorFC09
set_option maxRecDepth 10000
set_option maxHeartbeats 8000000
set_option linter.unusedVariables false
namespace Go.Proofs.YtmdfbnlgfhjnoaaGreatDoor
open Go.RowKit
def expP (x:Int):Prop:=0≤x∧x≤500000002
instance (x:Int):Decidable (expP x):=by unfold expP; infer_instance
def gp (b e:Int):Int:=pw b e.toNat 1000000007
theorem gp_bd (b e:Int):0≤gp b e∧gp b e<1000000007:=mod_bd _ (by decide)
def memP (y:Int):Prop:=(1≤y∧y≤1000000006)∧gp y 500000003=1
def keyP (y:Int):Prop:=memP y∧y≠1
instance (x:Int):Decidable (memP x):=by unfold memP; infer_instance
instance (x:Int):Decidable (keyP x):=by unfold keyP; infer_instance
theorem isExponent_any (x:Int)(w:World):Calls Tryz.prog 272 #[.int .i64 x] w fun r w'=>r=.returned (.bool (decide (expP x)))∧w'=w:=by
 by_cases h:expP x
 ·rw [decide_eq_true h]
  go_enter Tryz.func272,Tryz.ntmps272
  go_wp2_with fail
  refine (inBounds_t x 0 500000002 _ h).mono ?_
  rintro r w1 ⟨rfl,rfl⟩
  go_wp2
  go_ret
  exact ⟨rfl,rfl⟩
 ·rw [decide_eq_false h]
  go_enter Tryz.func272,Tryz.ntmps272
  go_wp2_with fail
  refine (inBounds_f x 0 500000002 _ h).mono ?_
  rintro r w1 ⟨rfl,rfl⟩
  go_wp2
  go_ret
  exact ⟨rfl,rfl⟩
theorem l7Exp_any (x:Int)(w:World):Calls Tryz.prog 163 #[.int .i64 x] w fun r w'=>r=.returned (.bool (decide (expP x)))∧w'=w:=by
 by_cases h:expP x
 ·rw [decide_eq_true h]
  go_enter Tryz.func163,Tryz.ntmps163
  go_wp2_with fail
  refine (l1In_t x 0 500000002 _ h).mono ?_
  rintro r w1 ⟨rfl,rfl⟩
  go_wp2
  go_ret
  exact ⟨rfl,rfl⟩
 ·rw [decide_eq_false h]
  go_enter Tryz.func163,Tryz.ntmps163
  go_wp2_with fail
  refine (l1In_f x 0 500000002 _ h).mono ?_
  rintro r w1 ⟨rfl,rfl⟩
  go_wp2
  go_ret
  exact ⟨rfl,rfl⟩
theorem power_any (b e:Int)(w:World)(hb:0≤b)(hb':b≤1000000006)(he:0≤e)(he':e≤9223372036854775807) :
  Calls Tryz.prog 275 #[.int .i64 b,.int .i64 e] w fun r w'=>r=.returned (.int .i64 (gp b e))∧w'=w:=by
 have HV:Hid (powV b e 1000000007=(gp b e,true)):=by show _=_; unfold powV; rw [if_pos ⟨by decide,⟨hb,by omega⟩,he⟩]; rfl
 go_enter Tryz.func275,Tryz.ntmps275
 go_wp2_with fail
 refine (implPowMod_any b e 1000000007 _ he').mono ?_
 rintro r w1 ⟨rfl,rfl⟩
 rw [HV.out,pair]
 go_wp2
 go_ret
 exact ⟨rfl,rfl⟩
theorem l7PowP_any (b e:Int)(w:World)(hb:0≤b)(hb':b≤1000000006)(he:0≤e)(he':e≤9223372036854775807) :
  Calls Tryz.prog 164 #[.int .i64 b,.int .i64 e,.int .i64 1000000007] w fun r w'=>r=.returned (.int .i64 (gp b e))∧w'=w :=
 l7Pow_any b e 1000000007 w (by decide) (by decide) hb (by omega) he he'
theorem prod_bd {a b m:Int}(ha:0≤a)(ha':a<m)(hb:0≤b)(hb':b<m)(hm:m≤1000000007):0≤a * b∧a * b≤1000000014000000049:=by
 refine ⟨Int.mul_nonneg ha hb,?_⟩
 have h1:a * b≤1000000007 * b:=Int.mul_le_mul_of_nonneg_right (by omega) hb
 omega
theorem isMember_any (y:Int)(w:World):Calls Tryz.prog 271 #[.int .i64 y] w fun r w'=>r=.returned (.bool (decide (memP y)))∧w'=w:=by
 by_cases h:1≤y∧y≤1000000006
 ·have HV:Hid ((gp y 500000003 == 1)=decide (memP y)):=by
   show _=_
   by_cases h2:gp y 500000003=1
   ·rw [decide_eq_true ⟨h,h2⟩,beq_iff_eq.2 h2]
   ·rw [decide_eq_false (fun hh=>h2 hh.2),beq_false_of_ne h2]
  go_enter Tryz.func271,Tryz.ntmps271
  go_wp2_with fail
  refine (inBounds_t y 1 1000000006 _ h).mono ?_
  rintro r w1 ⟨rfl,rfl⟩
  go_wp2_with fail
  refine (power_any y 500000003 _ (by omega) h.2 (by decide) (by decide)).mono ?_
  rintro r w1 ⟨rfl,rfl⟩
  go_wp2
  go_ret
  exact ⟨by rw [← HV.out]; rfl,rfl⟩
 ·rw [decide_eq_false (fun hh=>h hh.1)]
  go_enter Tryz.func271,Tryz.ntmps271
  go_wp2_with fail
  refine (inBounds_f y 1 1000000006 _ h).mono ?_
  rintro r w1 ⟨rfl,rfl⟩
  go_wp2
  go_ret
  exact ⟨rfl,rfl⟩
theorem l7Member_any (y:Int)(w:World):Calls Tryz.prog 126 #[.int .i64 y] w fun r w'=>r=.returned (.bool (decide (memP y)))∧w'=w:=by
 by_cases h:1≤y∧y≤1000000006
 ·have HV:Hid ((gp y 500000003 == 1)=decide (memP y)):=by
   show _=_
   by_cases h2:gp y 500000003=1
   ·rw [decide_eq_true ⟨h,h2⟩,beq_iff_eq.2 h2]
   ·rw [decide_eq_false (fun hh=>h2 hh.2),beq_false_of_ne h2]
  go_enter Tryz.func126,Tryz.ntmps126
  go_wp2_with fail
  refine (l1In_t y 1 1000000006 _ h).mono ?_
  rintro r w1 ⟨rfl,rfl⟩
  go_wp2_with fail
  refine (l7PowP_any y 500000003 _ (by omega) h.2 (by decide) (by decide)).mono ?_
  rintro r w1 ⟨rfl,rfl⟩
  go_wp2
  go_ret
  exact ⟨by rw [← HV.out]; rfl,rfl⟩
 ·rw [decide_eq_false (fun hh=>h hh.1)]
  go_enter Tryz.func126,Tryz.ntmps126
  go_wp2_with fail
  refine (l1In_f y 1 1000000006 _ h).mono ?_
  rintro r w1 ⟨rfl,rfl⟩
  go_wp2
  go_ret
  exact ⟨rfl,rfl⟩
theorem isKey_any (y:Int)(w:World):Calls Tryz.prog 268 #[.int .i64 y] w fun r w'=>r=.returned (.bool (decide (keyP y)))∧w'=w:=by
 by_cases h:y=1
 ·rw [decide_eq_false (fun hh=>hh.2 h)]
  have z:(y != 1)=false:=by simp [h]
  clear h
  go_enter Tryz.func268,Tryz.ntmps268
  go_wp2
  go_ret
  exact ⟨rfl,rfl⟩
 ·have HV:Hid (decide (memP y)=decide (keyP y)):=by
   show _=_
   exact decide_eq_decide.2 ⟨fun hh=>⟨hh,h⟩,fun hh=>hh.1⟩
  have z:(y != 1)=true:=by simp [h]
  clear h
  go_enter Tryz.func268,Tryz.ntmps268
  go_wp2_with fail
  refine (isMember_any y _).mono ?_
  rintro r w1 ⟨rfl,rfl⟩
  go_wp2
  go_ret
  exact ⟨by rw [← HV.out]; rfl,rfl⟩
def movN (r y a b:Int):Int:=r * gp 4 a % 1000000007 * gp y (500000003 - b) % 1000000007
theorem movN_one (y a b:Int):movN 1 y a b=gp 4 a * gp y (500000003 - b) % 1000000007:=by
 unfold movN
 rw [Int.one_mul,Int.emod_eq_of_lt (gp_bd 4 a).1 (gp_bd 4 a).2]
theorem moved_any (r y a b:Int)(w:World)(hr:0≤r)(hr':r≤1000000006)(hy:0≤y)(hy':y≤1000000006)(ha:expP a)(hb:expP b) :
  Calls Tryz.prog 274 #[.int .i64 r,.int .i64 y,.int .i64 a,.int .i64 b] w fun e w'=>e=.returned (.int .i64 (movN r y a b))∧w'=w:=by
 obtain ⟨ha0,ha1⟩:=ha
 obtain ⟨hb0,hb1⟩:=hb
 have HV:Hid (r * gp 4 a % 1000000007 * gp y (500000003 - b) % 1000000007=movN r y a b):=rfl
 obtain ⟨h10,h11⟩:=gp_bd 4 a
 obtain ⟨h20,h21⟩:=gp_bd y (500000003 - b)
 obtain ⟨hp0,hp1⟩:=prod_bd hr (show r<1000000007 by omega) h10 h11 (Int.le_refl _)
 obtain ⟨hm0,hm1⟩:=mod_bd (r * gp 4 a) (show (1:Int)≤1000000007 by decide)
 obtain ⟨hq0,hq1⟩:=prod_bd hm0 hm1 h20 h21 (Int.le_refl _)
 go_enter Tryz.func274,Tryz.ntmps274
 go_wp2_with fail
 refine (power_any 4 a _ (by decide) (by decide) ha0 (by omega)).mono ?_
 rintro e w1 ⟨rfl,rfl⟩
 go_wp2_with fail
 refine (power_any y (500000003 - b) _ hy hy' (by omega) (by omega)).mono ?_
 rintro e w1 ⟨rfl,rfl⟩
 go_wp2
 go_ret
 exact ⟨by rw [← HV.out]; rfl,rfl⟩
open Go.RowKit
theorem l6Label_any (s:ByteArray)(w:World):Calls Tryz.prog 205 #[.string s] w (SaysW (labP s) w):=by
 by_cases c1:(s.size:Int)<1
 ·have HN:Hid (¬ labP s):=fun h=>by have:=h.1.1; omega
  go_enter Tryz.func205,Tryz.ntmps205
  go_wp2
  go_ret
  exact saysW_f HN.out
 by_cases c2:20<(s.size:Int)
 ·have HN:Hid (¬ labP s):=fun h=>by have:=h.1.2; omega
  go_enter Tryz.func205,Tryz.ntmps205
  go_wp2
  go_ret
  exact saysW_f HN.out
 obtain ⟨m,hm⟩:∃ m:Nat,s.size=m+1:=⟨s.size - 1,by omega⟩
 have h0:0<s.size:=by omega
 have hl:m<s.size:=by omega
 have x0:=cAt_get s 0 h0
 have x1:=cAt_get s m hl
 have HM:Hid (s.size - 1=m):=by show _=_; omega
 have e1:(s.size:Int) - 1=(m:Int):=by omega
 clear hm
 by_cases c3:(s[0].toNat:Int)=45
 ·have HN:Hid (¬ labP s):=fun h=>h.2.1.1 (by rw [x0]; exact c3)
  have z0:((s[0].toNat:Int) == 45)=true:=beq_iff_eq.2 c3
  clear c3 x0 x1
  go_enter Tryz.func205,Tryz.ntmps205
  go_wp2
  go_ret
  exact saysW_f HN.out
 have z0:((s[0].toNat:Int) == 45)=false:=beq_false_of_ne c3
 by_cases c4:(s[m].toNat:Int)=45
 ·have HN:Hid (¬ labP s):=fun h=>h.2.1.2 (by rw [HM.out,x1]; exact c4)
  have z1:((s[m].toNat:Int) == 45)=true:=beq_iff_eq.2 c4
  clear c3 c4 x0 x1
  go_enter Tryz.func205,Tryz.ntmps205
  go_wp2
  go_ret
  exact saysW_f HN.out
 have z1:((s[m].toNat:Int) == 45)=false:=beq_false_of_ne c4
 have HO:Hid ((1≤s.size∧s.size≤20)∧(cAt s 0≠45∧cAt s (s.size - 1)≠45)):=⟨⟨by omega,by omega⟩,by rw [x0]; exact c3,by rw [HM.out,x1]; exact c4⟩
 clear c3 c4 x0 x1
 go_enter Tryz.func205,Tryz.ntmps205
 go_wp2
 clear e1
 go_loopw [3] (fun i wr=>∃ k:Nat,k≤s.size∧i=.int .i64 k∧Hid (allB labB s k)∧w=wr) (fun i _=>s.size - (intOf i).toNat)
 case atStart=>exact ⟨0,Nat.zero_le _,rfl,(fun j hj=>absurd hj (Nat.not_lt_zero _)),rfl⟩
 case round =>
  obtain ⟨k,hk,rfl,HP,rfl⟩:=hrel
  by_cases hlt:k<s.size
  ·have hx:=cAt_get s k hlt
   have GOOD:Hid (labB (s[k].toNat:Int)→allB labB s (k+1)):=fun h=>allB_succ HP.out (by rw [hx]; exact h)
   have BAD:Hid (¬ labB (s[k].toNat:Int)→¬ labP s):=fun h q=>h (by rw [← hx]; exact q.2.2 k hlt)
   clear HP hx
   by_cases hb:labB (s[k].toNat:Int)
   ·have HN:Hid (allB labB s (k+1)):=GOOD.out hb
    have hc:(97≤(s[k].toNat:Int)∧(s[k].toNat:Int)≤122)∨((s[k].toNat:Int)<97∧48≤(s[k].toNat:Int)∧(s[k].toNat:Int)≤57)∨((s[k].toNat:Int)<97∧(s[k].toNat:Int)<48∧((s[k].toNat:Int) == 45)=true):=by
     rcases hb with (hb | hb) | hb
     ·exact .inl hb
     ·exact .inr (.inl ⟨by omega,hb.1,hb.2⟩)
     ·exact .inr (.inr ⟨by omega,by omega,beq_iff_eq.2 hb⟩)
    clear GOOD BAD hb
    rcases hc with ⟨q1,q2⟩ | ⟨q1,q2,q3⟩ | ⟨q1,q2,q3⟩
    all_goals
     go_wp2
     go_roundw
     case rel=>exact ⟨k+1,by omega,by go_num,HN,by trivial⟩
     case measure=>simp [intOf]; omega
   ·have HN:Hid (¬ labP s):=BAD.out hb
    have z5:((s[k].toNat:Int) == 45)=false:=beq_false_of_ne (fun h=>hb (.inr h))
    have hc:(97≤(s[k].toNat:Int)∧decide ((s[k].toNat:Int)≤122)=false∧48≤(s[k].toNat:Int)∧decide ((s[k].toNat:Int)≤57)=false)∨((s[k].toNat:Int)<97∧48≤(s[k].toNat:Int)∧decide ((s[k].toNat:Int)≤57)=false)∨((s[k].toNat:Int)<97∧(s[k].toNat:Int)<48):=by
     unfold labB wordB at hb
     by_cases q:97≤(s[k].toNat:Int)
     ·exact .inl ⟨q,decide_eq_false (by omega),by omega,decide_eq_false (by omega)⟩
     ·by_cases q2:48≤(s[k].toNat:Int)
      ·exact .inr (.inl ⟨by omega,q2,decide_eq_false (by omega)⟩)
      ·exact .inr (.inr ⟨by omega,by omega⟩)
    clear GOOD BAD hb
    rcases hc with ⟨q1,q2,q3,q4⟩ | ⟨q1,q2,q3⟩ | ⟨q1,q2⟩
    all_goals
     go_wp2
     go_ret
     exact saysW_f HN.out
  ·obtain rfl:k=s.size:=by omega
   have HN:Hid (labP s):=⟨HO.out.1,HO.out.2,HP.out⟩
   clear HP
   go_wp2
   go_ret
   exact saysW_t HN.out
open Go.RowKit
def pcs (s:ByteArray)(c:Int):Nat→Nat→Nat→List ByteArray
 | 0,f,i=>[s.extract f i]
 | k+1,f,i=>if cAt s i=c then s.extract f i::pcs s c k (i+1) (i+1) else pcs s c k f (i+1)
def cutAt (s:ByteArray)(c:Int):List ByteArray:=pcs s c s.size 0 0
theorem occ_one (l:List UInt8)(c:UInt8)(j:Nat):Lib.occAt l [c] j=true↔l[j]? = some c:=by
 unfold Lib.occAt
 rw [← List.head?_drop]
 cases l.drop j with
 | nil=>simp
 | cons a r =>
  simp only [List.isPrefixOf,List.head?_cons,Bool.and_true,beq_iff_eq,Option.some.injEq]
  exact eq_comm
theorem cAt_some {s:ByteArray}{c:UInt8}{j:Nat}(hj:j<s.size):s.data.toList[j]? = some c↔cAt s j=(c.toNat:Int):=by
 have h':j<s.data.toList.length:=by simpa using hj
 unfold cAt
 rw [List.getD_eq_getElem?_getD,List.getElem?_eq_getElem h']
 simp only [Option.some.injEq,Option.getD_some]
 constructor
 ·intro h; rw [h]
 ·intro h; exact UInt8.toNat_inj.1 (by omega)
theorem ext_get (s:ByteArray)(f j:Nat):(s.extract f s.size).data.toList[j]? = s.data.toList[f+j]?:=by
 rw [Lib.extract_data,List.getElem?_take,List.getElem?_drop]
 split
 ·rfl
 ·rw [List.getElem?_eq_none]
  rw [Lib.size_eq] at *
  omega
theorem ext_ext (s:ByteArray)(f a b:Nat)(hf:f+b≤s.size):(s.extract f s.size).extract a b=s.extract (f+a) (f+b):=by
 rw [Lib.extract_eq,Lib.extract_data,Lib.extract_eq]
 congr 2
 rw [Lib.size_eq] at hf
 apply List.ext_getElem?
 intro j
 simp only [List.getElem?_take,List.getElem?_drop,Lib.size_eq]
 by_cases h:j<b - a
 ·rw [if_pos h,if_pos (by omega),if_pos (by omega),Nat.add_assoc]
 ·rw [if_neg h,if_neg (by omega)]
theorem ext_size (s:ByteArray)(f:Nat):(s.extract f s.size).size=s.size - f:=by
 rw [Lib.size_eq,Lib.extract_data,List.length_take,List.length_drop,Lib.size_eq]; omega
theorem split_pcs (s sep:ByteArray)(cb:UInt8)(hsep:sep.data.toList = [cb]):∀ (k f i:Nat),i+k=s.size→f≤i→(∀ j,f≤j→j<i→cAt s j≠(cb.toNat:Int)) →
  Lib.splitB sep 0 (Lib.countB (s.extract f s.size) sep) (s.extract f s.size)=pcs s (cb.toNat:Int) k f i
 | 0,f,i,hi,hf,hno=>by
  have e:i=s.size:=by omega
  subst e
  have hx:Lib.indexB (s.extract f s.size) sep = -1:=by
   show Lib.index _ _=_
   rw [hsep]
   refine Lib.index_none fun j _=>?_
   rw [Bool.eq_false_iff]
   intro h
   rw [occ_one,ext_get] at h
   have hl:f+j<s.data.toList.length:=(List.getElem?_eq_some_iff.1 h).1
   rw [← Lib.size_eq] at hl
   exact hno (f+j) (by omega) hl ((cAt_some hl).1 h)
  rw [Lib.splitB_miss _ _ _ _ hx]
  rfl
 | k+1,f,i,hi,hf,hno=>by
  have hlt:i<s.size:=by omega
  unfold pcs
  by_cases hc:cAt s i=(cb.toNat:Int)
  ·rw [if_pos hc]
   have hsz:sep.size=1:=by rw [Lib.size_eq,hsep]; rfl
   have hx:Lib.indexB (s.extract f s.size) sep=((i - f:Nat):Int):=by
    show Lib.index _ _=_
    rw [hsep]
    refine Lib.index_first ?_ ?_ ?_
    ·rw [← Lib.size_eq,ext_size]; omega
    ·rw [occ_one,ext_get,show f+(i - f)=i by omega]
     exact (cAt_some hlt).2 hc
    ·intro j hj
     rw [Bool.eq_false_iff]
     intro h
     rw [occ_one,ext_get] at h
     exact hno (f+j) (by omega) (by omega) ((cAt_some (by omega)).1 h)
   have e1:(s.extract f s.size).extract (i - f+sep.size) (s.extract f s.size).size=s.extract (i+1) s.size:=by
    rw [ext_size,hsz,ext_ext _ _ _ _ (by omega)]
    congr 1 <;> omega
   have e2:(s.extract f s.size).extract 0 (i - f+0)=s.extract f i:=by
    rw [ext_ext _ _ _ _ (by omega)]
    congr 1 <;> omega
   rw [Lib.countB_hit _ _ _ (by omega) hx,Nat.add_comm,Lib.splitB_hit _ _ _ _ _ hx,e1,e2]
   rw [split_pcs s sep cb hsep k (i+1) (i+1) (by omega) (Nat.le_refl _) (fun j h1 h2=>by omega)]
  ·rw [if_neg hc]
   exact split_pcs s sep cb hsep k f (i+1) (by omega) (by omega) (fun j h1 h2=>by
    by_cases e:j=i
    ·rw [e]; exact hc
    ·exact hno j h1 (by omega))
theorem ext_whole (s:ByteArray):s.extract 0 s.size=s:=by
 rw [Lib.extract_eq,List.drop_zero,Nat.sub_zero,Lib.size_eq,List.take_length,Lib.mk_data]
theorem split_cut (s sep:ByteArray)(cb:UInt8)(hsep:sep.data.toList = [cb]):Lib.splitB sep 0 (Lib.countB s sep) s=cutAt s (cb.toNat:Int):=by
 have h:=split_pcs s sep cb hsep s.size 0 0 (by omega) (Nat.le_refl _) (fun j h1 h2=>by omega)
 rw [ext_whole] at h
 exact h
theorem split_len (s sep:ByteArray)(cb:UInt8)(hsep:sep.data.toList = [cb]):(cutAt s (cb.toNat:Int)).length=Lib.countB s sep+1:=by
 rw [← split_cut s sep cb hsep]
 exact Lib.splitB_all sep (by rw [Lib.size_eq,hsep]; exact Nat.le_refl _) 0 _ s rfl
theorem pcs_len (s:ByteArray)(c:Int):∀ k f i,1≤(pcs s c k f i).length∧(pcs s c k f i).length≤k+1
 | 0,_,_=>by simp [pcs]
 | k+1,f,i=>by
  unfold pcs
  have h1:=pcs_len s c k (i+1) (i+1)
  have h2:=pcs_len s c k f (i+1)
  split
  ·simp only [List.length_cons]; omega
  ·omega
theorem cutAt_len (s:ByteArray)(c:Int):1≤(cutAt s c).length∧(cutAt s c).length≤s.size+1:=pcs_len s c _ _ _
def CutInv (s:ByteArray)(c:Int)(L:List ByteArray)(f i:Nat):Prop :=
 (i≤s.size∧f≤i∧L++pcs s c (s.size - i) f i=cutAt s c)∨(s.size<i∧L=cutAt s c)
theorem CutInv.start (s:ByteArray)(c:Int):CutInv s c [] 0 0:=.inl ⟨Nat.zero_le _,Nat.le_refl _,rfl⟩
theorem CutInv.hit {s:ByteArray}{c:Int}{L:List ByteArray}{f i:Nat}(h:CutInv s c L f i)(hi:i<s.size)(hc:cAt s i=c):CutInv s c (L++[s.extract f i]) (i+1) (i+1):=by
 rcases h with ⟨h1,h2,h3⟩ | ⟨h1,_⟩
 ·refine .inl ⟨by omega,Nat.le_refl _,?_⟩
  rw [← h3,show s.size - i=(s.size - (i+1))+1 by omega,pcs,if_pos hc,List.append_assoc]
  rfl
 ·omega
theorem CutInv.miss {s:ByteArray}{c:Int}{L:List ByteArray}{f i:Nat}(h:CutInv s c L f i)(hi:i<s.size)(hc:¬ cAt s i=c):CutInv s c L f (i+1):=by
 rcases h with ⟨h1,h2,h3⟩ | ⟨h1,_⟩
 ·refine .inl ⟨by omega,by omega,?_⟩
  rw [← h3,show s.size - i=(s.size - (i+1))+1 by omega,pcs,if_neg hc]
 ·omega
theorem CutInv.last {s:ByteArray}{c:Int}{L:List ByteArray}{f:Nat}(h:CutInv s c L f s.size):CutInv s c (L++[s.extract f s.size]) (s.size+1) (s.size+1):=by
 rcases h with ⟨h1,h2,h3⟩ | ⟨h1,_⟩
 ·refine .inr ⟨by omega,?_⟩
  rw [← h3,Nat.sub_self]
  rfl
 ·omega
theorem CutInv.done {s:ByteArray}{c:Int}{L:List ByteArray}{f i:Nat}(h:CutInv s c L f i)(hi:s.size<i):L=cutAt s c:=by
 rcases h with ⟨h1,_⟩ | ⟨_,h2⟩
 ·omega
 ·exact h2
theorem CutInv.from_le {s:ByteArray}{c:Int}{L:List ByteArray}{f i:Nat}(h:CutInv s c L f i)(hi:i≤s.size):f≤i:=by
 rcases h with ⟨_,h2,_⟩ | ⟨h1,_⟩
 ·exact h2
 ·omega
open Go.RowKit
structure Rows2 (w:World)(a:Option Addr)(n:Nat)(bss:List (List Int)):Prop where
 len:bss.length=n
 get:∀ k,k<n→∃ b off,a=some ⟨b,off,none⟩∧b<w.heap.size∧∃ ak nk ck,w.cell? ⟨b,off+k,none⟩=some (.slice ak nk ck)∧Row w ak nk (bss.getD k [])∧(ak=none→ck=0)
def total (bss:List (List Int)):Nat:=(bss.map List.length).sum
def encParts (bss:List (List Int)):List Int:=bss.flatMap fun p=>putN p.length++p
def partsL (bss:List (List Int)):List Int:=putN bss.length++encParts bss
theorem encParts_nil:encParts [] = []:=rfl
theorem encParts_append (a b:List (List Int)):encParts (a++b)=encParts a++encParts b:=by simp [encParts,List.flatMap_append]
theorem encParts_next (bss:List (List Int))(k:Nat)(h:k<bss.length):encParts (bss.take (k+1))=encParts (bss.take k)++(putN (bss.getD k []).length++bss.getD k []):=by
 have e:bss.getD k []=bss[k]:=by simp [h]
 rw [List.take_succ_eq_append_getElem h,encParts_append,e]
 simp [encParts]
theorem total_take (bss:List (List Int))(k:Nat):total (bss.take k)≤total bss:=by
 have:total bss=total (bss.take k)+total (bss.drop k):=by
  unfold total
  rw [← List.sum_append,← List.map_append,List.take_append_drop]
 omega
theorem total_split (bss:List (List Int))(k:Nat)(h:k<bss.length):total (bss.take (k+1))=total (bss.take k)+(bss.getD k []).length:=by
 have e:bss.getD k []=bss[k]:=by simp [h]
 rw [List.take_succ_eq_append_getElem h,e]
 unfold total
 rw [List.map_append,List.sum_append]
 rfl
theorem part_le (bss:List (List Int))(k:Nat)(h:k<bss.length){t:Nat}(ht:total bss≤t):(bss.getD k []).length≤t:=by
 have h1:=total_split bss k h
 have h2:=total_take bss (k+1)
 omega
theorem encParts_len1 (bss:List (List Int))(h:∀ p∈bss,p.length<9223372036854775808):(encParts bss).length≤9 * bss.length+total bss:=by
 induction bss with
 | nil=>simp [encParts,total]
 | cons p r ih =>
  have h1:=ih (fun x hx=>h x (List.mem_cons_of_mem _ hx))
  have h2:(putN p.length).length≤9:=by rw [putN,putL_len]; exact cnt_le _ (h p List.mem_cons_self)
  have e:encParts (p::r)=putN p.length++p++encParts r:=rfl
  have e2:total (p::r)=p.length+total r:=by simp [total]
  rw [e,e2,List.length_append,List.length_append,List.length_cons]; omega
theorem encParts_len (bss:List (List Int))(k n:Nat)(hl:bss.length=n)(ht:total bss≤2097152):(encParts (bss.take k)).length≤9 * n+2097152:=by
 have h1:=encParts_len1 (bss.take k) (fun p hp=>by
  obtain ⟨i,hi,rfl⟩:=List.getElem_of_mem (List.mem_of_mem_take hp)
  have:=part_le bss i hi ht
  simp [hi] at this
  omega)
 have h2:=total_take bss k
 have h3:(bss.take k).length≤n:=by rw [List.length_take]; omega
 omega
theorem specHashAll_any (a:Option Addr)(n cap:Nat)(bss:List (List Int))(w:World)(h:Rows2 w a n bss)(hn:n≤2097152)(ht:total bss≤2097152) :
  Calls Tryz.prog 185 #[.slice a n cap] w fun e w'=>e=.returned (.int .u64 (hashL (partsL bss)))∧Below w.heap.size w w':=by
 obtain ⟨i0,hi,hz0,hz1,hz2⟩:=info_parts Tryz.info5
 have H0:Hid (Rows2 w a n bss):=h
 have HL:Hid (bss.length=n):=h.len
 have HT:Hid (total bss≤2097152):=ht
 clear h ht
 go_enter Tryz.func185,Tryz.ntmps185
 go_wp2_with fail
 refine (specPutNum_any (n:Int) _ (by omega)).mono ?_
 rintro e w1 ⟨a1,c1,rfl,ho1,hb1⟩
 have hp1:putI (n:Int)=putN n:=by rw [putI,if_neg (by omega),Int.toNat_natCast]
 rw [hp1] at ho1 ⊢
 have hpn:(putN n).length≤9:=by rw [putN,putL_len]; exact cnt_le n (by omega)
 obtain ⟨m0,hm0⟩:∃ m0,m0=(putN n).length:=⟨_,rfl⟩
 rw [← hm0] at ho1 hpn ⊢
 clear hp1 hm0
 go_wp2
 go_loopw [3,4] (fun o i wr=>∃ (k m c:Nat) (ao:Option Addr),k≤n∧i=.int .i64 k∧o=.slice ao m c∧Own w.heap.size wr ao m c (putN n++encParts (bss.take k))∧Below w.heap.size w wr) (fun _ i _=>n - (intOf i).toNat)
 case atStart=>exact ⟨0,m0,c1,a1,Nat.zero_le _,rfl,rfl,by rw [List.take_zero,encParts_nil,List.append_nil]; exact ho1,hb1⟩
 case round =>
  obtain ⟨k,m,c,ao,hk,rfl,rfl,hor,hbr⟩:=hrel
  have hws:=hbr.size
  have hmb:m≤9+9 * n+2097152:=by
   have h1:=hor.length
   rw [List.length_append] at h1
   have h2:=encParts_len bss k n HL.out HT.out
   have h3:(putN n).length≤9:=by rw [putN,putL_len]; exact cnt_le n (by omega)
   omega
  by_cases hlt:k<n
  ·obtain ⟨b,off,rfl,hb,ak,nk,ck,hc,hrk,hnk⟩:=H0.out.get k hlt
   have hcr:wr.cell? ⟨b,off+k,none⟩=some (.slice ak nk ck):=(hbr.cell (p:=⟨b,off+k,none⟩) hb).trans hc
   clear hc
   have hkl:k<bss.length:=by have:=HL.out; omega
   have hpk:nk≤2097152:=by rw [← hrk.len]; exact part_le bss k hkl HT.out
   have hnki:(nk:Int)≤2097152:=by omega
   go_wp2_with fail
   refine (specPutNum_any (nk:Int) _ (by omega)).mono ?_
   rintro e w2 ⟨a2,c2,rfl,ho2,hb2⟩
   have hp2:putI (nk:Int)=putN nk:=by rw [putI,if_neg (by omega),Int.toNat_natCast]
   rw [hp2] at ho2 ⊢
   have hpn2:(putN nk).length≤9:=by rw [putN,putL_len]; exact cnt_le nk (by omega)
   obtain ⟨m2,hm2⟩:∃ m2,m2=(putN nk).length:=⟨_,rfl⟩
   rw [← hm2] at ho2 hpn2 ⊢
   have hs2:=hb2.size
   have hor2:=hor.kept hb2
   have hbr2:Below w.heap.size w w2:=hbr.trans (hb2.mono hws)
   have hcr2:w2.cell? ⟨b,off+k,none⟩=some (.slice ak nk ck):=(hb2.cell (p:=⟨b,off+k,none⟩) (by show b<_; omega)).trans hcr
   have hrk2:Row w2 ak nk (bss.getD k []):=hrk.kept hbr2
   clear hp2 hm2 hor hbr hb2 hcr
   go_wp2_with (first | (at_builtin; refine wpList_append_row _ rfl (.tmp 14) (.tmp 20) 32 rfl w.heap.size i0 Tryz.underlying32 hi hz0 hz1 hz2 _ _ _ rfl hor2.row a2 m2 c2 (putN nk) rfl ho2.toRow ho2.nil (by omega) (by omega) ?_; intro v3 w3 hv3 hg3; obtain ⟨a3,c3,rfl,ho3⟩:=own_appended (ys:=putN nk) hv3 hor2.byte ho2.byte; have hbr3:Below w.heap.size w w3:=below_appended hbr2 (by omega) hor2.row hg3; have hcr3:w3.cell? ⟨b,off+k,none⟩=some (.slice ak nk ck):=(hbr3.cell (p:=⟨b,off+k,none⟩) hb).trans ((hbr2.cell (p:=⟨b,off+k,none⟩) hb).symm.trans hcr2); have hrk3:Row w3 ak nk (bss.getD k []):=hrk.kept hbr3) | (at_builtin; refine wpList_append_row _ rfl (.tmp 22) (.tmp 26) 32 rfl w.heap.size i0 Tryz.underlying32 hi hz0 hz1 hz2 _ _ _ rfl ho3.row ak nk ck (bss.getD k []) rfl hrk3 hnk (by omega) (by have:=hbr3.size; omega) ?_; intro v4 w4 hv4 hg4))
   obtain ⟨a4,c4,rfl,ho4⟩:=own_appended (ys:=bss.getD k []) hv4 ho3.byte hrk3.byte
   have hbr4:Below w.heap.size w w4:=below_appended hbr3 (by have:=hbr3.size; omega) ho3.row hg4
   have he:putN n++encParts (bss.take k)++putN nk++bss.getD k []=putN n++encParts (bss.take (k+1)):=by rw [encParts_next bss k hkl,hrk3.len]; simp only [List.append_assoc]
   rw [he] at ho4
   go_roundw
   case rel=>exact ⟨k+1,m+m2+nk,c4,a4,by omega,by go_num,rfl,ho4,hbr4⟩
   case measure=>simp [intOf]; omega
  ·have hkn:k=n:=by omega
   subst hkn
   have he:putN k++encParts (bss.take k)=partsL bss:=by rw [List.take_of_length_le (by have:=HL.out; omega),partsL,HL.out]
   rw [he] at hor
   go_wp2_with fail
   refine (specHash_any ao m c (partsL bss) _ hor.toRow (by omega)).mono ?_
   rintro e w5 ⟨rfl,hw5⟩
   subst hw5
   go_wp2
   go_ret
   exact ⟨rfl,hbr⟩
theorem implHashParts_any (a:Option Addr)(n cap:Nat)(bss:List (List Int))(w:World)(h:Rows2 w a n bss)(hn:n≤2097152)(ht:total bss≤2097152) :
  Calls Tryz.prog 276 #[.slice a n cap] w fun e w'=>e=.returned (.int .u64 (hashL (partsL bss)))∧Below w.heap.size w w':=by
 obtain ⟨i0,hi,hz0,hz1,hz2⟩:=info_parts Tryz.info5
 have H0:Hid (Rows2 w a n bss):=h
 have HL:Hid (bss.length=n):=h.len
 have HT:Hid (total bss≤2097152):=ht
 clear h ht
 go_enter Tryz.func276,Tryz.ntmps276
 go_wp2_with fail
 refine (implPutNum_any (n:Int) _ (by omega)).mono ?_
 rintro e w1 ⟨a1,c1,rfl,ho1,hb1⟩
 have hp1:putI (n:Int)=putN n:=by rw [putI,if_neg (by omega),Int.toNat_natCast]
 rw [hp1] at ho1 ⊢
 have hpn:(putN n).length≤9:=by rw [putN,putL_len]; exact cnt_le n (by omega)
 obtain ⟨m0,hm0⟩:∃ m0,m0=(putN n).length:=⟨_,rfl⟩
 rw [← hm0] at ho1 hpn ⊢
 clear hp1 hm0
 go_wp2
 go_loopw [3,11] (fun o i wr=>∃ (k m c:Nat) (ao:Option Addr),k≤n∧i=.int .i64 k∧o=.slice ao m c∧Own w.heap.size wr ao m c (putN n++encParts (bss.take k))∧Below w.heap.size w wr) (fun _ i _=>n - (intOf i).toNat)
 case atStart=>exact ⟨0,m0,c1,a1,Nat.zero_le _,rfl,rfl,by rw [List.take_zero,encParts_nil,List.append_nil]; exact ho1,hb1⟩
 case round =>
  obtain ⟨k,m,c,ao,hk,rfl,rfl,hor,hbr⟩:=hrel
  have hws:=hbr.size
  have hmb:m≤9+9 * n+2097152:=by
   have h1:=hor.length
   rw [List.length_append] at h1
   have h2:=encParts_len bss k n HL.out HT.out
   have h3:(putN n).length≤9:=by rw [putN,putL_len]; exact cnt_le n (by omega)
   omega
  by_cases hlt:k<n
  ·obtain ⟨b,off,rfl,hb,ak,nk,ck,hc,hrk,hnk⟩:=H0.out.get k hlt
   have hcr:wr.cell? ⟨b,off+k,none⟩=some (.slice ak nk ck):=(hbr.cell (p:=⟨b,off+k,none⟩) hb).trans hc
   clear hc
   have hkl:k<bss.length:=by have:=HL.out; omega
   have hpk:nk≤2097152:=by rw [← hrk.len]; exact part_le bss k hkl HT.out
   have hnki:(nk:Int)≤2097152:=by omega
   go_wp2_with fail
   refine (implPutNum_any (nk:Int) _ (by omega)).mono ?_
   rintro e w2 ⟨a2,c2,rfl,ho2,hb2⟩
   have hp2:putI (nk:Int)=putN nk:=by rw [putI,if_neg (by omega),Int.toNat_natCast]
   rw [hp2] at ho2 ⊢
   have hpn2:(putN nk).length≤9:=by rw [putN,putL_len]; exact cnt_le nk (by omega)
   obtain ⟨m2,hm2⟩:∃ m2,m2=(putN nk).length:=⟨_,rfl⟩
   rw [← hm2] at ho2 hpn2 ⊢
   have hs2:=hb2.size
   have hor2:=hor.kept hb2
   have hbr2:Below w.heap.size w w2:=hbr.trans (hb2.mono hws)
   have hcr2:w2.cell? ⟨b,off+k,none⟩=some (.slice ak nk ck):=(hb2.cell (p:=⟨b,off+k,none⟩) (by show b<_; omega)).trans hcr
   have hrk2:Row w2 ak nk (bss.getD k []):=hrk.kept hbr2
   clear hp2 hm2 hor hbr hb2 hcr
   go_wp2_with (first | (at_builtin; refine wpList_append_row _ rfl (.tmp 15) (.tmp 18) 32 rfl w.heap.size i0 Tryz.underlying32 hi hz0 hz1 hz2 _ _ _ rfl hor2.row a2 m2 c2 (putN nk) rfl ho2.toRow ho2.nil (by omega) (by omega) ?_; intro v3 w3 hv3 hg3; obtain ⟨a3,c3,rfl,ho3⟩:=own_appended (ys:=putN nk) hv3 hor2.byte ho2.byte; have hbr3:Below w.heap.size w w3:=below_appended hbr2 (by omega) hor2.row hg3; have hcr3:w3.cell? ⟨b,off+k,none⟩=some (.slice ak nk ck):=(hbr3.cell (p:=⟨b,off+k,none⟩) hb).trans ((hbr2.cell (p:=⟨b,off+k,none⟩) hb).symm.trans hcr2); have hrk3:Row w3 ak nk (bss.getD k []):=hrk.kept hbr3) | (at_builtin; refine wpList_append_row _ rfl (.tmp 20) (.tmp 21) 32 rfl w.heap.size i0 Tryz.underlying32 hi hz0 hz1 hz2 _ _ _ rfl ho3.row ak nk ck (bss.getD k []) rfl hrk3 hnk (by omega) (by have:=hbr3.size; omega) ?_; intro v4 w4 hv4 hg4))
   obtain ⟨a4,c4,rfl,ho4⟩:=own_appended (ys:=bss.getD k []) hv4 ho3.byte hrk3.byte
   have hbr4:Below w.heap.size w w4:=below_appended hbr3 (by have:=hbr3.size; omega) ho3.row hg4
   have he:putN n++encParts (bss.take k)++putN nk++bss.getD k []=putN n++encParts (bss.take (k+1)):=by rw [encParts_next bss k hkl,hrk3.len]; simp only [List.append_assoc]
   rw [he] at ho4
   go_roundw
   case rel=>exact ⟨k+1,m+m2+nk,c4,a4,by omega,by go_num,rfl,ho4,hbr4⟩
   case measure=>simp [intOf]; omega
  ·have hkn:k=n:=by omega
   subst hkn
   have he:putN k++encParts (bss.take k)=partsL bss:=by rw [List.take_of_length_le (by have:=HL.out; omega),partsL,HL.out]
   rw [he] at hor
   go_wp2_with fail
   refine (implHash_any ao m c (partsL bss) _ hor.toRow (by omega)).mono ?_
   rintro e w5 ⟨rfl,hb5⟩
   go_wp2
   go_ret
   exact ⟨rfl,hbr.trans (hb5.mono hws)⟩
theorem implHashAll_any (a:Option Addr)(n cap:Nat)(bss:List (List Int))(w:World)(h:Rows2 w a n bss)(hn:n≤2097152)(ht:total bss≤2097152) :
  Calls Tryz.prog 289 #[.slice a n cap] w fun e w'=>e=.returned (.int .u64 (hashL (partsL bss)))∧Below w.heap.size w w':=by
 have H0:Hid (Rows2 w a n bss):=h
 clear h
 go_enter Tryz.func289,Tryz.ntmps289
 go_wp2_with fail
 refine (implHashParts_any a n cap bss _ H0.out hn ht).mono ?_
 rintro e w1 ⟨rfl,hb1⟩
 go_wp2
 go_ret
 exact ⟨rfl,hb1⟩
end Go.Proofs.YtmdfbnlgfhjnoaaGreatDoor
