import Derived.Lib.SplitLaws
import Derived.Lib.Split
import Derived.Lib.CutLaws
import Derived.Test.YtmdfbnlgfhjnoaaGreatDoorFD03
import Derived.Test.YtmdfbnlgfhjnoaaGreatDoorFD02
set_option maxRecDepth 10000
set_option maxHeartbeats 8000000
set_option linter.unusedVariables false
namespace Go.Proofs.YtmdfbnlgfhjnoaaGreatDoor
open Go.RowKit
def expP (x:Int):Prop:=0≤x∧x≤500000002
instance (x:Int):Decidable (expP x):=by unfold expP; infer_instance
def gp (b e:Int):Int:=pw b e.toNat 1000000007
theorem gp_bd (b e:Int):0≤gp b e∧gp b e<1000000007:=mod_bd _ (by decide)
def memP (y:Int):Prop:=(1≤y∧y≤1000000006)∧gp y 500000003=1
def keyP (y:Int):Prop:=memP y∧y≠1
instance (x:Int):Decidable (memP x):=by unfold memP; infer_instance
instance (x:Int):Decidable (keyP x):=by unfold keyP; infer_instance
theorem isExponent_any (x:Int)(w:World):Calls Tryz.prog 272 #[.int .i64 x] w fun r w'=>r=.returned (.bool (decide (expP x)))∧w'=w:=by
 by_cases h:expP x
 ·rw [decide_eq_true h]
  go_enter Tryz.func272,Tryz.ntmps272
  go_wp2_with fail
  refine (inBounds_t x 0 500000002 _ h).mono ?_
  rintro r w1 ⟨rfl,rfl⟩
  go_wp2
  go_ret
  exact ⟨rfl,rfl⟩
 ·rw [decide_eq_false h]
  go_enter Tryz.func272,Tryz.ntmps272
  go_wp2_with fail
  refine (inBounds_f x 0 500000002 _ h).mono ?_
  rintro r w1 ⟨rfl,rfl⟩
  go_wp2
  go_ret
  exact ⟨rfl,rfl⟩
theorem l7Exp_any (x:Int)(w:World):Calls Tryz.prog 163 #[.int .i64 x] w fun r w'=>r=.returned (.bool (decide (expP x)))∧w'=w:=by
 by_cases h:expP x
 ·rw [decide_eq_true h]
  go_enter Tryz.func163,Tryz.ntmps163
  go_wp2_with fail
  refine (l1In_t x 0 500000002 _ h).mono ?_
  rintro r w1 ⟨rfl,rfl⟩
  go_wp2
  go_ret
  exact ⟨rfl,rfl⟩
 ·rw [decide_eq_false h]
  go_enter Tryz.func163,Tryz.ntmps163
  go_wp2_with fail
  refine (l1In_f x 0 500000002 _ h).mono ?_
  rintro r w1 ⟨rfl,rfl⟩
  go_wp2
  go_ret
  exact ⟨rfl,rfl⟩
theorem power_any (b e:Int)(w:World)(hb:0≤b)(hb':b≤1000000006)(he:0≤e)(he':e≤9223372036854775807) :
  Calls Tryz.prog 275 #[.int .i64 b,.int .i64 e] w fun r w'=>r=.returned (.int .i64 (gp b e))∧w'=w:=by
 have HV:Hid (powV b e 1000000007=(gp b e,true)):=by show _=_; unfold powV; rw [if_pos ⟨by decide,⟨hb,by omega⟩,he⟩]; rfl
 go_enter Tryz.func275,Tryz.ntmps275
 go_wp2_with fail
 refine (implPowMod_any b e 1000000007 _ he').mono ?_
 rintro r w1 ⟨rfl,rfl⟩
 rw [HV.out,pair]
 go_wp2
 go_ret
 exact ⟨rfl,rfl⟩
theorem l7PowP_any (b e:Int)(w:World)(hb:0≤b)(hb':b≤1000000006)(he:0≤e)(he':e≤9223372036854775807) :
  Calls Tryz.prog 164 #[.int .i64 b,.int .i64 e,.int .i64 1000000007] w fun r w'=>r=.returned (.int .i64 (gp b e))∧w'=w :=
 l7Pow_any b e 1000000007 w (by decide) (by decide) hb (by omega) he he'
theorem prod_bd {a b m:Int}(ha:0≤a)(ha':a<m)(hb:0≤b)(hb':b<m)(hm:m≤1000000007):0≤a * b∧a * b≤1000000014000000049:=by
 refine ⟨Int.mul_nonneg ha hb,?_⟩
 have h1:a * b≤1000000007 * b:=Int.mul_le_mul_of_nonneg_right (by omega) hb
 omega
theorem isMember_any (y:Int)(w:World):Calls Tryz.prog 271 #[.int .i64 y] w fun r w'=>r=.returned (.bool (decide (memP y)))∧w'=w:=by
 by_cases h:1≤y∧y≤1000000006
 ·have HV:Hid ((gp y 500000003 == 1)=decide (memP y)):=by
   show _=_
   by_cases h2:gp y 500000003=1
   ·rw [decide_eq_true ⟨h,h2⟩,beq_iff_eq.2 h2]
   ·rw [decide_eq_false (fun hh=>h2 hh.2),beq_false_of_ne h2]
  go_enter Tryz.func271,Tryz.ntmps271
  go_wp2_with fail
  refine (inBounds_t y 1 1000000006 _ h).mono ?_
  rintro r w1 ⟨rfl,rfl⟩
  go_wp2_with fail
  refine (power_any y 500000003 _ (by omega) h.2 (by decide) (by decide)).mono ?_
  rintro r w1 ⟨rfl,rfl⟩
  go_wp2
  go_ret
  exact ⟨by rw [← HV.out]; rfl,rfl⟩
 ·rw [decide_eq_false (fun hh=>h hh.1)]
  go_enter Tryz.func271,Tryz.ntmps271
  go_wp2_with fail
  refine (inBounds_f y 1 1000000006 _ h).mono ?_
  rintro r w1 ⟨rfl,rfl⟩
  go_wp2
  go_ret
  exact ⟨rfl,rfl⟩
theorem l7Member_any (y:Int)(w:World):Calls Tryz.prog 126 #[.int .i64 y] w fun r w'=>r=.returned (.bool (decide (memP y)))∧w'=w:=by
 by_cases h:1≤y∧y≤1000000006
 ·have HV:Hid ((gp y 500000003 == 1)=decide (memP y)):=by
   show _=_
   by_cases h2:gp y 500000003=1
   ·rw [decide_eq_true ⟨h,h2⟩,beq_iff_eq.2 h2]
   ·rw [decide_eq_false (fun hh=>h2 hh.2),beq_false_of_ne h2]
  go_enter Tryz.func126,Tryz.ntmps126
  go_wp2_with fail
  refine (l1In_t y 1 1000000006 _ h).mono ?_
  rintro r w1 ⟨rfl,rfl⟩
  go_wp2_with fail
  refine (l7PowP_any y 500000003 _ (by omega) h.2 (by decide) (by decide)).mono ?_
  rintro r w1 ⟨rfl,rfl⟩
  go_wp2
  go_ret
  exact ⟨by rw [← HV.out]; rfl,rfl⟩
 ·rw [decide_eq_false (fun hh=>h hh.1)]
  go_enter Tryz.func126,Tryz.ntmps126
  go_wp2_with fail
  refine (l1In_f y 1 1000000006 _ h).mono ?_
  rintro r w1 ⟨rfl,rfl⟩
  go_wp2
  go_ret
  exact ⟨rfl,rfl⟩
theorem isKey_any (y:Int)(w:World):Calls Tryz.prog 268 #[.int .i64 y] w fun r w'=>r=.returned (.bool (decide (keyP y)))∧w'=w:=by
 by_cases h:y=1
 ·rw [decide_eq_false (fun hh=>hh.2 h)]
  have z:(y != 1)=false:=by simp [h]
  clear h
  go_enter Tryz.func268,Tryz.ntmps268
  go_wp2
  go_ret
  exact ⟨rfl,rfl⟩
 ·have HV:Hid (decide (memP y)=decide (keyP y)):=by
   show _=_
   exact decide_eq_decide.2 ⟨fun hh=>⟨hh,h⟩,fun hh=>hh.1⟩
  have z:(y != 1)=true:=by simp [h]
  clear h
  go_enter Tryz.func268,Tryz.ntmps268
  go_wp2_with fail
  refine (isMember_any y _).mono ?_
  rintro r w1 ⟨rfl,rfl⟩
  go_wp2
  go_ret
  exact ⟨by rw [← HV.out]; rfl,rfl⟩
def movN (r y a b:Int):Int:=r * gp 4 a % 1000000007 * gp y (500000003 - b) % 1000000007
theorem movN_one (y a b:Int):movN 1 y a b=gp 4 a * gp y (500000003 - b) % 1000000007:=by
 unfold movN
 rw [Int.one_mul,Int.emod_eq_of_lt (gp_bd 4 a).1 (gp_bd 4 a).2]
theorem moved_any (r y a b:Int)(w:World)(hr:0≤r)(hr':r≤1000000006)(hy:0≤y)(hy':y≤1000000006)(ha:expP a)(hb:expP b) :
  Calls Tryz.prog 274 #[.int .i64 r,.int .i64 y,.int .i64 a,.int .i64 b] w fun e w'=>e=.returned (.int .i64 (movN r y a b))∧w'=w:=by
 obtain ⟨ha0,ha1⟩:=ha
 obtain ⟨hb0,hb1⟩:=hb
 have HV:Hid (r * gp 4 a % 1000000007 * gp y (500000003 - b) % 1000000007=movN r y a b):=rfl
 obtain ⟨h10,h11⟩:=gp_bd 4 a
 obtain ⟨h20,h21⟩:=gp_bd y (500000003 - b)
 obtain ⟨hp0,hp1⟩:=prod_bd hr (show r<1000000007 by omega) h10 h11 (Int.le_refl _)
 obtain ⟨hm0,hm1⟩:=mod_bd (r * gp 4 a) (show (1:Int)≤1000000007 by decide)
 obtain ⟨hq0,hq1⟩:=prod_bd hm0 hm1 h20 h21 (Int.le_refl _)
 go_enter Tryz.func274,Tryz.ntmps274
 go_wp2_with fail
 refine (power_any 4 a _ (by decide) (by decide) ha0 (by omega)).mono ?_
 rintro e w1 ⟨rfl,rfl⟩
 go_wp2_with fail
 refine (power_any y (500000003 - b) _ hy hy' (by omega) (by omega)).mono ?_
 rintro e w1 ⟨rfl,rfl⟩
 go_wp2
 go_ret
 exact ⟨by rw [← HV.out]; rfl,rfl⟩
open Go.RowKit
def pcs (s:ByteArray)(c:Int):Nat→Nat→Nat→List ByteArray
 | 0,f,i=>[s.extract f i]
 | k+1,f,i=>if cAt s i=c then s.extract f i::pcs s c k (i+1) (i+1) else pcs s c k f (i+1)
def cutAt (s:ByteArray)(c:Int):List ByteArray:=pcs s c s.size 0 0
theorem occ_one (l:List UInt8)(c:UInt8)(j:Nat):Lib.occAt l [c] j=true↔l[j]? = some c:=by
 unfold Lib.occAt
 rw [← List.head?_drop]
 cases l.drop j with
 | nil=>simp
 | cons a r =>
  simp only [List.isPrefixOf,List.head?_cons,Bool.and_true,beq_iff_eq,Option.some.injEq]
  exact eq_comm
theorem cAt_some {s:ByteArray}{c:UInt8}{j:Nat}(hj:j<s.size):s.data.toList[j]? = some c↔cAt s j=(c.toNat:Int):=by
 have h':j<s.data.toList.length:=by simpa using hj
 unfold cAt
 rw [List.getD_eq_getElem?_getD,List.getElem?_eq_getElem h']
 simp only [Option.some.injEq,Option.getD_some]
 constructor
 ·intro h; rw [h]
 ·intro h; exact UInt8.toNat_inj.1 (by omega)
theorem ext_get (s:ByteArray)(f j:Nat):(s.extract f s.size).data.toList[j]? = s.data.toList[f+j]?:=by
 rw [Lib.extract_data,List.getElem?_take,List.getElem?_drop]
 split
 ·rfl
 ·rw [List.getElem?_eq_none]
  rw [Lib.size_eq] at *
  omega
theorem ext_ext (s:ByteArray)(f a b:Nat)(hf:f+b≤s.size):(s.extract f s.size).extract a b=s.extract (f+a) (f+b):=by
 rw [Lib.extract_eq,Lib.extract_data,Lib.extract_eq]
 congr 2
 rw [Lib.size_eq] at hf
 apply List.ext_getElem?
 intro j
 simp only [List.getElem?_take,List.getElem?_drop,Lib.size_eq]
 by_cases h:j<b - a
 ·rw [if_pos h,if_pos (by omega),if_pos (by omega),Nat.add_assoc]
 ·rw [if_neg h,if_neg (by omega)]
theorem ext_size (s:ByteArray)(f:Nat):(s.extract f s.size).size=s.size - f:=by
 rw [Lib.size_eq,Lib.extract_data,List.length_take,List.length_drop,Lib.size_eq]; omega
theorem split_pcs (s sep:ByteArray)(cb:UInt8)(hsep:sep.data.toList = [cb]):∀ (k f i:Nat),i+k=s.size→f≤i→(∀ j,f≤j→j<i→cAt s j≠(cb.toNat:Int)) →
  Lib.splitB sep 0 (Lib.countB (s.extract f s.size) sep) (s.extract f s.size)=pcs s (cb.toNat:Int) k f i
 | 0,f,i,hi,hf,hno=>by
  have e:i=s.size:=by omega
  subst e
  have hx:Lib.indexB (s.extract f s.size) sep = -1:=by
   show Lib.index _ _=_
   rw [hsep]
   refine Lib.index_none fun j _=>?_
   rw [Bool.eq_false_iff]
   intro h
   rw [occ_one,ext_get] at h
   have hl:f+j<s.data.toList.length:=(List.getElem?_eq_some_iff.1 h).1
   rw [← Lib.size_eq] at hl
   exact hno (f+j) (by omega) hl ((cAt_some hl).1 h)
  rw [Lib.splitB_miss _ _ _ _ hx]
  rfl
 | k+1,f,i,hi,hf,hno=>by
  have hlt:i<s.size:=by omega
  unfold pcs
  by_cases hc:cAt s i=(cb.toNat:Int)
  ·rw [if_pos hc]
   have hsz:sep.size=1:=by rw [Lib.size_eq,hsep]; rfl
   have hx:Lib.indexB (s.extract f s.size) sep=((i - f:Nat):Int):=by
    show Lib.index _ _=_
    rw [hsep]
    refine Lib.index_first ?_ ?_ ?_
    ·rw [← Lib.size_eq,ext_size]; omega
    ·rw [occ_one,ext_get,show f+(i - f)=i by omega]
     exact (cAt_some hlt).2 hc
    ·intro j hj
     rw [Bool.eq_false_iff]
     intro h
     rw [occ_one,ext_get] at h
     exact hno (f+j) (by omega) (by omega) ((cAt_some (by omega)).1 h)
   have e1:(s.extract f s.size).extract (i - f+sep.size) (s.extract f s.size).size=s.extract (i+1) s.size:=by
    rw [ext_size,hsz,ext_ext _ _ _ _ (by omega)]
    congr 1 <;> omega
   have e2:(s.extract f s.size).extract 0 (i - f+0)=s.extract f i:=by
    rw [ext_ext _ _ _ _ (by omega)]
    congr 1 <;> omega
   rw [Lib.countB_hit _ _ _ (by omega) hx,Nat.add_comm,Lib.splitB_hit _ _ _ _ _ hx,e1,e2]
   rw [split_pcs s sep cb hsep k (i+1) (i+1) (by omega) (Nat.le_refl _) (fun j h1 h2=>by omega)]
  ·rw [if_neg hc]
   exact split_pcs s sep cb hsep k f (i+1) (by omega) (by omega) (fun j h1 h2=>by
    by_cases e:j=i
    ·rw [e]; exact hc
    ·exact hno j h1 (by omega))
theorem ext_whole (s:ByteArray):s.extract 0 s.size=s:=by
 rw [Lib.extract_eq,List.drop_zero,Nat.sub_zero,Lib.size_eq,List.take_length,Lib.mk_data]
theorem split_cut (s sep:ByteArray)(cb:UInt8)(hsep:sep.data.toList = [cb]):Lib.splitB sep 0 (Lib.countB s sep) s=cutAt s (cb.toNat:Int):=by
 have h:=split_pcs s sep cb hsep s.size 0 0 (by omega) (Nat.le_refl _) (fun j h1 h2=>by omega)
 rw [ext_whole] at h
 exact h
theorem split_len (s sep:ByteArray)(cb:UInt8)(hsep:sep.data.toList = [cb]):(cutAt s (cb.toNat:Int)).length=Lib.countB s sep+1:=by
 rw [← split_cut s sep cb hsep]
 exact Lib.splitB_all sep (by rw [Lib.size_eq,hsep]; exact Nat.le_refl _) 0 _ s rfl
theorem pcs_len (s:ByteArray)(c:Int):∀ k f i,1≤(pcs s c k f i).length∧(pcs s c k f i).length≤k+1
 | 0,_,_=>by simp [pcs]
 | k+1,f,i=>by
  unfold pcs
  have h1:=pcs_len s c k (i+1) (i+1)
  have h2:=pcs_len s c k f (i+1)
  split
  ·simp only [List.length_cons]; omega
  ·omega
theorem cutAt_len (s:ByteArray)(c:Int):1≤(cutAt s c).length∧(cutAt s c).length≤s.size+1:=pcs_len s c _ _ _
def CutInv (s:ByteArray)(c:Int)(L:List ByteArray)(f i:Nat):Prop :=
 (i≤s.size∧f≤i∧L++pcs s c (s.size - i) f i=cutAt s c)∨(s.size<i∧L=cutAt s c)
theorem CutInv.start (s:ByteArray)(c:Int):CutInv s c [] 0 0:=.inl ⟨Nat.zero_le _,Nat.le_refl _,rfl⟩
theorem CutInv.hit {s:ByteArray}{c:Int}{L:List ByteArray}{f i:Nat}(h:CutInv s c L f i)(hi:i<s.size)(hc:cAt s i=c):CutInv s c (L++[s.extract f i]) (i+1) (i+1):=by
 rcases h with ⟨h1,h2,h3⟩ | ⟨h1,_⟩
 ·refine .inl ⟨by omega,Nat.le_refl _,?_⟩
  rw [← h3,show s.size - i=(s.size - (i+1))+1 by omega,pcs,if_pos hc,List.append_assoc]
  rfl
 ·omega
theorem CutInv.miss {s:ByteArray}{c:Int}{L:List ByteArray}{f i:Nat}(h:CutInv s c L f i)(hi:i<s.size)(hc:¬ cAt s i=c):CutInv s c L f (i+1):=by
 rcases h with ⟨h1,h2,h3⟩ | ⟨h1,_⟩
 ·refine .inl ⟨by omega,by omega,?_⟩
  rw [← h3,show s.size - i=(s.size - (i+1))+1 by omega,pcs,if_neg hc]
 ·omega
theorem CutInv.last {s:ByteArray}{c:Int}{L:List ByteArray}{f:Nat}(h:CutInv s c L f s.size):CutInv s c (L++[s.extract f s.size]) (s.size+1) (s.size+1):=by
 rcases h with ⟨h1,h2,h3⟩ | ⟨h1,_⟩
 ·refine .inr ⟨by omega,?_⟩
  rw [← h3,Nat.sub_self]
  rfl
 ·omega
theorem CutInv.done {s:ByteArray}{c:Int}{L:List ByteArray}{f i:Nat}(h:CutInv s c L f i)(hi:s.size<i):L=cutAt s c:=by
 rcases h with ⟨h1,_⟩ | ⟨_,h2⟩
 ·omega
 ·exact h2
theorem CutInv.from_le {s:ByteArray}{c:Int}{L:List ByteArray}{f i:Nat}(h:CutInv s c L f i)(hi:i≤s.size):f≤i:=by
 rcases h with ⟨_,h2,_⟩ | ⟨h1,_⟩
 ·exact h2
 ·omega
open Go.RowKit
theorem l5Split_any (s:ByteArray)(c:Int)(w:World)(hs:s.size≤1048576) :
  Calls Tryz.prog 204 #[.string s,.int .u8 c] w fun e w'=>∃ a n cap,e=.returned (.slice a n cap)∧n=(cutAt s c).length∧Strs w.heap.size w' a n cap (cutAt s c)∧Below w.heap.size w w':=by
 obtain ⟨i0,hi,hz0,hz1,hz2⟩:=info_parts Tryz.info9
 obtain ⟨L0,hL0⟩:∃ L0,L0=cutAt s c:=⟨_,rfl⟩
 rw [← hL0]
 have HL:Hid (L0=cutAt s c):=hL0
 clear hL0
 have HO:Hid ((w.alloc (.cells #[] 9)).ownsRow w.heap.size 9 1 (.slice (some ⟨w.heap.size,0,none⟩) 0 0) 0 (([]:List ByteArray).map Value.string)):=World.ownsRow_lit w #[] 0 (Nat.le_refl _) (Nat.zero_le _) rfl
 have hbe:Below w.heap.size w (w.alloc (.cells #[] 9)):=(Below.refl _ _).alloc (Nat.le_refl _) _
 go_enter Tryz.func204,Tryz.ntmps204
 go_wp2
 go_loopw [5,6,7] (fun o f i wr=>∃ (fr k len cp:Nat) (ao:Option Addr) (L:List ByteArray),fr≤s.size+1∧k≤s.size+1∧o=.slice ao len cp∧f=.int .i64 fr∧i=.int .i64 k∧len≤k∧Hid (CutInv s c L fr k)∧wr.ownsRow w.heap.size 9 1 (.slice ao len cp) len (L.map Value.string)∧Below w.heap.size w wr) (fun _ _ i _=>s.size+1 - (intOf i).toNat)
 case atStart=>exact ⟨0,0,0,0,_,[],by omega,by omega,rfl,rfl,rfl,by omega,CutInv.start s c,HO.out,hbe⟩
 case round =>
  clear HO hbe
  obtain ⟨fr,k,len,cp,ao,L,hf,hk,rfl,rfl,rfl,hlk,HC,hor,hbr⟩:=hrel
  have hws:w.heap.size≤wr.heap.size:=hbr.size
  by_cases hlt:k≤s.size
  ·have hfk:fr≤k:=HC.out.from_le hlt
   by_cases heq:k=s.size
   ·subst heq
    have HN:Hid (CutInv s c (L++[s.extract fr s.size]) (s.size+1) (s.size+1)):=HC.out.last
    clear HC
    go_wp2_with (at_builtin; refine wpList_append_own _ rfl _ _ 225 rfl w.heap.size 9 i0 (.string ByteArray.empty) 1 16 Tryz.underlying225 hi hz0 hz1 hz2 rfl (by decide) _ _ _ rfl (hor.alloc _) ⟨wr.heap.size,0,none⟩ 1 1 [_] rfl rfl (cell_one_newS _ _ _) (by intro u hu; simp at hu; subst hu; rfl) (by unfold maxLen; omega) (by omega) (by simp; omega) ?_; intro v' w1 hown' hgrow' _)
    have hb1:Below w.heap.size w w1:=below_appS (hbr.alloc hws _) (by simp; omega) (hor.alloc _) hgrow'
    obtain ⟨a',cap',rfl⟩:=ownsS_slice hown'
    have HO2:Hid (w1.ownsRow w.heap.size 9 1 (.slice a' (len+1) cap') (len+1) ((L++[s.extract fr s.size]).map Value.string)):=by
     show World.ownsRow _ _ _ _ _ _ _
     rw [List.map_append]
     exact hown'
    clear hown' hgrow'
    go_wp2
    go_roundw
    case rel=>exact ⟨s.size+1,s.size+1,len+1,cap',a',L++[s.extract fr s.size],by omega,by omega,rfl,rfl,by go_num,by omega,HN,HO2.out,hb1⟩
    case measure=>simp [intOf]
   ·have hlt2:k<s.size:=by omega
    have hx:=cAt_get s k hlt2
    by_cases hc:(s[k].toNat:Int)=c
    ·have HN:Hid (CutInv s c (L++[s.extract fr k]) (k+1) (k+1)):=HC.out.hit hlt2 (hx.trans hc)
     have z:((s[k].toNat:Int) == c)=true:=beq_iff_eq.2 hc
     clear HC hc hx
     go_wp2_with (at_builtin; refine wpList_append_own _ rfl _ _ 225 rfl w.heap.size 9 i0 (.string ByteArray.empty) 1 16 Tryz.underlying225 hi hz0 hz1 hz2 rfl (by decide) _ _ _ rfl (hor.alloc _) ⟨wr.heap.size,0,none⟩ 1 1 [_] rfl rfl (cell_one_newS _ _ _) (by intro u hu; simp at hu; subst hu; rfl) (by unfold maxLen; omega) (by omega) (by simp; omega) ?_; intro v' w1 hown' hgrow' _)
     have hb1:Below w.heap.size w w1:=below_appS (hbr.alloc hws _) (by simp; omega) (hor.alloc _) hgrow'
     obtain ⟨a',cap',rfl⟩:=ownsS_slice hown'
     have HO2:Hid (w1.ownsRow w.heap.size 9 1 (.slice a' (len+1) cap') (len+1) ((L++[s.extract fr k]).map Value.string)):=by
      show World.ownsRow _ _ _ _ _ _ _
      rw [List.map_append]
      exact hown'
     clear hown' hgrow'
     go_wp2
     go_roundw
     case rel=>exact ⟨k+1,k+1,len+1,cap',a',L++[s.extract fr k],by omega,by omega,rfl,by go_num,by go_num,by omega,HN,HO2.out,hb1⟩
     case measure=>simp [intOf]; omega
    ·have HN:Hid (CutInv s c L fr (k+1)):=HC.out.miss hlt2 (fun h=>hc (hx.symm.trans h))
     have z:((s[k].toNat:Int) == c)=false:=beq_false_of_ne hc
     clear HC hc hx
     go_wp2
     go_roundw
     case rel=>exact ⟨fr,k+1,len,cp,ao,L,by omega,by omega,rfl,rfl,by go_num,by omega,HN,hor,hbr⟩
     case measure=>simp [intOf]; omega
  ·have HD:Hid (L=L0):=by show L=L0; rw [HL.out]; exact HC.out.done (by omega)
   clear HC
   go_wp2
   go_ret
   have e:=HD.out
   subst e
   have hl:L.length=len:=by simpa using hor.1
   exact ⟨ao,len,cp,rfl,hl.symm,⟨hor⟩,hbr⟩
open Go.RowKit
def star:ByteArray:=⟨#[42]⟩
def isStar (L:List ByteArray)(wild:Bool)(k:Nat):Prop:=k=0∧wild=true∧L.getD 0 ByteArray.empty=star∧2<L.length
def hostL (L:List ByteArray)(wild:Bool)(k:Nat):Prop:=∀ j,j<k→isStar L wild j∨labP (L.getD j ByteArray.empty)
def hostP (s:ByteArray)(wild:Bool):Prop:=s.size≤100∧(cutAt s 46).length≤10∧hostL (cutAt s 46) wild (cutAt s 46).length
theorem hostL_succ {L:List ByteArray}{wild:Bool}{k:Nat}(h:hostL L wild k)(h1:isStar L wild k∨labP (L.getD k ByteArray.empty)):hostL L wild (k+1):=fun j hj=>by
 by_cases e:j=k
 ·rw [e]; exact h1
 ·exact h j (by omega)
theorem toList_star (b:ByteArray):(b.toList == [42])=true↔b=star:=by
 rw [ByteArray.toList_eq,beq_iff_eq]
 constructor
 ·intro h
  have e:=Lib.mk_data b
  rw [h] at e
  exact e.symm
 ·intro h; rw [h]; rfl
def SaysB (P:Prop)(w:World)(e:Ending)(w':World):Prop:=∃ b,e=.returned (.bool b)∧Hid (b=true↔P)∧Below w.heap.size w w'
theorem saysB_t {P:Prop}{w w':World}(h:P)(hb:Below w.heap.size w w'):SaysB P w (.returned (.bool true)) w':=⟨true,rfl,⟨fun _=>h,fun _=>rfl⟩,hb⟩
theorem saysB_f {P:Prop}{w w':World}(h:¬ P)(hb:Below w.heap.size w w'):SaysB P w (.returned (.bool false)) w':=⟨false,rfl,⟨fun e=>(by cases e),fun e=>absurd e h⟩,hb⟩
theorem specHostOk_any (s:ByteArray)(wild:Bool)(w:World):Calls Tryz.prog 175 #[.string s,.bool wild] w (SaysB (hostP s wild) w):=by
 obtain ⟨P,hP⟩:∃ P,P=hostP s wild:=⟨_,rfl⟩
 rw [← hP]
 have HP:Hid (P=hostP s wild):=hP
 clear hP
 by_cases h100:100<s.size
 ·have HN:Hid (¬ P):=by show ¬ P; rw [HP.out]; intro h; have:=h.1; omega
  go_enter Tryz.func175,Tryz.ntmps175
  go_wp2
  go_ret
  exact saysB_f HN.out (Below.refl _ _)
 go_enter Tryz.func175,Tryz.ntmps175
 go_wp2_with fail
 refine (l5Split_any s 46 _ (by omega)).mono ?_
 rintro e w1 ⟨a,n,cap,rfl,hn,HS0,hb⟩
 obtain ⟨L,hL⟩:∃ L,L=cutAt s 46:=⟨_,rfl⟩
 rw [← hL] at hn HS0
 have hlen:=cutAt_len s 46
 rw [← hL,← hn] at hlen
 have HL:Hid (P↔L.length≤10∧hostL L wild L.length):=by
  show P↔_
  rw [HP.out,hL]
  exact ⟨fun h=>h.2,fun h=>⟨by omega,h⟩⟩
 have HLEN:Hid (L.length=n):=hn.symm
 clear HP hL hn
 obtain ⟨hc1,hc2⟩:=HS0.caps
 obtain ⟨g,rfl,hg,hcell⟩:=HS0.get (by omega)
 clear HS0
 obtain ⟨hl1,hl2⟩:=hlen
 by_cases h10:10<n
 ·have HN:Hid (¬ P):=by show ¬ P; rw [HL.out,HLEN.out]; intro h; have:=h.1; omega
  clear hcell
  go_wp2
  go_ret
  exact saysB_f HN.out hb
 have x0:w1.cell? ⟨g,0,none⟩=some (.string (L.getD 0 ByteArray.empty)):=hcell 0 (by omega)
 obtain ⟨b0,hb0⟩:∃ b0,b0=L.getD 0 ByteArray.empty:=⟨_,rfl⟩
 rw [← hb0] at x0
 have HB0:Hid (b0=L.getD 0 ByteArray.empty):=hb0
 clear hb0
 have HC:Hid (∀ k,k<n→w1.cell? ⟨g,k,none⟩=some (.string (L.getD k ByteArray.empty))):=hcell
 clear hcell
 go_wp2
 go_loopw [6] (fun i wr=>∃ k:Nat,k≤n∧i=.int .i64 k∧Hid (hostL L wild k)∧w1=wr) (fun i _=>n - (intOf i).toNat)
 case atStart=>exact ⟨0,by omega,rfl,(fun j hj=>absurd hj (Nat.not_lt_zero _)),rfl⟩
 case round =>
  obtain ⟨k,hk,rfl,HI,rfl⟩:=hrel
  by_cases hlt:k<n
  ·by_cases hst:isStar L wild k
   ·have HN:Hid (hostL L wild (k+1)):=hostL_succ HI.out (.inl hst)
    obtain ⟨rfl,rfl,h3,h4⟩:=hst
    rw [HLEN.out] at h4
    have z:(b0.toList == [42])=true:=(toList_star b0).2 (HB0.out.trans h3)
    clear HI h3
    go_wp2
    go_roundw
    case rel=>exact ⟨1,by omega,rfl,HN,by trivial⟩
    case measure=>simp [intOf]; omega
   ·have xk:w1.cell? ⟨g,k,none⟩=some (.string (L.getD k ByteArray.empty)):=HC.out k hlt
    obtain ⟨bk,hbk⟩:∃ bk,bk=L.getD k ByteArray.empty:=⟨_,rfl⟩
    rw [← hbk] at xk
    have HN:Hid (labP bk→hostL L wild (k+1)):=fun h=>hostL_succ HI.out (.inr (hbk ▸ h))
    have HF:Hid (¬ labP bk→¬ P):=fun h=>by
     rw [HL.out,HLEN.out]
     rintro ⟨_,h2⟩
     rcases h2 k hlt with h3 | h3
     ·exact hst h3
     ·exact h (hbk ▸ h3)
    have hcs:(k≠0)∨(k=0∧wild=false)∨(k=0∧wild=true∧(b0.toList == [42])=false)∨(k=0∧wild=true∧(b0.toList == [42])=true∧¬ 2<n):=by
     by_cases e0:k=0
     ·cases hw:wild with
      | false=>exact .inr (.inl ⟨e0,rfl⟩)
      | true =>
       cases hz:(b0.toList == [42]) with
       | false=>exact .inr (.inr (.inl ⟨e0,rfl,rfl⟩))
       | true=>exact .inr (.inr (.inr ⟨e0,rfl,rfl,fun h2=>hst ⟨e0,hw,HB0.out.symm.trans ((toList_star b0).1 hz),by rw [HLEN.out]; exact h2⟩⟩))
     ·exact .inl e0
    clear hbk hst HI HC HB0
    rcases hcs with h1 | ⟨rfl,rfl⟩ | ⟨rfl,rfl,hz⟩ | ⟨rfl,rfl,hz,h2⟩
    ·have z0:((k:Int) == 0)=false:=beq_false_of_ne (by omega)
     go_wp2_with fail
     refine (l6Label_any bk _).mono ?_
     rintro e w2 ⟨b,rfl,HV,rfl⟩
     cases b with
     | true =>
      have HN2:Hid (hostL L wild (k+1)):=HN.out (HV.out.1 rfl)
      clear HN HF HV
      go_wp2
      go_roundw
      case rel=>exact ⟨k+1,by omega,by go_num,HN2,by trivial⟩
      case measure=>simp [intOf]; omega
     | false =>
      have HF2:Hid (¬ P):=HF.out (fun h=>Bool.false_ne_true (HV.out.2 h))
      clear HN HF HV
      go_wp2
      go_ret
      exact saysB_f HF2.out hb
    all_goals
     have exx:b0=bk:=by
      have:=x0.symm.trans xk
      simpa using this
     subst exx
     go_wp2_with fail
     refine (l6Label_any b0 _).mono ?_
     rintro e w2 ⟨b,rfl,HV,rfl⟩
     cases b with
     | true =>
      have HN2:=HN.out (HV.out.1 rfl)
      have HN3:Hid (_):=HN2
      clear HN HF HV HN2
      go_wp2
      go_roundw
      case rel=>exact ⟨1,by omega,rfl,HN3,by trivial⟩
      case measure=>simp [intOf]; omega
     | false =>
      have HF2:Hid (¬ P):=HF.out (fun h=>Bool.false_ne_true (HV.out.2 h))
      clear HN HF HV
      go_wp2
      go_ret
      exact saysB_f HF2.out hb
  ·obtain rfl:k=n:=by omega
   have HN:Hid P:=by show P; rw [HL.out,HLEN.out]; exact ⟨by omega,HI.out⟩
   clear HI
   go_wp2
   go_ret
   exact saysB_t HN.out hb
open Go.RowKit
def behind (s:ByteArray)(c:Int):Nat→Nat→ByteArray
 | 0,_=>ByteArray.empty
 | k+1,i=>if cAt s i=c then s.extract (i+1) s.size else behind s c k (i+1)
def has (s:ByteArray)(c:Int):Prop:=∃ j,j<s.size∧cAt s j=c
theorem index_one (s:ByteArray)(cb:UInt8):∀ (k i:Nat),i+k=s.size→(∀ j,j<i→cAt s j≠(cb.toNat:Int)) →
  (Lib.index s.data.toList [cb] = -1∧behind s (cb.toNat:Int) k i=ByteArray.empty∧(∀ j,j<s.size→cAt s j≠(cb.toNat:Int))) ∨
  (∃ t:Nat,Lib.index s.data.toList [cb]=(t:Int)∧t<s.size∧cAt s t=(cb.toNat:Int)∧(∀ j,j<t→cAt s j≠(cb.toNat:Int))∧behind s (cb.toNat:Int) k i=s.extract (t+1) s.size)
 | 0,i,hi,hno=>by
  refine .inl ⟨?_,rfl,fun j hj=>hno j (by omega)⟩
  refine Lib.index_none fun j _=>?_
  rw [Bool.eq_false_iff]
  intro h
  rw [occ_one] at h
  have hl:j<s.data.toList.length:=(List.getElem?_eq_some_iff.1 h).1
  rw [← Lib.size_eq] at hl
  exact hno j (by omega) ((cAt_some hl).1 h)
 | k+1,i,hi,hno=>by
  have hlt:i<s.size:=by omega
  unfold behind
  by_cases hc:cAt s i=(cb.toNat:Int)
  ·rw [if_pos hc]
   refine .inr ⟨i,?_,hlt,hc,hno,rfl⟩
   refine Lib.index_first ?_ ?_ ?_
   ·rw [← Lib.size_eq]; omega
   ·rw [occ_one]; exact (cAt_some hlt).2 hc
   ·intro j hj
    rw [Bool.eq_false_iff]
    intro h
    rw [occ_one] at h
    exact hno j hj ((cAt_some (by omega)).1 h)
  ·rw [if_neg hc]
   exact index_one s cb k (i+1) (by omega) (fun j h1=>by
    by_cases e:j=i
    ·rw [e]; exact hc
    ·exact hno j (by omega))
theorem ext_cAt (s:ByteArray)(f j t:Nat)(ht:f+t<j):cAt (s.extract f j) t=cAt s (f+t):=by
 unfold cAt
 rw [Lib.extract_data]
 simp only [List.getD_eq_getElem?_getD,List.getElem?_take,List.getElem?_drop]
 rw [if_pos (by omega)]
theorem ext_sz (s:ByteArray)(f j:Nat)(hj:j≤s.size):(s.extract f j).size=j - f:=by
 rw [Lib.size_eq,Lib.extract_data,List.length_take,List.length_drop]
 rw [Lib.size_eq] at hj
 omega
theorem pcs_head (s:ByteArray)(c:Int):∀ (k f i:Nat),i+k=s.size→f≤i →
  ∃ j r,pcs s c k f i=s.extract f j::r∧i≤j∧j≤s.size∧(∀ t,i≤t→t<j→cAt s t≠c)∧((r = []∧j=s.size)∨(r≠[]∧j<s.size∧cAt s j=c))
 | 0,f,i,hi,hf=>⟨i,[],rfl,Nat.le_refl _,by omega,fun t h1 h2=>by omega,.inl ⟨rfl,by omega⟩⟩
 | k+1,f,i,hi,hf=>by
  unfold pcs
  by_cases hc:cAt s i=c
  ·rw [if_pos hc]
   refine ⟨i,_,rfl,Nat.le_refl _,by omega,fun t h1 h2=>by omega,.inr ⟨fun h=>?_,by omega,hc⟩⟩
   have:=(pcs_len s c k (i+1) (i+1)).1
   rw [h] at this
   simp at this
  ·rw [if_neg hc]
   obtain ⟨j,r,h1,h2,h3,h4,h5⟩:=pcs_head s c k f (i+1) (by omega) (by omega)
   refine ⟨j,r,h1,by omega,h3,fun t a b=>?_,h5⟩
   by_cases e:t=i
   ·rw [e]; exact hc
   ·exact h4 t (by omega) b
theorem cut_head (s:ByteArray)(c:Int):∃ j r,cutAt s c=s.extract 0 j::r∧j≤s.size∧(∀ t,t<j→cAt s t≠c)∧((r = []∧j=s.size)∨(r≠[]∧j<s.size∧cAt s j=c)):=by
 obtain ⟨j,r,h1,_,h3,h4,h5⟩:=pcs_head s c s.size 0 0 (by omega) (Nat.le_refl _)
 exact ⟨j,r,h1,h3,fun t ht=>h4 t (Nat.zero_le _) ht,h5⟩
theorem hostP_pos {s:ByteArray}{wild:Bool}(h:hostP s wild):0<s.size:=by
 rcases Nat.eq_zero_or_pos s.size with h0 | h0
 ·obtain ⟨j,r,e,hj,_,hr⟩:=cut_head s 46
  have hj0:j=0:=by omega
  subst hj0
  have hsz:(s.extract 0 0).size=0:=ext_sz s 0 0 (Nat.zero_le _)
  have h2:=h.2.2 0 (cutAt_len s 46).1
  rw [e] at h2
  rcases h2 with ⟨_,_,h3,_⟩ | ⟨⟨h3,_⟩,_⟩
  ·have h4:(s.extract 0 0).size=1:=by
    have:(s.extract 0 0::r).getD 0 ByteArray.empty=s.extract 0 0:=rfl
    rw [this] at h3
    rw [h3]
    rfl
   omega
  ·have:(s.extract 0 0::r).getD 0 ByteArray.empty=s.extract 0 0:=rfl
   rw [this] at h3
   omega
 ·exact h0
open Go.RowKit
structure Row64 (w:World)(a:Option Addr)(n:Nat)(zs:List Int):Prop where
 len:zs.length=n
 get:∀ k,k<n→∃ b off,a=some ⟨b,off,none⟩∧b<w.heap.size∧w.cell? ⟨b,off+k,none⟩=some (.int .i64 (zs.getD k 0))
theorem Row64.kept {w w':World}{a:Option Addr}{n:Nat}{zs:List Int}(h:Row64 w a n zs)(hb:Below w.heap.size w w'):Row64 w' a n zs:=by
 refine ⟨h.len,fun k hk=>?_⟩
 obtain ⟨b,off,ha,hlt,hc⟩:=h.get k hk
 exact ⟨b,off,ha,Nat.lt_of_lt_of_le hlt hb.size,(hb.cell (p:=⟨b,off+k,none⟩) hlt).trans hc⟩
structure Own64 (lo hi:Nat)(w:World)(a:Option Addr)(n cap:Nat)(zs:List Int):Prop where
 row:w.ownsRow lo 2 1 (.slice a n cap) n (zs.map (Value.int .i64))
 lt:∀ x,a=some x→x.block<hi
theorem Own64.toRow {lo hi:Nat}{w:World}{a:Option Addr}{n cap:Nat}{zs:List Int}(h:Own64 lo hi w a n cap zs):Row64 w a n zs:=by
 have hl:zs.length=n:=by simpa using h.row.1
 refine ⟨hl,fun k hk=>?_⟩
 rcases h.row.2 with ⟨_,h0⟩ | ⟨g,cap',cur,hv,hb,hg,r⟩
 ·omega
 ·simp only [Value.slice.injEq] at hv
  obtain ⟨rfl,_,rfl⟩:=hv
  refine ⟨g,0,rfl,(Array.getElem?_eq_some_iff.1 hg).1,?_⟩
  rw [Nat.zero_add,World.ownsRow.cellAt h.row k (by omega)]
  simp [show k<zs.length by omega]
theorem Tryz.info2:(Tryz.prog.info? 2).map (fun i=>(i.zero,i.size,i.bytes))=some (some (.int .i64 0),1,8):=by kernel_rfl
theorem made64 {B n:Nat}{w:World}{v:Value}(h:w.ownsRow B 2 1 v n (madeCells (Value.int .i64 0).cells (n * 1)).toList):w.ownsRow B 2 1 v n ((List.replicate n (0:Int)).map (Value.int .i64)):=by
 have e:(madeCells (Value.int .i64 0).cells (n * 1)).toList=(List.replicate n (0:Int)).map (Value.int .i64):=by
  rw [List.map_replicate,Nat.mul_one]; exact toList_madeCells_one _ _
 rwa [e] at h
theorem toInt64S_any (a:Option Addr)(n cap:Nat)(zs:List Int)(w:World)(h:Row64 w a n zs)(hn:n≤1048576) :
  Calls Tryz.prog 40 #[.slice a n cap] w fun e w'=>∃ a',e=.returned (.slice a' n n)∧Own64 w.heap.size w'.heap.size w' a' n n zs∧Below w.heap.size w w':=by
 obtain ⟨i0,hi,hz0,hz1,hz2⟩:=info_parts Tryz.info2
 have HL:Hid (zs.length=n):=h.len
 go_enter Tryz.func40,Tryz.ntmps40
 go_wp2_with (first | (at_make; refine wpList_make_full _ rfl _ _ 29 rfl w.heap.size 2 i0 (.int .i64 0) 1 Tryz.underlying29 hi hz0 hz1 _ _ _ _ n rfl rfl rfl rfl (by rw [hz2]; omega) (by unfold maxLen; omega) (by exact Nat.le_refl _) ?_; intro w1 hown hgrow))
 have ho:=made64 hown
 have hbl:Below w.heap.size w w1:=(Below.refl _ _).grown hgrow (Nat.le_refl _) (by simp)
 clear hown hgrow hi hz0 hz1 hz2
 have H0:Hid (Row64 w a n zs):=h
 clear h
 go_loopw [4] (fun i wr=>∃ k:Nat,k≤n∧i=.int .i64 k∧wr.ownsRow w.heap.size 2 1 (.slice (some ⟨w.heap.size,0,none⟩) n n) n ((half zs k).map (Value.int .i64))∧Below w.heap.size w wr) (fun i _=>n - (intOf i).toNat)
 case atStart=>exact ⟨0,Nat.zero_le _,rfl,by rw [half_zero,HL.out]; exact ho,hbl⟩
 case round =>
  obtain ⟨k,hk,rfl,hor,hbr⟩:=hrel
  by_cases hlt:k<n
  ·obtain ⟨b,off,rfl,hb,hc⟩:=H0.out.get k hlt
   have hcr:wr.cell? ⟨b,off+k,none⟩=some (.int .i64 (zs.getD k 0)):=(hbr.cell (p:=⟨b,off+k,none⟩) hb).trans hc
   have hfr:wr.frozen? ⟨w.heap.size,k,none⟩=false:=hor.frozenAt k
   obtain ⟨y,hy⟩:∃ y,wr.cell? ⟨w.heap.size,k,none⟩=some y:=⟨_,(hor.cellAt k (by omega)).trans (List.getElem?_eq_getElem (by simp [half_len zs k (by have:=HL.out; omega),HL.out]; exact hlt))⟩
   have hs:=(hor.stored k (.int .i64 (zs.getD k 0))).1
   rw [← List.map_set,half_set zs k (by have:=HL.out; omega)] at hs
   have hb2:Below w.heap.size w (wr.setCell ⟨w.heap.size,k,none⟩ (.int .i64 (zs.getD k 0))):=hbr.setCell (Nat.le_refl _) _
   clear hc hor hbr
   go_wp2
   go_roundw
   case rel=>exact ⟨k+1,by omega,by go_num,hs,hb2⟩
   case measure=>simp [intOf]; omega
  ·have hkn:k=n:=by omega
   subst hkn
   rw [← HL.out,half_all] at hor
   have hlt2:=(hor.lt w.heap.size rfl).2
   go_wp2
   go_ret
   exact ⟨_,rfl,⟨by rw [HL.out] at hor; exact hor,fun x hx=>by cases hx; exact hlt2⟩,hbr⟩
theorem eqInt64S_same (a b:Option Addr)(n ca cb:Nat)(zs:List Int)(w:World)(hx:Row64 w a n zs)(hy:Row64 w b n zs)(hn:n≤9223372036854775807) :
  Calls Tryz.prog 50 #[.slice a n ca,.slice b n cb] w fun e w'=>e=.returned (.bool true)∧Below w.heap.size w w':=by
 have HX:Hid (Row64 w a n zs):=hx
 have HY:Hid (Row64 w b n zs):=hy
 clear hx hy
 go_enter Tryz.func50,Tryz.ntmps50
 go_wp2
 go_loopw [5] (fun i wr=>∃ k:Nat,k≤n∧i=.int .i64 k∧Below w.heap.size w wr) (fun i _=>n - (intOf i).toNat)
 case atStart=>exact ⟨0,Nat.zero_le _,rfl,Below.refl _ _⟩
 case round =>
  obtain ⟨k,hk,rfl,hbr⟩:=hrel
  by_cases hlt:k<n
  ·obtain ⟨b1,off1,rfl,hb1,hc1⟩:=HX.out.get k hlt
   obtain ⟨b2,off2,rfl,hb2,hc2⟩:=HY.out.get k hlt
   have hr1:wr.cell? ⟨b1,off1+k,none⟩=some (.int .i64 (zs.getD k 0)):=(hbr.cell (p:=⟨b1,off1+k,none⟩) hb1).trans hc1
   have hr2:wr.cell? ⟨b2,off2+k,none⟩=some (.int .i64 (zs.getD k 0)):=(hbr.cell (p:=⟨b2,off2+k,none⟩) hb2).trans hc2
   clear hc1 hc2
   obtain ⟨z,hz⟩:∃ z,z=zs.getD k 0:=⟨_,rfl⟩
   rw [← hz] at hr1 hr2
   clear hz
   go_wp2
   go_quiet (fail)
   go_wp2
   go_roundw
   case rel=>exact ⟨k+1,by omega,by go_num,below_drewN hbr nq⟩
   case measure=>simp [intOf]; omega
  ·go_wp2
   go_ret
   exact ⟨rfl,hbr⟩
open Go.RowKit
section
variable {P:Program} {Q:Exit→Act→World→Prop}
def StepsRK (P:Program)(Q:Exit→Act→World→Prop)(ops:Array Oper)(S:RSpec)(D:List Nat)(B:Nat)(w0:World)(a0:Act)(i:Nat)(os:List Oper):Prop :=
 ∀ k o,os[k]? = some o→∀ (l:Nat→Bool) (a:Act) (w:World),RI S D B w0 a0 l a w→l (i+k)=false→(∀ e∈o.after,Region.binds .any e=true→l e.on=true)→∀ K':Act→World→Prop,Hid (∀ a w,RI S D B w0 a0 (upd l (i+k)) a w→K' a w)→if Region.wanted o (yielded ops a.tmps)=true then o.wp P a w K' Q else K' (a.put o.dst undef) w
theorem StepsRK.nil {ops:Array Oper}{S:RSpec}{D:List Nat}{B:Nat}{w0:World}{a0:Act}{i:Nat}:StepsRK P Q ops S D B w0 a0 i []:=fun k o h=>by simp at h
theorem StepsRK.cons {ops:Array Oper}{S:RSpec}{D:List Nat}{B:Nat}{w0:World}{a0:Act}{i:Nat}{o:Oper}{os:List Oper}
  (h:∀ (l:Nat→Bool) (a:Act) (w:World),RI S D B w0 a0 l a w→l i=false→(∀ e∈o.after,Region.binds .any e=true→l e.on=true)→∀ K':Act→World→Prop,Hid (∀ a w,RI S D B w0 a0 (upd l i) a w→K' a w)→if Region.wanted o (yielded ops a.tmps)=true then o.wp P a w K' Q else K' (a.put o.dst undef) w)
  (hs:StepsRK P Q ops S D B w0 a0 (i+1) os):StepsRK P Q ops S D B w0 a0 i (o::os):=fun k o' hk=>by
 cases k with
 | zero =>
  simp only [List.getElem?_cons_zero,Option.some.injEq] at hk
  subst hk
  exact h
 | succ k =>
  simp only [List.getElem?_cons_succ] at hk
  have:=hs k o' hk
  rwa [Nat.add_right_comm] at this
theorem rk_plain {ops:Array Oper}{o:Oper}{a:Act}{w:World}{K:Act→World→Prop}(hg:o.guard=none)(h:o.wp P a w K Q):if Region.wanted o (yielded ops a.tmps)=true then o.wp P a w K Q else K (a.put o.dst undef) w:=by
 have hw:Region.wanted o (yielded ops a.tmps)=true:=by simp [Region.wanted,hg]
 rw [if_pos hw]
 exact h
def yb:Value→Option Bool
 | .bool b=>some b
 | _=>none
theorem yielded_of {ops:Array Oper}{a:Act}{j s:Nat}{v:Value}(hd:(ops[j]?).bind (·.dst)=some s)(hv:aT a s=v):yielded ops a.tmps j=yb v:=by
 unfold yielded
 rw [hd]
 subst hv
 unfold aT
 by_cases hs:s<a.tmps.size
 ·simp only [Option.bind_some,Array.getElem?_eq_getElem hs,Array.getD_eq_getD_getElem?,Option.getD_some]
  generalize a.tmps[s]=v
  cases v <;> rfl
 ·simp [Array.getElem?_eq_none (Nat.le_of_not_lt hs),undef,yb]
theorem rk_take {ops:Array Oper}{o:Oper}{a:Act}{w:World}{K:Act→World→Prop}(j:Nat)(want:Bool)(s:Nat)(hg:o.guard=some (j,want))(hd:(ops[j]?).bind (·.dst)=some s)(hv:aT a s=.bool want)(h:o.wp P a w K Q):if Region.wanted o (yielded ops a.tmps)=true then o.wp P a w K Q else K (a.put o.dst undef) w:=by
 have hw:Region.wanted o (yielded ops a.tmps)=true:=by simp [Region.wanted,hg,yielded_of hd hv,yb]
 rw [if_pos hw]
 exact h
theorem rk_skip {ops:Array Oper}{o:Oper}{a:Act}{w:World}{K:Act→World→Prop}(j:Nat)(want:Bool)(s:Nat)(v:Value)(hg:o.guard=some (j,want))(hd:(ops[j]?).bind (·.dst)=some s)(hv:aT a s=v)(hne:(yb v == some want)=false)(h:K (a.put o.dst undef) w):if Region.wanted o (yielded ops a.tmps)=true then o.wp P a w K Q else K (a.put o.dst undef) w:=by
 have hw:Region.wanted o (yielded ops a.tmps)=false:=by
  simp only [Region.wanted,hg,yielded_of hd hv]
  exact hne
 rw [if_neg (by rw [hw]; decide)]
 exact h
theorem opw_pick_t {o:Oper}{a:Act}{w:World}{K:Act→World→Prop}(c:Nat)(x y:Operand)(ho:o.op=.pick (.tmp c) x y)(hc:aT a c=.bool true)(v:Value)(hx:a.eval x=v)(h:K (a.put o.dst v) w):o.wp P a w K Q:=by
 refine opw_value v ?_ h
 have hc':a.eval (.tmp c)=.bool true:=hc
 unfold execOp
 simp [ho,hc',hx,asBool]
theorem opw_pick_f {o:Oper}{a:Act}{w:World}{K:Act→World→Prop}(c:Nat)(x y:Operand)(ho:o.op=.pick (.tmp c) x y)(hc:aT a c=.bool false)(v:Value)(hy:a.eval y=v)(h:K (a.put o.dst v) w):o.wp P a w K Q:=by
 refine opw_value v ?_ h
 have hc':a.eval (.tmp c)=.bool false:=hc
 unfold execOp
 simp [ho,hc',hy,asBool]
def edgesBackK (ops:Array Oper):Bool:=(List.range ops.size).all fun i=>((ops[i]?).map fun o=>o.after.all fun e=>!Region.binds .any e || decide (e.on<i)).getD true
theorem edgesBackK_of {ops:Array Oper}(h:edgesBackK ops=true){i:Nat}{o:Oper}(ho:ops[i]? = some o):∀ e∈o.after,Region.binds .any e=true→e.on<i:=by
 have hi:i<ops.size:=(Array.getElem?_eq_some_iff.1 ho).1
 have h1:=List.all_eq_true.1 h i (List.mem_range.2 hi)
 rw [ho] at h1
 simp only [Option.map_some,Option.getD_some] at h1
 refine fun e he hb=>?_
 obtain ⟨j,hj,rfl⟩:=Array.mem_iff_getElem.1 he
 have:=(Array.all_eq_true.1 h1) j hj
 simpa [hb] using this
theorem all_listedK {ops:Array Oper}{listed:Array Bool}(he:edgesBackK ops=true)(hz:listed.size=ops.size)(h:Region.ready .any ops listed = []):∀ i,i<ops.size→listed.getD i false=true:=by
 intro i
 induction i using Nat.strongRecOn with
 | ind i ih =>
  intro hi
  cases hl:listed.getD i false with
  | true=>rfl
  | false =>
   exfalso
   have ho:ops[i]? = some ops[i]:=by simp [hi]
   have hm:i∈Region.ready .any ops listed:=mem_ready.2 ⟨by
    have:i<listed.size:=hz ▸ hi
    simp [this] at hl ⊢
    exact hl,_,ho,fun e hee hb=>ih _ ((edgesBackK_of he ho) e hee hb) (Nat.lt_trans ((edgesBackK_of he ho) e hee hb) hi)⟩
   rw [h] at hm
   cases hm
theorem wpAny_rk {ops:Array Oper}{S:RSpec}{D:List Nat}{B:Nat}{w0:World}{a0:Act}(he:edgesBackK ops=true)(hs:StepsRK P Q ops S D B w0 a0 0 ops.toList)
  (hend:∀ l a w,RI S D B w0 a0 l a w→(∀ k,l k=true)→Q .normal a w) :
  ∀ (fuel:Nat) (listed:Array Bool) (a:Act) (w:World),listed.size=ops.size→listed.toList.count false≤fuel→RI S D B w0 a0 (fun k=>listed.getD k true) a w→wpAny P .any ops Q fuel listed a w:=by
 have full:∀ listed:Array Bool,listed.size=ops.size→(∀ k,k<ops.size→listed.getD k false=true)→∀ k,listed.getD k true=true:=fun listed hz h k=>by
  by_cases hk:k<listed.size
  ·have:=h k (hz ▸ hk)
   simp [hk] at this ⊢
   exact this
  ·simp [Array.getElem?_eq_none (Nat.le_of_not_lt hk)]
 intro fuel
 induction fuel with
 | zero =>
  intro listed a w hz hc hI
  have hall:∀ k,k<ops.size→listed.getD k false=true:=fun k hk=>by
   have hk':k<listed.size:=hz ▸ hk
   have h0:listed.toList.count false=0:=Nat.le_zero.1 hc
   have:=List.count_eq_zero.1 h0
   cases hv:listed[k] with
   | true=>simp [hk',hv]
   | false=>exact absurd (by rw [← hv]; exact Array.mem_toList_iff.2 (Array.getElem_mem hk')) this
  have hr:Region.ready .any ops listed = []:=by
   refine List.eq_nil_iff_forall_not_mem.2 (fun i hi=>?_)
   obtain ⟨h1,o,ho,_⟩:=mem_ready.1 hi
   have hi':i<ops.size:=(Array.getElem?_eq_some_iff.1 ho).1
   have h2:=hall i hi'
   have hi2:i<listed.size:=hz ▸ hi'
   simp [hi2] at h1 h2
   rw [h1] at h2
   cases h2
  exact ⟨hr,hend _ _ _ hI (full _ hz hall)⟩
 | succ fuel ih =>
  intro listed a w hz hc hI
  refine ⟨fun hr=>hend _ _ _ hI (full _ hz (all_listedK he hz hr)),fun i hi=>?_⟩
  obtain ⟨h1,o,ho,hed⟩:=mem_ready.1 hi
  have hi':i<ops.size:=(Array.getElem?_eq_some_iff.1 ho).1
  have hi2:i<listed.size:=hz ▸ hi'
  have hf:listed[i]=false:=by simpa [hi2] using h1
  refine wpOp_step ho (fun K' hK=>?_)
  refine hs i o (by simpa using ho) _ a w hI (by simp [hi2,hf]) (fun e hee hb=>?_) K' (fun a' w' hI'=>hK a' w' (ih _ a' w' (by simpa using hz) ?_ ?_))
  ·have h3:=hed e hee hb
   by_cases hk:e.on<listed.size
   ·simp [hk] at h3 ⊢
    exact h3
   ·simp [Array.getElem?_eq_none (Nat.le_of_not_lt hk)]
  ·have hcs:(listed.setIfInBounds i true).toList.count false+1=listed.toList.count false:=by
    have hm:0<listed.toList.count false:=List.count_pos_iff.2 (by rw [← hf]; exact Array.mem_toList_iff.2 (Array.getElem_mem hi2))
    have e1:(listed.toList[i] == false)=true:=by simp [hf]
    have e2:¬ ((true == false)=true):=by decide
    rw [Array.toList_setIfInBounds,List.count_set (by simpa using hi2),if_pos e1,if_neg e2]
    omega
   omega
  ·have:(fun k=>(listed.setIfInBounds i true).getD k true)=upd (fun k=>listed.getD k true) (0+i):=by
    funext k
    by_cases e:k=i
    ·subst e
     simp [upd,hi2]
    ·simp [upd,e,Array.getElem?_setIfInBounds_ne (Ne.symm e)]
   rw [this]
   exact hI'
theorem wp_region_rk {id:Nat}{ops:Array Oper}{a:Act}{w:World}(S:RSpec)(D:List Nat)(B:Nat)(G:Act→Prop)(hm:P.follows .mixedOrders=true)(hn:S.m=ops.size)(he:edgesBackK ops=true)(hp:(S.pres.drop S.m).all List.isEmpty=true)(hG:G a)
  (hst:∀ k,k<S.n→StB (S.fact k)) (h0:∀ k,S.m≤k→k<S.n→S.fact k (aT a (S.slot k)) w)
  (hs:∀ a0,G a0→StepsRK P Q ops S D B w a0 0 ops.toList)
  (hend:∀ a' w',Fr D a a'→Below B w w'→(∀ k,k<S.n→S.kill k = []→S.fact k (aT a' (S.slot k)) w')→Q .normal a' w'):(Code.region id ops true).wp P Q a w:=by
 refine wp_region_any hm (wpAny_rk he (hs a hG) (fun l a' w' hI hl=>hend a' w' hI.fr hI.bel (fun k hk h0=>hI.fact k hk (hl k) (by simp [h0]))) ops.size _ a _ (by simp) (by simp) ?_)
 refine ri_start (Below.refl _ _).drew (fun k hl=>?_) (fun k hk=>?_) hp (fun k h1 h2=>hst k h2 _ _ _ (h0 k h1 h2) (Below.refl _ _).drew)
 ·rw [hn]
  by_cases hk:k<ops.size
  ·simp [hk] at hl
  ·omega
 ·rw [hn] at hk
  simp [Array.getElem?_eq_none (show (Array.replicate ops.size false).size≤k by simpa using hk)]
end
end Go.Proofs.YtmdfbnlgfhjnoaaGreatDoor
