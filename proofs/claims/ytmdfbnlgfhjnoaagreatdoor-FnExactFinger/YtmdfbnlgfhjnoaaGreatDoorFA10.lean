import Derived.Test.YtmdfbnlgfhjnoaaGreatDoorFA04
import Derived.Deep.RegionLaw
import Derived.Laws.AppendOwnNone
import Derived.Laws.CopyOwn
import Derived.Test.YtmdfbnlgfhjnoaaGreatDoorFA01
import Derived.Lib.SlBytesConst
import Derived.Laws.Closers25b
import Derived.Test.YtmdfbnlgfhjnoaaGreatDoorFA09
import Derived.Lib.SplitLaws
import Derived.Lib.Split
import Derived.Test.YtmdfbnlgfhjnoaaGreatDoorFA06
import Derived.Deep.AppendLies
import Derived.Test.YtmdfbnlgfhjnoaaGreatDoorProg
set_option maxRecDepth 10000
set_option maxHeartbeats 8000000
set_option linter.unusedVariables false
namespace Go.Proofs.YtmdfbnlgfhjnoaaGreatDoor
open Go.RowKit
def gp (b e:Int):Int:=pw b e.toNat 1000000007
def memP (y:Int):Prop:=(1≤y∧y≤1000000006)∧gp y 500000003=1
def keyP (y:Int):Prop:=memP y∧y≠1
instance (x:Int):Decidable (memP x):=by unfold memP; infer_instance
instance (x:Int):Decidable (keyP x):=by unfold keyP; infer_instance
theorem power_any (b e:Int)(w:World)(hb:0≤b)(hb':b≤1000000006)(he:0≤e)(he':e≤9223372036854775807) :
  Calls Tryz.prog 275 #[.int .i64 b,.int .i64 e] w fun r w'=>r=.returned (.int .i64 (gp b e))∧w'=w:=by
 have HV:Hid (powV b e 1000000007=(gp b e,true)):=by show _=_; unfold powV; rw [if_pos ⟨by decide,⟨hb,by omega⟩,he⟩]; rfl
 go_enter Tryz.func275,Tryz.ntmps275
 go_wp2_with fail
 refine (implPowMod_any b e 1000000007 _ he').mono ?_
 rintro r w1 ⟨rfl,rfl⟩
 rw [HV.out,pair]
 go_wp2
 go_ret
 exact ⟨rfl,rfl⟩
theorem l7PowP_any (b e:Int)(w:World)(hb:0≤b)(hb':b≤1000000006)(he:0≤e)(he':e≤9223372036854775807) :
  Calls Tryz.prog 164 #[.int .i64 b,.int .i64 e,.int .i64 1000000007] w fun r w'=>r=.returned (.int .i64 (gp b e))∧w'=w :=
 l7Pow_any b e 1000000007 w (by decide) (by decide) hb (by omega) he he'
theorem isMember_any (y:Int)(w:World):Calls Tryz.prog 271 #[.int .i64 y] w fun r w'=>r=.returned (.bool (decide (memP y)))∧w'=w:=by
 by_cases h:1≤y∧y≤1000000006
 ·have HV:Hid ((gp y 500000003 == 1)=decide (memP y)):=by
   show _=_
   by_cases h2:gp y 500000003=1
   ·rw [decide_eq_true ⟨h,h2⟩,beq_iff_eq.2 h2]
   ·rw [decide_eq_false (fun hh=>h2 hh.2),beq_false_of_ne h2]
  go_enter Tryz.func271,Tryz.ntmps271
  go_wp2_with fail
  refine (inBounds_t y 1 1000000006 _ h).mono ?_
  rintro r w1 ⟨rfl,rfl⟩
  go_wp2_with fail
  refine (power_any y 500000003 _ (by omega) h.2 (by decide) (by decide)).mono ?_
  rintro r w1 ⟨rfl,rfl⟩
  go_wp2
  go_ret
  exact ⟨by rw [← HV.out]; rfl,rfl⟩
 ·rw [decide_eq_false (fun hh=>h hh.1)]
  go_enter Tryz.func271,Tryz.ntmps271
  go_wp2_with fail
  refine (inBounds_f y 1 1000000006 _ h).mono ?_
  rintro r w1 ⟨rfl,rfl⟩
  go_wp2
  go_ret
  exact ⟨rfl,rfl⟩
theorem l7Member_any (y:Int)(w:World):Calls Tryz.prog 126 #[.int .i64 y] w fun r w'=>r=.returned (.bool (decide (memP y)))∧w'=w:=by
 by_cases h:1≤y∧y≤1000000006
 ·have HV:Hid ((gp y 500000003 == 1)=decide (memP y)):=by
   show _=_
   by_cases h2:gp y 500000003=1
   ·rw [decide_eq_true ⟨h,h2⟩,beq_iff_eq.2 h2]
   ·rw [decide_eq_false (fun hh=>h2 hh.2),beq_false_of_ne h2]
  go_enter Tryz.func126,Tryz.ntmps126
  go_wp2_with fail
  refine (l1In_t y 1 1000000006 _ h).mono ?_
  rintro r w1 ⟨rfl,rfl⟩
  go_wp2_with fail
  refine (l7PowP_any y 500000003 _ (by omega) h.2 (by decide) (by decide)).mono ?_
  rintro r w1 ⟨rfl,rfl⟩
  go_wp2
  go_ret
  exact ⟨by rw [← HV.out]; rfl,rfl⟩
 ·rw [decide_eq_false (fun hh=>h hh.1)]
  go_enter Tryz.func126,Tryz.ntmps126
  go_wp2_with fail
  refine (l1In_f y 1 1000000006 _ h).mono ?_
  rintro r w1 ⟨rfl,rfl⟩
  go_wp2
  go_ret
  exact ⟨rfl,rfl⟩
theorem isKey_any (y:Int)(w:World):Calls Tryz.prog 268 #[.int .i64 y] w fun r w'=>r=.returned (.bool (decide (keyP y)))∧w'=w:=by
 by_cases h:y=1
 ·rw [decide_eq_false (fun hh=>hh.2 h)]
  have z:(y != 1)=false:=by simp [h]
  clear h
  go_enter Tryz.func268,Tryz.ntmps268
  go_wp2
  go_ret
  exact ⟨rfl,rfl⟩
 ·have HV:Hid (decide (memP y)=decide (keyP y)):=by
   show _=_
   exact decide_eq_decide.2 ⟨fun hh=>⟨hh,h⟩,fun hh=>hh.1⟩
  have z:(y != 1)=true:=by simp [h]
  clear h
  go_enter Tryz.func268,Tryz.ntmps268
  go_wp2_with fail
  refine (isMember_any y _).mono ?_
  rintro r w1 ⟨rfl,rfl⟩
  go_wp2
  go_ret
  exact ⟨by rw [← HV.out]; rfl,rfl⟩
open Go.RowKit
theorem row_cells {w:World}{ad:Addr}{m:Nat}{ys:List Int}(h:Row w (some ad) m ys):∀ j u,(ys.map (Value.int .u8))[j]? = some u→w.cell? (ad.add j)=some u:=by
 intro j u hj
 have hjl:j<ys.length:=by
  have:=(List.getElem?_eq_some_iff.1 hj).1
  simpa using this
 obtain ⟨b,off,ha,_,hc⟩:=h.get j (by rw [← h.len]; exact hjl)
 simp only [Option.some.injEq] at ha
 subst ha
 rw [Addr.add_lit,hc]
 simp [hjl] at hj
 simp [hjl,hj]
theorem row_none {w:World}{m:Nat}{ys:List Int}(h:Row w none m ys):m=0∧ys = []:=by
 rcases Nat.eq_zero_or_pos m with h0 | h0
 ·exact ⟨h0,List.eq_nil_of_length_eq_zero (by rw [h.len]; exact h0)⟩
 ·obtain ⟨b,off,ha,_⟩:=h.get 0 h0
  simp at ha
theorem wpList_append_row {P:Program}(w:World){ops:Array Oper}{rest:List Oper}{o:Oper}{a:Act}{Q:Exit→Act→World→Prop}
  (hg:o.guard=none) (s x:Operand) (t:TypeId) (hop:o.op=Op.call { callee:=Callee.builtin Builtin.append,args:=#[s,x],argTypes:=#[t,t] })
  (base:Nat) (i:TypeInfo) (h1:P.underlying t=some (.slice 5)) (h2:P.info? 5=some i) (h3:i.zero=some (.int .u8 0)) (h4:i.size=1) (h5:i.bytes=1)
  (v:Value) (n:Nat) (xs:List Value) (hs:a.eval s=v) (hown:w.ownsRow base 5 1 v n xs)
  (ao:Option Addr) (m c:Nat) (ys:List Int) (hx:a.eval x=.slice ao m c) (hrow:Row w ao m ys) (hnil:ao=none→c=0)
  (b1:n+m≤140737488355328) (b3:base≤w.heap.size)
  (hK:∀ v' w',w'.ownsRow base 5 1 v' (n+m) (xs++ys.map (Value.int .u8))→w.grownBy w' v.ownBlock→wpList P ops Q rest (a.put o.dst v') w') :
  wpList P ops Q (o::rest) a w:=by
 cases ao with
 | some ad =>
  refine wpList_append_own w hg s x t hop base 5 i (.int .u8 0) 1 1 h1 h2 h3 h4 h5 rfl (by decide) v n xs hs hown ad m c (ys.map (Value.int .u8)) hx (by rw [List.length_map,hrow.len,Nat.mul_one]) (row_cells hrow) (ints_oneCell _ _) (by unfold maxLen; omega) (by omega) b3 ?_
  intro v' w' r1 r2 _
  exact hK v' w' r1 r2
 | none =>
  obtain ⟨rfl,rfl⟩:=row_none hrow
  obtain rfl:=hnil rfl
  refine wpList_append_own_none hg s x t hop base 5 i 1 h1 h2 v n xs hs hown hx ?_
  exact hK v w (by simpa using hown) (World.grownBy.refl _ _)
open Go.RowKit
theorem take_snoc (l:List Int)(k:Nat)(h:k<l.length):l.take (k+1)=l.take k++[l.getD k 0]:=by
 have e:l.getD k 0=l[k]:=by simp [h]
 rw [List.take_succ_eq_append_getElem h,e]
def eightI (v:Int):List Int:=eight v.toNat
theorem eightI_len (v:Int):(eightI v).length=8:=rfl
theorem eightI_byte (v:Int):∀ k,0≤(eightI v).getD k 0∧(eightI v).getD k 0≤255:=eight_byte _
theorem eight_at (n q:Nat)(h:q≤7):(n:Int) / 2 ^ (8 * q) % 256=(eightI (n:Int)).getD (7 - q) 0:=by
 have e:eightI (n:Int)=eight n:=rfl
 rw [e]
 match q,h with
 | 0,_=>simp [eight]
 | 1,_=>simp [eight]
 | 2,_=>simp [eight]
 | 3,_=>simp [eight]
 | 4,_=>simp [eight]
 | 5,_=>simp [eight]
 | 6,_=>simp [eight]
 | 7,_=>simp [eight]
theorem l1Eight_any (v:Int)(w:World)(h0:0≤v)(h1:v≤18446744073709551615) :
  Calls Tryz.prog 138 #[.int .u64 v] w fun e w'=>∃ a cap,e=.returned (.slice a 8 cap)∧Own w.heap.size w' a 8 cap (eightI v)∧Below w.heap.size w w':=by
 obtain ⟨i0,hi,hz0,hz1,hz2⟩:=info_parts Tryz.info5
 obtain ⟨n,rfl⟩:=Int.eq_ofNat_of_zero_le h0
 have hoe:=own_empty w
 have hbe:Below w.heap.size w (w.alloc (.cells #[] 5)):=(Below.refl _ _).alloc (Nat.le_refl _) _
 go_enter Tryz.func138,Tryz.ntmps138
 go_wp2
 go_loopw [3,4] (fun o i wr=>∃ (a:Option Addr) (q len cap:Nat),q≤8∧len=8 - q∧i=.int .i64 ((q:Int) - 1)∧o=.slice a len cap∧Own w.heap.size wr a len cap ((eightI (n:Int)).take (8 - q))∧Below w.heap.size w wr) (fun _ i _=>((intOf i)+1).toNat)
 case atStart=>exact ⟨_,8,0,0,Nat.le_refl _,rfl,rfl,rfl,hoe,hbe⟩
 case round =>
  obtain ⟨a,q,len,cap,hq,hle,rfl,rfl,hor,hbr⟩:=hrel
  have HLe:Hid (len=8 - q):=hle
  clear hle
  rcases q with _ | q
  ·go_wp2
   go_ret
   obtain rfl:len=8:=HLe.out
   exact ⟨_,_,rfl,hor,hbr⟩
  ·have e1:((q+1:Nat):Int) - 1=(q:Int):=by omega
   rw [e1]
   clear e1
   have hl9:len≤9:=by have:=HLe.out; omega
   have hq7:q≤7:=by omega
   have hws:w.heap.size≤wr.heap.size:=hbr.size
   have HE:Hid (_=_):=eight_at n q hq7
   go_wp2_with (at_builtin; go_loud (refine wpList_append_own _ rfl _ _ 32 rfl w.heap.size 5 i0 (.int .u8 0) 1 1 Tryz.underlying32 hi hz0 hz1 hz2 rfl (by decide) _ _ _ rfl (hor.row.alloc _) ⟨wr.heap.size,0,none⟩ 1 1 [_] rfl rfl (cell_one_new _ _ _) (by intro u hu; simp at hu; subst hu; rfl) (by unfold maxLen; omega) (by omega) (by simp; omega) ?_); intro v' w1 hown' hgrow' _)
   have hb1:Below w.heap.size w w1:=below_appended (hbr.alloc hws _) (by simp; omega) (hor.row.alloc _) hgrow'
   rw [HE.out] at hown'
   obtain ⟨a',cap',rfl,ho⟩:=own_appended (ys:=[(eightI (n:Int)).getD (7 - q) 0]) hown' hor.byte (by simpa using snoc_byte (xs:=[]) (by simp) _ (eightI_byte (n:Int) (7 - q)))
   have e2:(eightI (n:Int)).take (8 - (q+1))++[(eightI (n:Int)).getD (7 - q) 0]=(eightI (n:Int)).take (8 - q):=by
    rw [show 8 - q=7 - q+1 by omega,show 8 - (q+1)=7 - q by omega,take_snoc _ _ (by rw [eightI_len]; omega)]
   rw [e2] at ho
   go_roundw
   case rel=>exact ⟨a',q,len+1,cap',by omega,by have:=HLe.out; omega,rfl,rfl,ho,hb1⟩
   case measure=>simp [intOf]
open Go.RowKit
def pcs (s:ByteArray)(c:Int):Nat→Nat→Nat→List ByteArray
 | 0,f,i=>[s.extract f i]
 | k+1,f,i=>if cAt s i=c then s.extract f i::pcs s c k (i+1) (i+1) else pcs s c k f (i+1)
def cutAt (s:ByteArray)(c:Int):List ByteArray:=pcs s c s.size 0 0
theorem occ_one (l:List UInt8)(c:UInt8)(j:Nat):Lib.occAt l [c] j=true↔l[j]? = some c:=by
 unfold Lib.occAt
 rw [← List.head?_drop]
 cases l.drop j with
 | nil=>simp
 | cons a r =>
  simp only [List.isPrefixOf,List.head?_cons,Bool.and_true,beq_iff_eq,Option.some.injEq]
  exact eq_comm
theorem cAt_some {s:ByteArray}{c:UInt8}{j:Nat}(hj:j<s.size):s.data.toList[j]? = some c↔cAt s j=(c.toNat:Int):=by
 have h':j<s.data.toList.length:=by simpa using hj
 unfold cAt
 rw [List.getD_eq_getElem?_getD,List.getElem?_eq_getElem h']
 simp only [Option.some.injEq,Option.getD_some]
 constructor
 ·intro h; rw [h]
 ·intro h; exact UInt8.toNat_inj.1 (by omega)
theorem ext_get (s:ByteArray)(f j:Nat):(s.extract f s.size).data.toList[j]? = s.data.toList[f+j]?:=by
 rw [Lib.extract_data,List.getElem?_take,List.getElem?_drop]
 split
 ·rfl
 ·rw [List.getElem?_eq_none]
  rw [Lib.size_eq] at *
  omega
theorem ext_ext (s:ByteArray)(f a b:Nat)(hf:f+b≤s.size):(s.extract f s.size).extract a b=s.extract (f+a) (f+b):=by
 rw [Lib.extract_eq,Lib.extract_data,Lib.extract_eq]
 congr 2
 rw [Lib.size_eq] at hf
 apply List.ext_getElem?
 intro j
 simp only [List.getElem?_take,List.getElem?_drop,Lib.size_eq]
 by_cases h:j<b - a
 ·rw [if_pos h,if_pos (by omega),if_pos (by omega),Nat.add_assoc]
 ·rw [if_neg h,if_neg (by omega)]
theorem ext_size (s:ByteArray)(f:Nat):(s.extract f s.size).size=s.size - f:=by
 rw [Lib.size_eq,Lib.extract_data,List.length_take,List.length_drop,Lib.size_eq]; omega
theorem split_pcs (s sep:ByteArray)(cb:UInt8)(hsep:sep.data.toList = [cb]):∀ (k f i:Nat),i+k=s.size→f≤i→(∀ j,f≤j→j<i→cAt s j≠(cb.toNat:Int)) →
  Lib.splitB sep 0 (Lib.countB (s.extract f s.size) sep) (s.extract f s.size)=pcs s (cb.toNat:Int) k f i
 | 0,f,i,hi,hf,hno=>by
  have e:i=s.size:=by omega
  subst e
  have hx:Lib.indexB (s.extract f s.size) sep = -1:=by
   show Lib.index _ _=_
   rw [hsep]
   refine Lib.index_none fun j _=>?_
   rw [Bool.eq_false_iff]
   intro h
   rw [occ_one,ext_get] at h
   have hl:f+j<s.data.toList.length:=(List.getElem?_eq_some_iff.1 h).1
   rw [← Lib.size_eq] at hl
   exact hno (f+j) (by omega) hl ((cAt_some hl).1 h)
  rw [Lib.splitB_miss _ _ _ _ hx]
  rfl
 | k+1,f,i,hi,hf,hno=>by
  have hlt:i<s.size:=by omega
  unfold pcs
  by_cases hc:cAt s i=(cb.toNat:Int)
  ·rw [if_pos hc]
   have hsz:sep.size=1:=by rw [Lib.size_eq,hsep]; rfl
   have hx:Lib.indexB (s.extract f s.size) sep=((i - f:Nat):Int):=by
    show Lib.index _ _=_
    rw [hsep]
    refine Lib.index_first ?_ ?_ ?_
    ·rw [← Lib.size_eq,ext_size]; omega
    ·rw [occ_one,ext_get,show f+(i - f)=i by omega]
     exact (cAt_some hlt).2 hc
    ·intro j hj
     rw [Bool.eq_false_iff]
     intro h
     rw [occ_one,ext_get] at h
     exact hno (f+j) (by omega) (by omega) ((cAt_some (by omega)).1 h)
   have e1:(s.extract f s.size).extract (i - f+sep.size) (s.extract f s.size).size=s.extract (i+1) s.size:=by
    rw [ext_size,hsz,ext_ext _ _ _ _ (by omega)]
    congr 1 <;> omega
   have e2:(s.extract f s.size).extract 0 (i - f+0)=s.extract f i:=by
    rw [ext_ext _ _ _ _ (by omega)]
    congr 1 <;> omega
   rw [Lib.countB_hit _ _ _ (by omega) hx,Nat.add_comm,Lib.splitB_hit _ _ _ _ _ hx,e1,e2]
   rw [split_pcs s sep cb hsep k (i+1) (i+1) (by omega) (Nat.le_refl _) (fun j h1 h2=>by omega)]
  ·rw [if_neg hc]
   exact split_pcs s sep cb hsep k f (i+1) (by omega) (by omega) (fun j h1 h2=>by
    by_cases e:j=i
    ·rw [e]; exact hc
    ·exact hno j h1 (by omega))
theorem ext_whole (s:ByteArray):s.extract 0 s.size=s:=by
 rw [Lib.extract_eq,List.drop_zero,Nat.sub_zero,Lib.size_eq,List.take_length,Lib.mk_data]
theorem split_cut (s sep:ByteArray)(cb:UInt8)(hsep:sep.data.toList = [cb]):Lib.splitB sep 0 (Lib.countB s sep) s=cutAt s (cb.toNat:Int):=by
 have h:=split_pcs s sep cb hsep s.size 0 0 (by omega) (Nat.le_refl _) (fun j h1 h2=>by omega)
 rw [ext_whole] at h
 exact h
theorem split_len (s sep:ByteArray)(cb:UInt8)(hsep:sep.data.toList = [cb]):(cutAt s (cb.toNat:Int)).length=Lib.countB s sep+1:=by
 rw [← split_cut s sep cb hsep]
 exact Lib.splitB_all sep (by rw [Lib.size_eq,hsep]; exact Nat.le_refl _) 0 _ s rfl
theorem pcs_len (s:ByteArray)(c:Int):∀ k f i,1≤(pcs s c k f i).length∧(pcs s c k f i).length≤k+1
 | 0,_,_=>by simp [pcs]
 | k+1,f,i=>by
  unfold pcs
  have h1:=pcs_len s c k (i+1) (i+1)
  have h2:=pcs_len s c k f (i+1)
  split
  ·simp only [List.length_cons]; omega
  ·omega
theorem cutAt_len (s:ByteArray)(c:Int):1≤(cutAt s c).length∧(cutAt s c).length≤s.size+1:=pcs_len s c _ _ _
def CutInv (s:ByteArray)(c:Int)(L:List ByteArray)(f i:Nat):Prop :=
 (i≤s.size∧f≤i∧L++pcs s c (s.size - i) f i=cutAt s c)∨(s.size<i∧L=cutAt s c)
theorem CutInv.start (s:ByteArray)(c:Int):CutInv s c [] 0 0:=.inl ⟨Nat.zero_le _,Nat.le_refl _,rfl⟩
theorem CutInv.hit {s:ByteArray}{c:Int}{L:List ByteArray}{f i:Nat}(h:CutInv s c L f i)(hi:i<s.size)(hc:cAt s i=c):CutInv s c (L++[s.extract f i]) (i+1) (i+1):=by
 rcases h with ⟨h1,h2,h3⟩ | ⟨h1,_⟩
 ·refine .inl ⟨by omega,Nat.le_refl _,?_⟩
  rw [← h3,show s.size - i=(s.size - (i+1))+1 by omega,pcs,if_pos hc,List.append_assoc]
  rfl
 ·omega
theorem CutInv.miss {s:ByteArray}{c:Int}{L:List ByteArray}{f i:Nat}(h:CutInv s c L f i)(hi:i<s.size)(hc:¬ cAt s i=c):CutInv s c L f (i+1):=by
 rcases h with ⟨h1,h2,h3⟩ | ⟨h1,_⟩
 ·refine .inl ⟨by omega,by omega,?_⟩
  rw [← h3,show s.size - i=(s.size - (i+1))+1 by omega,pcs,if_neg hc]
 ·omega
theorem CutInv.last {s:ByteArray}{c:Int}{L:List ByteArray}{f:Nat}(h:CutInv s c L f s.size):CutInv s c (L++[s.extract f s.size]) (s.size+1) (s.size+1):=by
 rcases h with ⟨h1,h2,h3⟩ | ⟨h1,_⟩
 ·refine .inr ⟨by omega,?_⟩
  rw [← h3,Nat.sub_self]
  rfl
 ·omega
theorem CutInv.done {s:ByteArray}{c:Int}{L:List ByteArray}{f i:Nat}(h:CutInv s c L f i)(hi:s.size<i):L=cutAt s c:=by
 rcases h with ⟨h1,_⟩ | ⟨_,h2⟩
 ·omega
 ·exact h2
theorem CutInv.from_le {s:ByteArray}{c:Int}{L:List ByteArray}{f i:Nat}(h:CutInv s c L f i)(hi:i≤s.size):f≤i:=by
 rcases h with ⟨_,h2,_⟩ | ⟨h1,_⟩
 ·exact h2
 ·omega
open Go.RowKit
theorem cell_one_newS (w:World)(x:Value)(t:TypeId):∀ j u,[x][j]? = some u→(w.alloc (.cells #[x] t)).cell? ((⟨w.heap.size,0,none⟩:Addr).add j)=some u:=by
 intro j u h
 rw [Addr.add_lit,cell_of_row _ w.heap.size (0+j) _ t (0,0) (heap_alloc_new w _)]
 simpa using h
theorem ownsS_slice {B:Nat}{w:World}{v:Value}{n:Nat}{xs:List Value}(h:w.ownsRow B 9 1 v n xs):∃ a cap,v=.slice a n cap:=by
 rcases h.2 with ⟨rfl,rfl⟩ | ⟨g,cap,cur,rfl,_⟩
 ·exact ⟨_,_,rfl⟩
 ·exact ⟨_,_,rfl⟩
theorem below_appS {B:Nat}{w0 w w1:World}{v:Value}{n:Nat}{xs:List Value}(hb:Below B w0 w)(hB:B≤w.heap.size)(h:w.ownsRow B 9 1 v n xs)(hg:w.grownBy w1 v.ownBlock):Below B w0 w1 :=
 hb.grown hg hB (fun k hk=>(h.lt k hk).1)
theorem Tryz.info9:(Tryz.prog.info? 9).map (fun i=>(i.zero,i.size,i.bytes))=some (some (.string ByteArray.empty),1,16):=by kernel_rfl
structure Strs (B:Nat)(w:World)(a:Option Addr)(n cap:Nat)(L:List ByteArray):Prop where
 row:w.ownsRow B 9 1 (.slice a n cap) n (L.map Value.string)
theorem Strs.len {B:Nat}{w:World}{a:Option Addr}{n cap:Nat}{L:List ByteArray}(h:Strs B w a n cap L):L.length=n:=by simpa using h.row.1
theorem Strs.caps {B:Nat}{w:World}{a:Option Addr}{n cap:Nat}{L:List ByteArray}(h:Strs B w a n cap L):n≤cap∧cap≤9223372036854775807:=by
 rcases h.row.2 with ⟨hv,h0⟩ | ⟨g,cap',cur,hv,_,_,h1,h2,_⟩
 ·simp only [Value.slice.injEq] at hv
  omega
 ·simp only [Value.slice.injEq] at hv
  unfold maxLen at h2
  omega
theorem Strs.get {B:Nat}{w:World}{a:Option Addr}{n cap:Nat}{L:List ByteArray}(h:Strs B w a n cap L)(hn:0<n):∃ g,a=some ⟨g,0,none⟩∧g<w.heap.size∧∀ k,k<n→w.cell? ⟨g,k,none⟩=some (.string (L.getD k ByteArray.empty)):=by
 have hl:=h.len
 rcases h.row.2 with ⟨_,h0⟩ | ⟨g,cap',cur,hv,hb,hg,r⟩
 ·omega
 ·simp only [Value.slice.injEq] at hv
  obtain ⟨rfl,_,rfl⟩:=hv
  refine ⟨g,rfl,(Array.getElem?_eq_some_iff.1 hg).1,fun k hk=>?_⟩
  rw [World.ownsRow.cellAt h.row k (by omega)]
  simp [show k<L.length by omega]
end Go.Proofs.YtmdfbnlgfhjnoaaGreatDoor
