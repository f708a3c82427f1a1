import Derived.Deep.RegionLaw
import Derived.Laws.AppendOwnNone
import Derived.Laws.CopyOwn
import Derived.Test.YtmdfbnlgfhjnoaaGreatDoorFB01
import Derived.Test.YtmdfbnlgfhjnoaaGreatDoorFB05
import Derived.Lib.SplitLaws
import Derived.Lib.Split
import Derived.Deep.AppendLies
import Derived.Test.YtmdfbnlgfhjnoaaGreatDoorProg
import Derived.Test.YtmdfbnlgfhjnoaaGreatDoorFB03
set_option maxRecDepth 10000
set_option maxHeartbeats 8000000
set_option linter.unusedVariables false
namespace Go.Proofs.YtmdfbnlgfhjnoaaGreatDoor
open Go.RowKit
theorem row_cells {w:World}{ad:Addr}{m:Nat}{ys:List Int}(h:Row w (some ad) m ys):∀ j u,(ys.map (Value.int .u8))[j]? = some u→w.cell? (ad.add j)=some u:=by
 intro j u hj
 have hjl:j<ys.length:=by
  have:=(List.getElem?_eq_some_iff.1 hj).1
  simpa using this
 obtain ⟨b,off,ha,_,hc⟩:=h.get j (by rw [← h.len]; exact hjl)
 simp only [Option.some.injEq] at ha
 subst ha
 rw [Addr.add_lit,hc]
 simp [hjl] at hj
 simp [hjl,hj]
theorem row_none {w:World}{m:Nat}{ys:List Int}(h:Row w none m ys):m=0∧ys = []:=by
 rcases Nat.eq_zero_or_pos m with h0 | h0
 ·exact ⟨h0,List.eq_nil_of_length_eq_zero (by rw [h.len]; exact h0)⟩
 ·obtain ⟨b,off,ha,_⟩:=h.get 0 h0
  simp at ha
theorem wpList_append_row {P:Program}(w:World){ops:Array Oper}{rest:List Oper}{o:Oper}{a:Act}{Q:Exit→Act→World→Prop}
  (hg:o.guard=none) (s x:Operand) (t:TypeId) (hop:o.op=Op.call { callee:=Callee.builtin Builtin.append,args:=#[s,x],argTypes:=#[t,t] })
  (base:Nat) (i:TypeInfo) (h1:P.underlying t=some (.slice 5)) (h2:P.info? 5=some i) (h3:i.zero=some (.int .u8 0)) (h4:i.size=1) (h5:i.bytes=1)
  (v:Value) (n:Nat) (xs:List Value) (hs:a.eval s=v) (hown:w.ownsRow base 5 1 v n xs)
  (ao:Option Addr) (m c:Nat) (ys:List Int) (hx:a.eval x=.slice ao m c) (hrow:Row w ao m ys) (hnil:ao=none→c=0)
  (b1:n+m≤140737488355328) (b3:base≤w.heap.size)
  (hK:∀ v' w',w'.ownsRow base 5 1 v' (n+m) (xs++ys.map (Value.int .u8))→w.grownBy w' v.ownBlock→wpList P ops Q rest (a.put o.dst v') w') :
  wpList P ops Q (o::rest) a w:=by
 cases ao with
 | some ad =>
  refine wpList_append_own w hg s x t hop base 5 i (.int .u8 0) 1 1 h1 h2 h3 h4 h5 rfl (by decide) v n xs hs hown ad m c (ys.map (Value.int .u8)) hx (by rw [List.length_map,hrow.len,Nat.mul_one]) (row_cells hrow) (ints_oneCell _ _) (by unfold maxLen; omega) (by omega) b3 ?_
  intro v' w' r1 r2 _
  exact hK v' w' r1 r2
 | none =>
  obtain ⟨rfl,rfl⟩:=row_none hrow
  obtain rfl:=hnil rfl
  refine wpList_append_own_none hg s x t hop base 5 i 1 h1 h2 v n xs hs hown hx ?_
  exact hK v w (by simpa using hown) (World.grownBy.refl _ _)
open Go.RowKit
theorem l6Label_any (s:ByteArray)(w:World):Calls Tryz.prog 205 #[.string s] w (SaysW (labP s) w):=by
 by_cases c1:(s.size:Int)<1
 ·have HN:Hid (¬ labP s):=fun h=>by have:=h.1.1; omega
  go_enter Tryz.func205,Tryz.ntmps205
  go_wp2
  go_ret
  exact saysW_f HN.out
 by_cases c2:20<(s.size:Int)
 ·have HN:Hid (¬ labP s):=fun h=>by have:=h.1.2; omega
  go_enter Tryz.func205,Tryz.ntmps205
  go_wp2
  go_ret
  exact saysW_f HN.out
 obtain ⟨m,hm⟩:∃ m:Nat,s.size=m+1:=⟨s.size - 1,by omega⟩
 have h0:0<s.size:=by omega
 have hl:m<s.size:=by omega
 have x0:=cAt_get s 0 h0
 have x1:=cAt_get s m hl
 have HM:Hid (s.size - 1=m):=by show _=_; omega
 have e1:(s.size:Int) - 1=(m:Int):=by omega
 clear hm
 by_cases c3:(s[0].toNat:Int)=45
 ·have HN:Hid (¬ labP s):=fun h=>h.2.1.1 (by rw [x0]; exact c3)
  have z0:((s[0].toNat:Int) == 45)=true:=beq_iff_eq.2 c3
  clear c3 x0 x1
  go_enter Tryz.func205,Tryz.ntmps205
  go_wp2
  go_ret
  exact saysW_f HN.out
 have z0:((s[0].toNat:Int) == 45)=false:=beq_false_of_ne c3
 by_cases c4:(s[m].toNat:Int)=45
 ·have HN:Hid (¬ labP s):=fun h=>h.2.1.2 (by rw [HM.out,x1]; exact c4)
  have z1:((s[m].toNat:Int) == 45)=true:=beq_iff_eq.2 c4
  clear c3 c4 x0 x1
  go_enter Tryz.func205,Tryz.ntmps205
  go_wp2
  go_ret
  exact saysW_f HN.out
 have z1:((s[m].toNat:Int) == 45)=false:=beq_false_of_ne c4
 have HO:Hid ((1≤s.size∧s.size≤20)∧(cAt s 0≠45∧cAt s (s.size - 1)≠45)):=⟨⟨by omega,by omega⟩,by rw [x0]; exact c3,by rw [HM.out,x1]; exact c4⟩
 clear c3 c4 x0 x1
 go_enter Tryz.func205,Tryz.ntmps205
 go_wp2
 clear e1
 go_loopw [3] (fun i wr=>∃ k:Nat,k≤s.size∧i=.int .i64 k∧Hid (allB labB s k)∧w=wr) (fun i _=>s.size - (intOf i).toNat)
 case atStart=>exact ⟨0,Nat.zero_le _,rfl,(fun j hj=>absurd hj (Nat.not_lt_zero _)),rfl⟩
 case round =>
  obtain ⟨k,hk,rfl,HP,rfl⟩:=hrel
  by_cases hlt:k<s.size
  ·have hx:=cAt_get s k hlt
   have GOOD:Hid (labB (s[k].toNat:Int)→allB labB s (k+1)):=fun h=>allB_succ HP.out (by rw [hx]; exact h)
   have BAD:Hid (¬ labB (s[k].toNat:Int)→¬ labP s):=fun h q=>h (by rw [← hx]; exact q.2.2 k hlt)
   clear HP hx
   by_cases hb:labB (s[k].toNat:Int)
   ·have HN:Hid (allB labB s (k+1)):=GOOD.out hb
    have hc:(97≤(s[k].toNat:Int)∧(s[k].toNat:Int)≤122)∨((s[k].toNat:Int)<97∧48≤(s[k].toNat:Int)∧(s[k].toNat:Int)≤57)∨((s[k].toNat:Int)<97∧(s[k].toNat:Int)<48∧((s[k].toNat:Int) == 45)=true):=by
     rcases hb with (hb | hb) | hb
     ·exact .inl hb
     ·exact .inr (.inl ⟨by omega,hb.1,hb.2⟩)
     ·exact .inr (.inr ⟨by omega,by omega,beq_iff_eq.2 hb⟩)
    clear GOOD BAD hb
    rcases hc with ⟨q1,q2⟩ | ⟨q1,q2,q3⟩ | ⟨q1,q2,q3⟩
    all_goals
     go_wp2
     go_roundw
     case rel=>exact ⟨k+1,by omega,by go_num,HN,by trivial⟩
     case measure=>simp [intOf]; omega
   ·have HN:Hid (¬ labP s):=BAD.out hb
    have z5:((s[k].toNat:Int) == 45)=false:=beq_false_of_ne (fun h=>hb (.inr h))
    have hc:(97≤(s[k].toNat:Int)∧decide ((s[k].toNat:Int)≤122)=false∧48≤(s[k].toNat:Int)∧decide ((s[k].toNat:Int)≤57)=false)∨((s[k].toNat:Int)<97∧48≤(s[k].toNat:Int)∧decide ((s[k].toNat:Int)≤57)=false)∨((s[k].toNat:Int)<97∧(s[k].toNat:Int)<48):=by
     unfold labB wordB at hb
     by_cases q:97≤(s[k].toNat:Int)
     ·exact .inl ⟨q,decide_eq_false (by omega),by omega,decide_eq_false (by omega)⟩
     ·by_cases q2:48≤(s[k].toNat:Int)
      ·exact .inr (.inl ⟨by omega,q2,decide_eq_false (by omega)⟩)
      ·exact .inr (.inr ⟨by omega,by omega⟩)
    clear GOOD BAD hb
    rcases hc with ⟨q1,q2,q3,q4⟩ | ⟨q1,q2,q3⟩ | ⟨q1,q2⟩
    all_goals
     go_wp2
     go_ret
     exact saysW_f HN.out
  ·obtain rfl:k=s.size:=by omega
   have HN:Hid (labP s):=⟨HO.out.1,HO.out.2,HP.out⟩
   clear HP
   go_wp2
   go_ret
   exact saysW_t HN.out
open Go.RowKit
def pcs (s:ByteArray)(c:Int):Nat→Nat→Nat→List ByteArray
 | 0,f,i=>[s.extract f i]
 | k+1,f,i=>if cAt s i=c then s.extract f i::pcs s c k (i+1) (i+1) else pcs s c k f (i+1)
def cutAt (s:ByteArray)(c:Int):List ByteArray:=pcs s c s.size 0 0
theorem occ_one (l:List UInt8)(c:UInt8)(j:Nat):Lib.occAt l [c] j=true↔l[j]? = some c:=by
 unfold Lib.occAt
 rw [← List.head?_drop]
 cases l.drop j with
 | nil=>simp
 | cons a r =>
  simp only [List.isPrefixOf,List.head?_cons,Bool.and_true,beq_iff_eq,Option.some.injEq]
  exact eq_comm
theorem cAt_some {s:ByteArray}{c:UInt8}{j:Nat}(hj:j<s.size):s.data.toList[j]? = some c↔cAt s j=(c.toNat:Int):=by
 have h':j<s.data.toList.length:=by simpa using hj
 unfold cAt
 rw [List.getD_eq_getElem?_getD,List.getElem?_eq_getElem h']
 simp only [Option.some.injEq,Option.getD_some]
 constructor
 ·intro h; rw [h]
 ·intro h; exact UInt8.toNat_inj.1 (by omega)
theorem ext_get (s:ByteArray)(f j:Nat):(s.extract f s.size).data.toList[j]? = s.data.toList[f+j]?:=by
 rw [Lib.extract_data,List.getElem?_take,List.getElem?_drop]
 split
 ·rfl
 ·rw [List.getElem?_eq_none]
  rw [Lib.size_eq] at *
  omega
theorem ext_ext (s:ByteArray)(f a b:Nat)(hf:f+b≤s.size):(s.extract f s.size).extract a b=s.extract (f+a) (f+b):=by
 rw [Lib.extract_eq,Lib.extract_data,Lib.extract_eq]
 congr 2
 rw [Lib.size_eq] at hf
 apply List.ext_getElem?
 intro j
 simp only [List.getElem?_take,List.getElem?_drop,Lib.size_eq]
 by_cases h:j<b - a
 ·rw [if_pos h,if_pos (by omega),if_pos (by omega),Nat.add_assoc]
 ·rw [if_neg h,if_neg (by omega)]
theorem ext_size (s:ByteArray)(f:Nat):(s.extract f s.size).size=s.size - f:=by
 rw [Lib.size_eq,Lib.extract_data,List.length_take,List.length_drop,Lib.size_eq]; omega
theorem split_pcs (s sep:ByteArray)(cb:UInt8)(hsep:sep.data.toList = [cb]):∀ (k f i:Nat),i+k=s.size→f≤i→(∀ j,f≤j→j<i→cAt s j≠(cb.toNat:Int)) →
  Lib.splitB sep 0 (Lib.countB (s.extract f s.size) sep) (s.extract f s.size)=pcs s (cb.toNat:Int) k f i
 | 0,f,i,hi,hf,hno=>by
  have e:i=s.size:=by omega
  subst e
  have hx:Lib.indexB (s.extract f s.size) sep = -1:=by
   show Lib.index _ _=_
   rw [hsep]
   refine Lib.index_none fun j _=>?_
   rw [Bool.eq_false_iff]
   intro h
   rw [occ_one,ext_get] at h
   have hl:f+j<s.data.toList.length:=(List.getElem?_eq_some_iff.1 h).1
   rw [← Lib.size_eq] at hl
   exact hno (f+j) (by omega) hl ((cAt_some hl).1 h)
  rw [Lib.splitB_miss _ _ _ _ hx]
  rfl
 | k+1,f,i,hi,hf,hno=>by
  have hlt:i<s.size:=by omega
  unfold pcs
  by_cases hc:cAt s i=(cb.toNat:Int)
  ·rw [if_pos hc]
   have hsz:sep.size=1:=by rw [Lib.size_eq,hsep]; rfl
   have hx:Lib.indexB (s.extract f s.size) sep=((i - f:Nat):Int):=by
    show Lib.index _ _=_
    rw [hsep]
    refine Lib.index_first ?_ ?_ ?_
    ·rw [← Lib.size_eq,ext_size]; omega
    ·rw [occ_one,ext_get,show f+(i - f)=i by omega]
     exact (cAt_some hlt).2 hc
    ·intro j hj
     rw [Bool.eq_false_iff]
     intro h
     rw [occ_one,ext_get] at h
     exact hno (f+j) (by omega) (by omega) ((cAt_some (by omega)).1 h)
   have e1:(s.extract f s.size).extract (i - f+sep.size) (s.extract f s.size).size=s.extract (i+1) s.size:=by
    rw [ext_size,hsz,ext_ext _ _ _ _ (by omega)]
    congr 1 <;> omega
   have e2:(s.extract f s.size).extract 0 (i - f+0)=s.extract f i:=by
    rw [ext_ext _ _ _ _ (by omega)]
    congr 1 <;> omega
   rw [Lib.countB_hit _ _ _ (by omega) hx,Nat.add_comm,Lib.splitB_hit _ _ _ _ _ hx,e1,e2]
   rw [split_pcs s sep cb hsep k (i+1) (i+1) (by omega) (Nat.le_refl _) (fun j h1 h2=>by omega)]
  ·rw [if_neg hc]
   exact split_pcs s sep cb hsep k f (i+1) (by omega) (by omega) (fun j h1 h2=>by
    by_cases e:j=i
    ·rw [e]; exact hc
    ·exact hno j h1 (by omega))
theorem ext_whole (s:ByteArray):s.extract 0 s.size=s:=by
 rw [Lib.extract_eq,List.drop_zero,Nat.sub_zero,Lib.size_eq,List.take_length,Lib.mk_data]
theorem split_cut (s sep:ByteArray)(cb:UInt8)(hsep:sep.data.toList = [cb]):Lib.splitB sep 0 (Lib.countB s sep) s=cutAt s (cb.toNat:Int):=by
 have h:=split_pcs s sep cb hsep s.size 0 0 (by omega) (Nat.le_refl _) (fun j h1 h2=>by omega)
 rw [ext_whole] at h
 exact h
theorem split_len (s sep:ByteArray)(cb:UInt8)(hsep:sep.data.toList = [cb]):(cutAt s (cb.toNat:Int)).length=Lib.countB s sep+1:=by
 rw [← split_cut s sep cb hsep]
 exact Lib.splitB_all sep (by rw [Lib.size_eq,hsep]; exact Nat.le_refl _) 0 _ s rfl
theorem pcs_len (s:ByteArray)(c:Int):∀ k f i,1≤(pcs s c k f i).length∧(pcs s c k f i).length≤k+1
 | 0,_,_=>by simp [pcs]
 | k+1,f,i=>by
  unfold pcs
  have h1:=pcs_len s c k (i+1) (i+1)
  have h2:=pcs_len s c k f (i+1)
  split
  ·simp only [List.length_cons]; omega
  ·omega
theorem cutAt_len (s:ByteArray)(c:Int):1≤(cutAt s c).length∧(cutAt s c).length≤s.size+1:=pcs_len s c _ _ _
def CutInv (s:ByteArray)(c:Int)(L:List ByteArray)(f i:Nat):Prop :=
 (i≤s.size∧f≤i∧L++pcs s c (s.size - i) f i=cutAt s c)∨(s.size<i∧L=cutAt s c)
theorem CutInv.start (s:ByteArray)(c:Int):CutInv s c [] 0 0:=.inl ⟨Nat.zero_le _,Nat.le_refl _,rfl⟩
theorem CutInv.hit {s:ByteArray}{c:Int}{L:List ByteArray}{f i:Nat}(h:CutInv s c L f i)(hi:i<s.size)(hc:cAt s i=c):CutInv s c (L++[s.extract f i]) (i+1) (i+1):=by
 rcases h with ⟨h1,h2,h3⟩ | ⟨h1,_⟩
 ·refine .inl ⟨by omega,Nat.le_refl _,?_⟩
  rw [← h3,show s.size - i=(s.size - (i+1))+1 by omega,pcs,if_pos hc,List.append_assoc]
  rfl
 ·omega
theorem CutInv.miss {s:ByteArray}{c:Int}{L:List ByteArray}{f i:Nat}(h:CutInv s c L f i)(hi:i<s.size)(hc:¬ cAt s i=c):CutInv s c L f (i+1):=by
 rcases h with ⟨h1,h2,h3⟩ | ⟨h1,_⟩
 ·refine .inl ⟨by omega,by omega,?_⟩
  rw [← h3,show s.size - i=(s.size - (i+1))+1 by omega,pcs,if_neg hc]
 ·omega
theorem CutInv.last {s:ByteArray}{c:Int}{L:List ByteArray}{f:Nat}(h:CutInv s c L f s.size):CutInv s c (L++[s.extract f s.size]) (s.size+1) (s.size+1):=by
 rcases h with ⟨h1,h2,h3⟩ | ⟨h1,_⟩
 ·refine .inr ⟨by omega,?_⟩
  rw [← h3,Nat.sub_self]
  rfl
 ·omega
theorem CutInv.done {s:ByteArray}{c:Int}{L:List ByteArray}{f i:Nat}(h:CutInv s c L f i)(hi:s.size<i):L=cutAt s c:=by
 rcases h with ⟨h1,_⟩ | ⟨_,h2⟩
 ·omega
 ·exact h2
theorem CutInv.from_le {s:ByteArray}{c:Int}{L:List ByteArray}{f i:Nat}(h:CutInv s c L f i)(hi:i≤s.size):f≤i:=by
 rcases h with ⟨_,h2,_⟩ | ⟨h1,_⟩
 ·exact h2
 ·omega
open Go.RowKit
theorem cell_one_newS (w:World)(x:Value)(t:TypeId):∀ j u,[x][j]? = some u→(w.alloc (.cells #[x] t)).cell? ((⟨w.heap.size,0,none⟩:Addr).add j)=some u:=by
 intro j u h
 rw [Addr.add_lit,cell_of_row _ w.heap.size (0+j) _ t (0,0) (heap_alloc_new w _)]
 simpa using h
theorem ownsS_slice {B:Nat}{w:World}{v:Value}{n:Nat}{xs:List Value}(h:w.ownsRow B 9 1 v n xs):∃ a cap,v=.slice a n cap:=by
 rcases h.2 with ⟨rfl,rfl⟩ | ⟨g,cap,cur,rfl,_⟩
 ·exact ⟨_,_,rfl⟩
 ·exact ⟨_,_,rfl⟩
theorem below_appS {B:Nat}{w0 w w1:World}{v:Value}{n:Nat}{xs:List Value}(hb:Below B w0 w)(hB:B≤w.heap.size)(h:w.ownsRow B 9 1 v n xs)(hg:w.grownBy w1 v.ownBlock):Below B w0 w1 :=
 hb.grown hg hB (fun k hk=>(h.lt k hk).1)
theorem Tryz.info9:(Tryz.prog.info? 9).map (fun i=>(i.zero,i.size,i.bytes))=some (some (.string ByteArray.empty),1,16):=by kernel_rfl
structure Strs (B:Nat)(w:World)(a:Option Addr)(n cap:Nat)(L:List ByteArray):Prop where
 row:w.ownsRow B 9 1 (.slice a n cap) n (L.map Value.string)
theorem Strs.len {B:Nat}{w:World}{a:Option Addr}{n cap:Nat}{L:List ByteArray}(h:Strs B w a n cap L):L.length=n:=by simpa using h.row.1
theorem Strs.caps {B:Nat}{w:World}{a:Option Addr}{n cap:Nat}{L:List ByteArray}(h:Strs B w a n cap L):n≤cap∧cap≤9223372036854775807:=by
 rcases h.row.2 with ⟨hv,h0⟩ | ⟨g,cap',cur,hv,_,_,h1,h2,_⟩
 ·simp only [Value.slice.injEq] at hv
  omega
 ·simp only [Value.slice.injEq] at hv
  unfold maxLen at h2
  omega
theorem Strs.get {B:Nat}{w:World}{a:Option Addr}{n cap:Nat}{L:List ByteArray}(h:Strs B w a n cap L)(hn:0<n):∃ g,a=some ⟨g,0,none⟩∧g<w.heap.size∧∀ k,k<n→w.cell? ⟨g,k,none⟩=some (.string (L.getD k ByteArray.empty)):=by
 have hl:=h.len
 rcases h.row.2 with ⟨_,h0⟩ | ⟨g,cap',cur,hv,hb,hg,r⟩
 ·omega
 ·simp only [Value.slice.injEq] at hv
  obtain ⟨rfl,_,rfl⟩:=hv
  refine ⟨g,rfl,(Array.getElem?_eq_some_iff.1 hg).1,fun k hk=>?_⟩
  rw [World.ownsRow.cellAt h.row k (by omega)]
  simp [show k<L.length by omega]
open Go.RowKit
theorem Touch.refl (lo hi:Nat)(w:World):Touch lo hi w w:=⟨rfl,rfl,rfl,Nat.le_refl _,fun _ _ _=>rfl⟩
theorem markByteS_zero (a:Option Addr)(cap:Nat)(k:Int)(w:World) :
  Calls Tryz.prog 15 #[.slice a 0 cap,.int .i64 k] w fun e w'=>e=.returned (.int .i64 k)∧w'=w:=by
 go_enter Tryz.func15,Tryz.ntmps15
 go_wp2
 refine wp_loop_rounds 1 ?_
 rw [rounds_succ]
 go_wp2
 go_ret
 exact ⟨rfl,rfl⟩
theorem markByteS_t (B:Nat)(a:Option Addr)(n cap:Nat)(k:Int)(bs:List Int)(w:World)(h:0<n→Own B w a n cap bs)(hn:n≤1000000000)(hk0:0≤k)(hk:k≤1000000000) :
  Calls Tryz.prog 15 #[.slice a n cap,.int .i64 k] w fun e w'=>e=.returned (.int .i64 (k+n))∧(0<n→Own B w' a n cap (marks k.toNat n))∧Row w' a n (marks k.toNat n)∧∀ p q,In a n p q→Touch p q w w':=by
 rcases Nat.eq_zero_or_pos n with h0 | h0
 ·subst h0
  refine (markByteS_zero a cap k w).mono ?_
  rintro e w' ⟨rfl,rfl⟩
  exact ⟨by simp,fun h=>absurd h (Nat.lt_irrefl _),⟨rfl,fun j hj=>absurd hj (Nat.not_lt_zero _),by simp [marks]⟩,fun p q _=>Touch.refl _ _ _⟩
 ·refine (markByteS_int B a n cap k bs w (h h0) hn hk0 hk).mono ?_
  rintro e w' ⟨rfl,ho,hg⟩
  exact ⟨rfl,fun _=>ho,ho.toRow,fun p q hp=>(h h0).wrote hp h0 hg⟩
end Go.Proofs.YtmdfbnlgfhjnoaaGreatDoor
