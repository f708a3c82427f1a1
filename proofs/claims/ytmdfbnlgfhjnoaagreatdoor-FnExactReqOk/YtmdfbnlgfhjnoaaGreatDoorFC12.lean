import Derived.Lib.CutLaws
import Derived.Test.YtmdfbnlgfhjnoaaGreatDoorShelf
import Derived.Laws.Tables
import Derived.RegionTactic
import Derived.Tactics
import Derived.Test.YtmdfbnlgfhjnoaaGreatDoorFC10
set_option maxRecDepth 10000
set_option maxHeartbeats 8000000
set_option linter.unusedVariables false
namespace Go.Proofs.YtmdfbnlgfhjnoaaGreatDoor
open Go.RowKit
theorem l5Split_any (s:ByteArray)(c:Int)(w:World)(hs:s.size≤1048576) :
  Calls Tryz.prog 204 #[.string s,.int .u8 c] w fun e w'=>∃ a n cap,e=.returned (.slice a n cap)∧n=(cutAt s c).length∧Strs w.heap.size w' a n cap (cutAt s c)∧Below w.heap.size w w':=by
 obtain ⟨i0,hi,hz0,hz1,hz2⟩:=info_parts Tryz.info9
 obtain ⟨L0,hL0⟩:∃ L0,L0=cutAt s c:=⟨_,rfl⟩
 rw [← hL0]
 have HL:Hid (L0=cutAt s c):=hL0
 clear hL0
 have HO:Hid ((w.alloc (.cells #[] 9)).ownsRow w.heap.size 9 1 (.slice (some ⟨w.heap.size,0,none⟩) 0 0) 0 (([]:List ByteArray).map Value.string)):=World.ownsRow_lit w #[] 0 (Nat.le_refl _) (Nat.zero_le _) rfl
 have hbe:Below w.heap.size w (w.alloc (.cells #[] 9)):=(Below.refl _ _).alloc (Nat.le_refl _) _
 go_enter Tryz.func204,Tryz.ntmps204
 go_wp2
 go_loopw [5,6,7] (fun o f i wr=>∃ (fr k len cp:Nat) (ao:Option Addr) (L:List ByteArray),fr≤s.size+1∧k≤s.size+1∧o=.slice ao len cp∧f=.int .i64 fr∧i=.int .i64 k∧len≤k∧Hid (CutInv s c L fr k)∧wr.ownsRow w.heap.size 9 1 (.slice ao len cp) len (L.map Value.string)∧Below w.heap.size w wr) (fun _ _ i _=>s.size+1 - (intOf i).toNat)
 case atStart=>exact ⟨0,0,0,0,_,[],by omega,by omega,rfl,rfl,rfl,by omega,CutInv.start s c,HO.out,hbe⟩
 case round =>
  clear HO hbe
  obtain ⟨fr,k,len,cp,ao,L,hf,hk,rfl,rfl,rfl,hlk,HC,hor,hbr⟩:=hrel
  have hws:w.heap.size≤wr.heap.size:=hbr.size
  by_cases hlt:k≤s.size
  ·have hfk:fr≤k:=HC.out.from_le hlt
   by_cases heq:k=s.size
   ·subst heq
    have HN:Hid (CutInv s c (L++[s.extract fr s.size]) (s.size+1) (s.size+1)):=HC.out.last
    clear HC
    go_wp2_with (at_builtin; refine wpList_append_own _ rfl _ _ 225 rfl w.heap.size 9 i0 (.string ByteArray.empty) 1 16 Tryz.underlying225 hi hz0 hz1 hz2 rfl (by decide) _ _ _ rfl (hor.alloc _) ⟨wr.heap.size,0,none⟩ 1 1 [_] rfl rfl (cell_one_newS _ _ _) (by intro u hu; simp at hu; subst hu; rfl) (by unfold maxLen; omega) (by omega) (by simp; omega) ?_; intro v' w1 hown' hgrow' _)
    have hb1:Below w.heap.size w w1:=below_appS (hbr.alloc hws _) (by simp; omega) (hor.alloc _) hgrow'
    obtain ⟨a',cap',rfl⟩:=ownsS_slice hown'
    have HO2:Hid (w1.ownsRow w.heap.size 9 1 (.slice a' (len+1) cap') (len+1) ((L++[s.extract fr s.size]).map Value.string)):=by
     show World.ownsRow _ _ _ _ _ _ _
     rw [List.map_append]
     exact hown'
    clear hown' hgrow'
    go_wp2
    go_roundw
    case rel=>exact ⟨s.size+1,s.size+1,len+1,cap',a',L++[s.extract fr s.size],by omega,by omega,rfl,rfl,by go_num,by omega,HN,HO2.out,hb1⟩
    case measure=>simp [intOf]
   ·have hlt2:k<s.size:=by omega
    have hx:=cAt_get s k hlt2
    by_cases hc:(s[k].toNat:Int)=c
    ·have HN:Hid (CutInv s c (L++[s.extract fr k]) (k+1) (k+1)):=HC.out.hit hlt2 (hx.trans hc)
     have z:((s[k].toNat:Int) == c)=true:=beq_iff_eq.2 hc
     clear HC hc hx
     go_wp2_with (at_builtin; refine wpList_append_own _ rfl _ _ 225 rfl w.heap.size 9 i0 (.string ByteArray.empty) 1 16 Tryz.underlying225 hi hz0 hz1 hz2 rfl (by decide) _ _ _ rfl (hor.alloc _) ⟨wr.heap.size,0,none⟩ 1 1 [_] rfl rfl (cell_one_newS _ _ _) (by intro u hu; simp at hu; subst hu; rfl) (by unfold maxLen; omega) (by omega) (by simp; omega) ?_; intro v' w1 hown' hgrow' _)
     have hb1:Below w.heap.size w w1:=below_appS (hbr.alloc hws _) (by simp; omega) (hor.alloc _) hgrow'
     obtain ⟨a',cap',rfl⟩:=ownsS_slice hown'
     have HO2:Hid (w1.ownsRow w.heap.size 9 1 (.slice a' (len+1) cap') (len+1) ((L++[s.extract fr k]).map Value.string)):=by
      show World.ownsRow _ _ _ _ _ _ _
      rw [List.map_append]
      exact hown'
     clear hown' hgrow'
     go_wp2
     go_roundw
     case rel=>exact ⟨k+1,k+1,len+1,cap',a',L++[s.extract fr k],by omega,by omega,rfl,by go_num,by go_num,by omega,HN,HO2.out,hb1⟩
     case measure=>simp [intOf]; omega
    ·have HN:Hid (CutInv s c L fr (k+1)):=HC.out.miss hlt2 (fun h=>hc (hx.symm.trans h))
     have z:((s[k].toNat:Int) == c)=false:=beq_false_of_ne hc
     clear HC hc hx
     go_wp2
     go_roundw
     case rel=>exact ⟨fr,k+1,len,cp,ao,L,by omega,by omega,rfl,rfl,by go_num,by omega,HN,hor,hbr⟩
     case measure=>simp [intOf]; omega
  ·have HD:Hid (L=L0):=by show L=L0; rw [HL.out]; exact HC.out.done (by omega)
   clear HC
   go_wp2
   go_ret
   have e:=HD.out
   subst e
   have hl:L.length=len:=by simpa using hor.1
   exact ⟨ao,len,cp,rfl,hl.symm,⟨hor⟩,hbr⟩
open Go.RowKit
def star:ByteArray:=⟨#[42]⟩
def isStar (L:List ByteArray)(wild:Bool)(k:Nat):Prop:=k=0∧wild=true∧L.getD 0 ByteArray.empty=star∧2<L.length
def hostL (L:List ByteArray)(wild:Bool)(k:Nat):Prop:=∀ j,j<k→isStar L wild j∨labP (L.getD j ByteArray.empty)
def hostP (s:ByteArray)(wild:Bool):Prop:=s.size≤100∧(cutAt s 46).length≤10∧hostL (cutAt s 46) wild (cutAt s 46).length
theorem hostL_succ {L:List ByteArray}{wild:Bool}{k:Nat}(h:hostL L wild k)(h1:isStar L wild k∨labP (L.getD k ByteArray.empty)):hostL L wild (k+1):=fun j hj=>by
 by_cases e:j=k
 ·rw [e]; exact h1
 ·exact h j (by omega)
theorem toList_star (b:ByteArray):(b.toList == [42])=true↔b=star:=by
 rw [ByteArray.toList_eq,beq_iff_eq]
 constructor
 ·intro h
  have e:=Lib.mk_data b
  rw [h] at e
  exact e.symm
 ·intro h; rw [h]; rfl
def SaysB (P:Prop)(w:World)(e:Ending)(w':World):Prop:=∃ b,e=.returned (.bool b)∧Hid (b=true↔P)∧Below w.heap.size w w'
theorem saysB_t {P:Prop}{w w':World}(h:P)(hb:Below w.heap.size w w'):SaysB P w (.returned (.bool true)) w':=⟨true,rfl,⟨fun _=>h,fun _=>rfl⟩,hb⟩
theorem saysB_f {P:Prop}{w w':World}(h:¬ P)(hb:Below w.heap.size w w'):SaysB P w (.returned (.bool false)) w':=⟨false,rfl,⟨fun e=>(by cases e),fun e=>absurd e h⟩,hb⟩
theorem specHostOk_any (s:ByteArray)(wild:Bool)(w:World):Calls Tryz.prog 175 #[.string s,.bool wild] w (SaysB (hostP s wild) w):=by
 obtain ⟨P,hP⟩:∃ P,P=hostP s wild:=⟨_,rfl⟩
 rw [← hP]
 have HP:Hid (P=hostP s wild):=hP
 clear hP
 by_cases h100:100<s.size
 ·have HN:Hid (¬ P):=by show ¬ P; rw [HP.out]; intro h; have:=h.1; omega
  go_enter Tryz.func175,Tryz.ntmps175
  go_wp2
  go_ret
  exact saysB_f HN.out (Below.refl _ _)
 go_enter Tryz.func175,Tryz.ntmps175
 go_wp2_with fail
 refine (l5Split_any s 46 _ (by omega)).mono ?_
 rintro e w1 ⟨a,n,cap,rfl,hn,HS0,hb⟩
 obtain ⟨L,hL⟩:∃ L,L=cutAt s 46:=⟨_,rfl⟩
 rw [← hL] at hn HS0
 have hlen:=cutAt_len s 46
 rw [← hL,← hn] at hlen
 have HL:Hid (P↔L.length≤10∧hostL L wild L.length):=by
  show P↔_
  rw [HP.out,hL]
  exact ⟨fun h=>h.2,fun h=>⟨by omega,h⟩⟩
 have HLEN:Hid (L.length=n):=hn.symm
 clear HP hL hn
 obtain ⟨hc1,hc2⟩:=HS0.caps
 obtain ⟨g,rfl,hg,hcell⟩:=HS0.get (by omega)
 clear HS0
 obtain ⟨hl1,hl2⟩:=hlen
 by_cases h10:10<n
 ·have HN:Hid (¬ P):=by show ¬ P; rw [HL.out,HLEN.out]; intro h; have:=h.1; omega
  clear hcell
  go_wp2
  go_ret
  exact saysB_f HN.out hb
 have x0:w1.cell? ⟨g,0,none⟩=some (.string (L.getD 0 ByteArray.empty)):=hcell 0 (by omega)
 obtain ⟨b0,hb0⟩:∃ b0,b0=L.getD 0 ByteArray.empty:=⟨_,rfl⟩
 rw [← hb0] at x0
 have HB0:Hid (b0=L.getD 0 ByteArray.empty):=hb0
 clear hb0
 have HC:Hid (∀ k,k<n→w1.cell? ⟨g,k,none⟩=some (.string (L.getD k ByteArray.empty))):=hcell
 clear hcell
 go_wp2
 go_loopw [6] (fun i wr=>∃ k:Nat,k≤n∧i=.int .i64 k∧Hid (hostL L wild k)∧w1=wr) (fun i _=>n - (intOf i).toNat)
 case atStart=>exact ⟨0,by omega,rfl,(fun j hj=>absurd hj (Nat.not_lt_zero _)),rfl⟩
 case round =>
  obtain ⟨k,hk,rfl,HI,rfl⟩:=hrel
  by_cases hlt:k<n
  ·by_cases hst:isStar L wild k
   ·have HN:Hid (hostL L wild (k+1)):=hostL_succ HI.out (.inl hst)
    obtain ⟨rfl,rfl,h3,h4⟩:=hst
    rw [HLEN.out] at h4
    have z:(b0.toList == [42])=true:=(toList_star b0).2 (HB0.out.trans h3)
    clear HI h3
    go_wp2
    go_roundw
    case rel=>exact ⟨1,by omega,rfl,HN,by trivial⟩
    case measure=>simp [intOf]; omega
   ·have xk:w1.cell? ⟨g,k,none⟩=some (.string (L.getD k ByteArray.empty)):=HC.out k hlt
    obtain ⟨bk,hbk⟩:∃ bk,bk=L.getD k ByteArray.empty:=⟨_,rfl⟩
    rw [← hbk] at xk
    have HN:Hid (labP bk→hostL L wild (k+1)):=fun h=>hostL_succ HI.out (.inr (hbk ▸ h))
    have HF:Hid (¬ labP bk→¬ P):=fun h=>by
     rw [HL.out,HLEN.out]
     rintro ⟨_,h2⟩
     rcases h2 k hlt with h3 | h3
     ·exact hst h3
     ·exact h (hbk ▸ h3)
    have hcs:(k≠0)∨(k=0∧wild=false)∨(k=0∧wild=true∧(b0.toList == [42])=false)∨(k=0∧wild=true∧(b0.toList == [42])=true∧¬ 2<n):=by
     by_cases e0:k=0
     ·cases hw:wild with
      | false=>exact .inr (.inl ⟨e0,rfl⟩)
      | true =>
       cases hz:(b0.toList == [42]) with
       | false=>exact .inr (.inr (.inl ⟨e0,rfl,rfl⟩))
       | true=>exact .inr (.inr (.inr ⟨e0,rfl,rfl,fun h2=>hst ⟨e0,hw,HB0.out.symm.trans ((toList_star b0).1 hz),by rw [HLEN.out]; exact h2⟩⟩))
     ·exact .inl e0
    clear hbk hst HI HC HB0
    rcases hcs with h1 | ⟨rfl,rfl⟩ | ⟨rfl,rfl,hz⟩ | ⟨rfl,rfl,hz,h2⟩
    ·have z0:((k:Int) == 0)=false:=beq_false_of_ne (by omega)
     go_wp2_with fail
     refine (l6Label_any bk _).mono ?_
     rintro e w2 ⟨b,rfl,HV,rfl⟩
     cases b with
     | true =>
      have HN2:Hid (hostL L wild (k+1)):=HN.out (HV.out.1 rfl)
      clear HN HF HV
      go_wp2
      go_roundw
      case rel=>exact ⟨k+1,by omega,by go_num,HN2,by trivial⟩
      case measure=>simp [intOf]; omega
     | false =>
      have HF2:Hid (¬ P):=HF.out (fun h=>Bool.false_ne_true (HV.out.2 h))
      clear HN HF HV
      go_wp2
      go_ret
      exact saysB_f HF2.out hb
    all_goals
     have exx:b0=bk:=by
      have:=x0.symm.trans xk
      simpa using this
     subst exx
     go_wp2_with fail
     refine (l6Label_any b0 _).mono ?_
     rintro e w2 ⟨b,rfl,HV,rfl⟩
     cases b with
     | true =>
      have HN2:=HN.out (HV.out.1 rfl)
      have HN3:Hid (_):=HN2
      clear HN HF HV HN2
      go_wp2
      go_roundw
      case rel=>exact ⟨1,by omega,rfl,HN3,by trivial⟩
      case measure=>simp [intOf]; omega
     | false =>
      have HF2:Hid (¬ P):=HF.out (fun h=>Bool.false_ne_true (HV.out.2 h))
      clear HN HF HV
      go_wp2
      go_ret
      exact saysB_f HF2.out hb
  ·obtain rfl:k=n:=by omega
   have HN:Hid P:=by show P; rw [HL.out,HLEN.out]; exact ⟨by omega,HI.out⟩
   clear HI
   go_wp2
   go_ret
   exact saysB_t HN.out hb
open Go.RowKit
def behind (s:ByteArray)(c:Int):Nat→Nat→ByteArray
 | 0,_=>ByteArray.empty
 | k+1,i=>if cAt s i=c then s.extract (i+1) s.size else behind s c k (i+1)
def has (s:ByteArray)(c:Int):Prop:=∃ j,j<s.size∧cAt s j=c
theorem index_one (s:ByteArray)(cb:UInt8):∀ (k i:Nat),i+k=s.size→(∀ j,j<i→cAt s j≠(cb.toNat:Int)) →
  (Lib.index s.data.toList [cb] = -1∧behind s (cb.toNat:Int) k i=ByteArray.empty∧(∀ j,j<s.size→cAt s j≠(cb.toNat:Int))) ∨
  (∃ t:Nat,Lib.index s.data.toList [cb]=(t:Int)∧t<s.size∧cAt s t=(cb.toNat:Int)∧(∀ j,j<t→cAt s j≠(cb.toNat:Int))∧behind s (cb.toNat:Int) k i=s.extract (t+1) s.size)
 | 0,i,hi,hno=>by
  refine .inl ⟨?_,rfl,fun j hj=>hno j (by omega)⟩
  refine Lib.index_none fun j _=>?_
  rw [Bool.eq_false_iff]
  intro h
  rw [occ_one] at h
  have hl:j<s.data.toList.length:=(List.getElem?_eq_some_iff.1 h).1
  rw [← Lib.size_eq] at hl
  exact hno j (by omega) ((cAt_some hl).1 h)
 | k+1,i,hi,hno=>by
  have hlt:i<s.size:=by omega
  unfold behind
  by_cases hc:cAt s i=(cb.toNat:Int)
  ·rw [if_pos hc]
   refine .inr ⟨i,?_,hlt,hc,hno,rfl⟩
   refine Lib.index_first ?_ ?_ ?_
   ·rw [← Lib.size_eq]; omega
   ·rw [occ_one]; exact (cAt_some hlt).2 hc
   ·intro j hj
    rw [Bool.eq_false_iff]
    intro h
    rw [occ_one] at h
    exact hno j hj ((cAt_some (by omega)).1 h)
  ·rw [if_neg hc]
   exact index_one s cb k (i+1) (by omega) (fun j h1=>by
    by_cases e:j=i
    ·rw [e]; exact hc
    ·exact hno j (by omega))
theorem ext_cAt (s:ByteArray)(f j t:Nat)(ht:f+t<j):cAt (s.extract f j) t=cAt s (f+t):=by
 unfold cAt
 rw [Lib.extract_data]
 simp only [List.getD_eq_getElem?_getD,List.getElem?_take,List.getElem?_drop]
 rw [if_pos (by omega)]
theorem ext_sz (s:ByteArray)(f j:Nat)(hj:j≤s.size):(s.extract f j).size=j - f:=by
 rw [Lib.size_eq,Lib.extract_data,List.length_take,List.length_drop]
 rw [Lib.size_eq] at hj
 omega
theorem pcs_head (s:ByteArray)(c:Int):∀ (k f i:Nat),i+k=s.size→f≤i →
  ∃ j r,pcs s c k f i=s.extract f j::r∧i≤j∧j≤s.size∧(∀ t,i≤t→t<j→cAt s t≠c)∧((r = []∧j=s.size)∨(r≠[]∧j<s.size∧cAt s j=c))
 | 0,f,i,hi,hf=>⟨i,[],rfl,Nat.le_refl _,by omega,fun t h1 h2=>by omega,.inl ⟨rfl,by omega⟩⟩
 | k+1,f,i,hi,hf=>by
  unfold pcs
  by_cases hc:cAt s i=c
  ·rw [if_pos hc]
   refine ⟨i,_,rfl,Nat.le_refl _,by omega,fun t h1 h2=>by omega,.inr ⟨fun h=>?_,by omega,hc⟩⟩
   have:=(pcs_len s c k (i+1) (i+1)).1
   rw [h] at this
   simp at this
  ·rw [if_neg hc]
   obtain ⟨j,r,h1,h2,h3,h4,h5⟩:=pcs_head s c k f (i+1) (by omega) (by omega)
   refine ⟨j,r,h1,by omega,h3,fun t a b=>?_,h5⟩
   by_cases e:t=i
   ·rw [e]; exact hc
   ·exact h4 t (by omega) b
theorem cut_head (s:ByteArray)(c:Int):∃ j r,cutAt s c=s.extract 0 j::r∧j≤s.size∧(∀ t,t<j→cAt s t≠c)∧((r = []∧j=s.size)∨(r≠[]∧j<s.size∧cAt s j=c)):=by
 obtain ⟨j,r,h1,_,h3,h4,h5⟩:=pcs_head s c s.size 0 0 (by omega) (Nat.le_refl _)
 exact ⟨j,r,h1,h3,fun t ht=>h4 t (Nat.zero_le _) ht,h5⟩
open Go.RowKit
def MaxW (w:World):Prop:=∃ m,w.cell? ⟨0,0,none⟩=some (.int .i64 m)
theorem MaxW.kept {w w':World}(h:MaxW w)(hb:Below w.heap.size w w'):MaxW w':=by
 obtain ⟨m,hm⟩:=h
 exact ⟨m,(hb.cell (p:=⟨0,0,none⟩) (World.block_lt_of_cell? w _ hm)).trans hm⟩
theorem split_any (s sep:ByteArray)(cb:UInt8)(hsep:sep.data.toList = [cb])(w:World)(hs:s.size≤1048576)(hm:MaxW w) :
  Calls Tryz.prog 222 #[.string s,.string sep] w fun e w'=>∃ g n,e=.returned (.slice (some ⟨g,0,none⟩) n n)∧n=(cutAt s (cb.toNat:Int)).length∧g<w'.heap.size ∧
   Hid (∀ k,k<n→w'.cell? ⟨g,k,none⟩=some (.string ((cutAt s (cb.toNat:Int)).getD k ByteArray.empty)))∧Below w.heap.size w w':=by
 obtain ⟨m,hm⟩:=hm
 refine (Tryz.strings_Split s sep m w (by omega) hm (by rw [Lib.size_eq,hsep]; exact Nat.le_refl _)).mono ?_
 rintro e w' ⟨rfl,rfl⟩
 rw [split_cut s sep cb hsep]
 refine ⟨w.heap.size,_,rfl,(split_len s sep cb hsep).symm,by simp,fun k hk=>?_,(Below.refl _ _).alloc (Nat.le_refl _) _⟩
 rw [cell_of_row _ w.heap.size k _ 9 (0,0) (heap_alloc_new w _)]
 rw [← split_len s sep cb hsep] at hk
 simp [hk]
theorem hostL_one {L:List ByteArray}{wild:Bool}(h:isStar L wild 0):hostL L wild (0+1):=fun j hj=>by
 have e:j=0:=by omega
 rw [e]
 exact .inl h
theorem ext_le (s:ByteArray)(f j:Nat):(s.extract f j).size≤s.size:=by
 rw [Lib.size_eq,Lib.extract_data,List.length_take,List.length_drop,Lib.size_eq]; omega
theorem pcs_size (s:ByteArray)(c:Int):∀ k f i,∀ b∈pcs s c k f i,b.size≤s.size
 | 0,f,i,b,hb=>by
  simp only [pcs,List.mem_singleton] at hb
  rw [hb]; exact ext_le s f i
 | k+1,f,i,b,hb=>by
  unfold pcs at hb
  split at hb
  ·rcases List.mem_cons.1 hb with h | h
   ·rw [h]; exact ext_le s f i
   ·exact pcs_size s c k (i+1) (i+1) b h
  ·exact pcs_size s c k f (i+1) b hb
theorem cut_size (s:ByteArray)(c:Int)(k:Nat):((cutAt s c).getD k ByteArray.empty).size≤s.size:=by
 rw [List.getD_eq_getElem?_getD]
 cases h:(cutAt s c)[k]? with
 | none=>exact Nat.zero_le _
 | some b=>exact pcs_size s c _ _ _ b (List.mem_of_getElem? h)
theorem implHostOk_any (s:ByteArray)(wild:Bool)(w:World)(hm:MaxW w):Calls Tryz.prog 211 #[.string s,.bool wild] w (SaysB (hostP s wild) w):=by
 obtain ⟨P,hP⟩:∃ P,P=hostP s wild:=⟨_,rfl⟩
 rw [← hP]
 have HP:Hid (P=hostP s wild):=hP
 have HM:Hid (MaxW w):=hm
 clear hP hm
 by_cases h100:100<s.size
 ·have HN:Hid (¬ P):=by show ¬ P; rw [HP.out]; intro h; have:=h.1; omega
  go_enter Tryz.func211,Tryz.ntmps211
  go_wp2
  go_ret
  exact saysB_f HN.out (Below.refl _ _)
 go_enter Tryz.func211,Tryz.ntmps211
 go_wp2_with fail
 refine (split_any s ⟨#[46]⟩ 46 rfl _ (by omega) HM.out).mono ?_
 rintro e w1 ⟨g,n,rfl,hn,hg,HC,hb⟩
 obtain ⟨L,hL⟩:∃ L,L=cutAt s 46:=⟨_,rfl⟩
 have h46:((46:UInt8).toNat:Int)=46:=rfl
 rw [h46,← hL] at hn HC
 have hlen:=cutAt_len s 46
 rw [← hL,← hn] at hlen
 have HL:Hid (P↔L.length≤10∧hostL L wild L.length):=by
  show P↔_
  rw [HP.out,hL]
  exact ⟨fun h=>h.2,fun h=>⟨by omega,h⟩⟩
 have HLEN:Hid (L.length=n):=hn.symm
 have HSZ:Hid (∀ k,(L.getD k ByteArray.empty).size≤100):=fun k=>by rw [hL]; have:=cut_size s 46 k; omega
 clear HP hL hn h46 HM
 obtain ⟨hl1,hl2⟩:=hlen
 by_cases h10:10<n
 ·have HN:Hid (¬ P):=by show ¬ P; rw [HL.out,HLEN.out]; intro h; have:=h.1; omega
  clear HC
  go_wp2
  go_ret
  exact saysB_f HN.out hb
 have x0:w1.cell? ⟨g,0,none⟩=some (.string (L.getD 0 ByteArray.empty)):=HC.out 0 (by omega)
 obtain ⟨b0,hb0⟩:∃ b0,b0=L.getD 0 ByteArray.empty:=⟨_,rfl⟩
 rw [← hb0] at x0
 have HB0:Hid (b0=L.getD 0 ByteArray.empty):=hb0
 clear hb0
 by_cases hst:isStar L wild 0
 ·have HST:Hid (isStar L wild 0):=hst
  obtain ⟨_,rfl,h3,h4⟩:=hst
  rw [HLEN.out] at h4
  have z:(b0.toList == [42])=true:=(toList_star b0).2 (HB0.out.trans h3)
  clear h3 HB0
  obtain ⟨m,rfl⟩:∃ m,n=m+1:=⟨n - 1,by omega⟩
  have z2:decide ((2:Int)<(m:Int)+1)=true:=decide_eq_true (by omega)
  go_wp2
  go_loopw [32] (fun i wr=>∃ k:Nat,k≤m∧i=.int .i64 k∧Hid (hostL L true (k+1))∧w1=wr) (fun i _=>m - (intOf i).toNat)
  case atStart=>exact ⟨0,by omega,rfl,hostL_one HST.out,rfl⟩
  case round =>
   obtain ⟨k,hk,rfl,HI,rfl⟩:=hrel
   by_cases hlt:k<m
   ·have xk:w1.cell? ⟨g,1+k,none⟩=some (.string (L.getD (k+1) ByteArray.empty)):=by rw [Nat.add_comm]; exact HC.out (k+1) (by omega)
    obtain ⟨bk,hbk⟩:∃ bk,bk=L.getD (k+1) ByteArray.empty:=⟨_,rfl⟩
    rw [← hbk] at xk
    have hks:bk.size≤100:=by rw [hbk]; exact HSZ.out _
    have HN:Hid (labP bk→hostL L true (k+1+1)):=fun h=>hostL_succ HI.out (.inr (hbk ▸ h))
    have HF:Hid (¬ labP bk→¬ P):=fun h=>by
     rw [HL.out,HLEN.out]
     rintro ⟨_,h2⟩
     rcases h2 (k+1) (by omega) with h3 | h3
     ·exact absurd h3.1 (by omega)
     ·exact h (hbk ▸ h3)
    clear hbk HI HC x0 z
    go_wp2_with fail
    refine (labelOk_any bk _ (by omega)).mono ?_
    rintro e w2 ⟨b,rfl,HV,rfl⟩
    cases b with
    | true =>
     have HN2:Hid (hostL L true (k+1+1)):=HN.out (HV.out.1 rfl)
     clear HN HF HV
     go_wp2
     go_roundw
     case rel=>exact ⟨k+1,by omega,by go_num,HN2,by trivial⟩
     case measure=>simp [intOf]; omega
    | false =>
     have HF2:Hid (¬ P):=HF.out (fun h=>Bool.false_ne_true (HV.out.2 h))
     clear HN HF HV
     go_wp2
     go_ret
     exact saysB_f HF2.out hb
   ·obtain rfl:k=m:=by omega
    have HN:Hid P:=by show P; rw [HL.out,HLEN.out]; exact ⟨by omega,HI.out⟩
    clear HI
    go_wp2
    go_ret
    exact saysB_t HN.out hb
 ·have HST:Hid (∀ j,¬ isStar L wild j):=fun j h=>by
   have e:=h.1
   subst e
   exact hst h
  have hcs:(wild=false)∨(wild=true∧(b0.toList == [42])=false)∨(wild=true∧(b0.toList == [42])=true∧¬ 2<n):=by
   cases hw:wild with
   | false=>exact .inl rfl
   | true =>
    cases hz:(b0.toList == [42]) with
    | false=>exact .inr (.inl ⟨rfl,rfl⟩)
    | true=>exact .inr (.inr ⟨rfl,rfl,fun h2=>hst ⟨rfl,hw,HB0.out.symm.trans ((toList_star b0).1 hz),by rw [HLEN.out]; exact h2⟩⟩)
  clear hst HB0
  rcases hcs with rfl | ⟨rfl,hz⟩ | ⟨rfl,hz,h2⟩
  ·go_wp2
   go_loopw [32] (fun i wr=>∃ k:Nat,k≤n∧i=.int .i64 k∧Hid (hostL L false k)∧w1=wr) (fun i _=>n - (intOf i).toNat)
   case atStart=>exact ⟨0,by omega,rfl,(fun j hj=>absurd hj (Nat.not_lt_zero _)),rfl⟩
   case round =>
    obtain ⟨k,hk,rfl,HI,rfl⟩:=hrel
    by_cases hlt:k<n
    ·have xk:w1.cell? ⟨g,k,none⟩=some (.string (L.getD k ByteArray.empty)):=HC.out k hlt
     obtain ⟨bk,hbk⟩:∃ bk,bk=L.getD k ByteArray.empty:=⟨_,rfl⟩
     rw [← hbk] at xk
     have hks:bk.size≤100:=by rw [hbk]; exact HSZ.out _
     have HN:Hid (labP bk→hostL L false (k+1)):=fun h=>hostL_succ HI.out (.inr (hbk ▸ h))
     have HF:Hid (¬ labP bk→¬ P):=fun h=>by
      rw [HL.out,HLEN.out]
      rintro ⟨_,h2⟩
      rcases h2 k hlt with h3 | h3
      ·exact HST.out _ h3
      ·exact h (hbk ▸ h3)
     clear hbk HI HC x0
     go_wp2_with fail
     refine (labelOk_any bk _ (by omega)).mono ?_
     rintro e w2 ⟨b,rfl,HV,rfl⟩
     cases b with
     | true =>
      have HN3:Hid (hostL L false (k+1)):=HN.out (HV.out.1 rfl)
      clear HN HF HV
      go_wp2
      go_roundw
      case rel=>exact ⟨k+1,by omega,by go_num,HN3,by trivial⟩
      case measure=>simp [intOf]; omega
     | false =>
      have HF2:Hid (¬ P):=HF.out (fun h=>Bool.false_ne_true (HV.out.2 h))
      clear HN HF HV
      go_wp2
      go_ret
      exact saysB_f HF2.out hb
    ·obtain rfl:k=n:=by omega
     have HN:Hid P:=by show P; rw [HL.out,HLEN.out]; exact ⟨by omega,HI.out⟩
     clear HI
     go_wp2
     go_ret
     exact saysB_t HN.out hb
  ·go_wp2
   go_loopw [32] (fun i wr=>∃ k:Nat,k≤n∧i=.int .i64 k∧Hid (hostL L true k)∧w1=wr) (fun i _=>n - (intOf i).toNat)
   case atStart=>exact ⟨0,by omega,rfl,(fun j hj=>absurd hj (Nat.not_lt_zero _)),rfl⟩
   case round =>
    obtain ⟨k,hk,rfl,HI,rfl⟩:=hrel
    by_cases hlt:k<n
    ·have xk:w1.cell? ⟨g,k,none⟩=some (.string (L.getD k ByteArray.empty)):=HC.out k hlt
     obtain ⟨bk,hbk⟩:∃ bk,bk=L.getD k ByteArray.empty:=⟨_,rfl⟩
     rw [← hbk] at xk
     have hks:bk.size≤100:=by rw [hbk]; exact HSZ.out _
     have HN:Hid (labP bk→hostL L true (k+1)):=fun h=>hostL_succ HI.out (.inr (hbk ▸ h))
     have HF:Hid (¬ labP bk→¬ P):=fun h=>by
      rw [HL.out,HLEN.out]
      rintro ⟨_,h2⟩
      rcases h2 k hlt with h3 | h3
      ·exact HST.out _ h3
      ·exact h (hbk ▸ h3)
     clear hbk HI HC x0
     go_wp2_with fail
     refine (labelOk_any bk _ (by omega)).mono ?_
     rintro e w2 ⟨b,rfl,HV,rfl⟩
     cases b with
     | true =>
      have HN3:Hid (hostL L true (k+1)):=HN.out (HV.out.1 rfl)
      clear HN HF HV
      go_wp2
      go_roundw
      case rel=>exact ⟨k+1,by omega,by go_num,HN3,by trivial⟩
      case measure=>simp [intOf]; omega
     | false =>
      have HF2:Hid (¬ P):=HF.out (fun h=>Bool.false_ne_true (HV.out.2 h))
      clear HN HF HV
      go_wp2
      go_ret
      exact saysB_f HF2.out hb
    ·obtain rfl:k=n:=by omega
     have HN:Hid P:=by show P; rw [HL.out,HLEN.out]; exact ⟨by omega,HI.out⟩
     clear HI
     go_wp2
     go_ret
     exact saysB_t HN.out hb
  ·go_wp2
   go_loopw [32] (fun i wr=>∃ k:Nat,k≤n∧i=.int .i64 k∧Hid (hostL L true k)∧w1=wr) (fun i _=>n - (intOf i).toNat)
   case atStart=>exact ⟨0,by omega,rfl,(fun j hj=>absurd hj (Nat.not_lt_zero _)),rfl⟩
   case round =>
    obtain ⟨k,hk,rfl,HI,rfl⟩:=hrel
    by_cases hlt:k<n
    ·have xk:w1.cell? ⟨g,k,none⟩=some (.string (L.getD k ByteArray.empty)):=HC.out k hlt
     obtain ⟨bk,hbk⟩:∃ bk,bk=L.getD k ByteArray.empty:=⟨_,rfl⟩
     rw [← hbk] at xk
     have hks:bk.size≤100:=by rw [hbk]; exact HSZ.out _
     have HN:Hid (labP bk→hostL L true (k+1)):=fun h=>hostL_succ HI.out (.inr (hbk ▸ h))
     have HF:Hid (¬ labP bk→¬ P):=fun h=>by
      rw [HL.out,HLEN.out]
      rintro ⟨_,h2⟩
      rcases h2 k hlt with h3 | h3
      ·exact HST.out _ h3
      ·exact h (hbk ▸ h3)
     clear hbk HI HC x0
     go_wp2_with fail
     refine (labelOk_any bk _ (by omega)).mono ?_
     rintro e w2 ⟨b,rfl,HV,rfl⟩
     cases b with
     | true =>
      have HN3:Hid (hostL L true (k+1)):=HN.out (HV.out.1 rfl)
      clear HN HF HV
      go_wp2
      go_roundw
      case rel=>exact ⟨k+1,by omega,by go_num,HN3,by trivial⟩
      case measure=>simp [intOf]; omega
     | false =>
      have HF2:Hid (¬ P):=HF.out (fun h=>Bool.false_ne_true (HV.out.2 h))
      clear HN HF HV
      go_wp2
      go_ret
      exact saysB_f HF2.out hb
    ·obtain rfl:k=n:=by omega
     have HN:Hid P:=by show P; rw [HL.out,HLEN.out]; exact ⟨by omega,HI.out⟩
     clear HI
     go_wp2
     go_ret
     exact saysB_t HN.out hb
open Go.RowKit
def aT (a:Act)(t:Nat):Value:=a.tmps.getD t undef
def upd (l:Nat→Bool)(i:Nat):Nat→Bool:=fun k=>decide (k=i) || l k
theorem upd_same (l:Nat→Bool)(i:Nat):upd l i i=true:=by simp [upd]
theorem upd_ne {l:Nat→Bool}{i k:Nat}(h:k≠i):upd l i k=l k:=by simp [upd,h]
theorem upd_mono {l:Nat→Bool}{i k:Nat}(h:l k=true):upd l i k=true:=by simp [upd,h]
theorem of_upd {l:Nat→Bool}{i k:Nat}(h:upd l i k=false):l k=false:=by
 simp [upd] at h
 exact h.2
structure Fr (D:List Nat)(a0 a:Act):Prop where
 size:a.tmps.size=a0.tmps.size
 defers:a.defers=a0.defers
 same:∀ t,t∉D→aT a t=aT a0 t
theorem Fr.refl (D:List Nat)(a:Act):Fr D a a:=⟨rfl,rfl,fun _ _=>rfl⟩
theorem aT_put_ne {a:Act}{d t:Nat}{v:Value}(h:d≠t):aT (a.put (some d) v) t=aT a t:=by
 simp [aT,Act.put,Array.getElem?_setIfInBounds_ne h]
theorem aT_put_eq {a:Act}{d:Nat}{v:Value}(h:d<a.tmps.size):aT (a.put (some d) v) d=v:=by
 simp [aT,Act.put,h]
theorem Fr.put {D:List Nat}{a0 a:Act}{d:Nat}(h:Fr D a0 a)(hd:d∈D)(v:Value):Fr D a0 (a.put (some d) v) :=
 ⟨by simp [Act.put,h.size],h.defers,fun t ht=>(aT_put_ne (fun e=>ht (by rw [← e]; exact hd))).trans (h.same t ht)⟩
def puts (f:Nat→Value):List Nat→Act→Act
 | [],a=>a
 | d::D,a=>puts f D (a.put (some d) (f d))
theorem puts_size (f:Nat→Value):∀ (D:List Nat) (a:Act),(puts f D a).tmps.size=a.tmps.size
 | [],_=>rfl
 | d::D,a=>by rw [puts,puts_size f D]; simp [Act.put]
theorem puts_defers (f:Nat→Value):∀ (D:List Nat) (a:Act),(puts f D a).defers=a.defers
 | [],_=>rfl
 | d::D,a=>by rw [puts,puts_defers f D]; rfl
theorem puts_at (f:Nat→Value):∀ (D:List Nat) (a:Act) (t:Nat),t<a.tmps.size→aT (puts f D a) t=if t∈D then f t else aT a t
 | [],_,_,_=>by simp [puts]
 | d::D,a,t,ht=>by
  rw [puts,puts_at f D _ t (by simpa [Act.put] using ht)]
  by_cases h:t∈D
  ·simp [h]
  ·by_cases h2:t=d
   ·subst h2
    simp [h,aT_put_eq ht]
   ·simp [h,h2,aT_put_ne (Ne.symm h2)]
theorem act_ext {a b:Act}(hs:a.tmps.size=b.tmps.size)(hd:a.defers=b.defers)(h:∀ t,t<a.tmps.size→aT a t=aT b t):a=b:=by
 obtain ⟨x,dx⟩:=a
 obtain ⟨y,dy⟩:=b
 simp only at hd hs
 subst hd
 congr 1
 refine Array.ext hs (fun i h1 h2=>?_)
 have:=h i h1
 simpa [aT,h1,h2] using this
theorem Fr.eq {D:List Nat}{a0 a:Act}(h:Fr D a0 a):a=puts (aT a) D a0:=by
 refine act_ext (h.size.trans (puts_size _ _ _).symm) (h.defers.trans (puts_defers _ _ _).symm) (fun t ht=>?_)
 rw [puts_at _ _ _ _ (h.size ▸ ht)]
 by_cases hd:t∈D
 ·simp [hd]
 ·simp [hd,h.same t hd]
structure RSpec where
 m:Nat
 n:Nat
 slots:List Nat
 fact:Nat→Value→World→Prop
 kills:List (List Nat)
 pres:List (List Nat)
def RSpec.slot (S:RSpec)(k:Nat):Nat:=S.slots.getD k 0
def RSpec.kill (S:RSpec)(k:Nat):List Nat:=S.kills.getD k []
def RSpec.pre (S:RSpec)(k:Nat):List Nat:=S.pres.getD k []
structure RI (S:RSpec)(D:List Nat)(B:Nat)(w0:World)(a0:Act)(l:Nat→Bool)(a:Act)(w:World):Prop where
 fr:Fr D a0 a
 bel:Below B w0 w
 vt:∀ k,S.m≤k→l k=true
 cl:∀ k,k<S.n→l k=true→∀ j∈S.pre k,l j=true
 fact:∀ k,k<S.n→l k=true→(∀ j∈S.kill k,l j=false)→S.fact k (aT a (S.slot k)) w
def StB (p:Value→World→Prop):Prop:=∀ v w w',p v w→Below w.heap.size w w'→p v w'
def RSpec.free (S:RSpec)(i d:Nat):Bool:=(List.range S.n).all fun k=>k == i || S.slot k != d || (S.pre k).contains i
theorem RSpec.free_of {S:RSpec}{i d:Nat}(h:S.free i d=true){k:Nat}(hk:k<S.n)(hne:k≠i)(hs:S.slot k=d):i∈S.pre k:=by
 have:=List.all_eq_true.1 h k (List.mem_range.2 hk)
 simpa [hne,hs] using this
theorem RI.put {S:RSpec}{D:List Nat}{B:Nat}{w0:World}{a0:Act}{l:Nat→Bool}{a:Act}{w:World}(h:RI S D B w0 a0 l a w)(i d:Nat){v:Value}{w':World}(hpre:S.pre i = [])
  (hd:D.contains d=true) (hs:d<a0.tmps.size) (hsl:S.slot i=d) (hli:l i=false) (hne:S.free i d=true) (hB:B≤w0.heap.size)
  (hst:∀ k,k<S.n→StB (S.fact k)) (hb:Below w.heap.size w w') (hf:S.fact i v w'):RI S D B w0 a0 (upd l i) (a.put (some d) v) w':=by
 refine ⟨h.fr.put (List.contains_iff_mem.1 hd) v,h.bel.trans (hb.mono (Nat.le_trans hB h.bel.size)),fun k hk=>upd_mono (h.vt k hk),fun k hk hl j hj=>?_,fun k hk hl hkill=>?_⟩
 ·by_cases e:k=i
  ·subst e
   rw [hpre] at hj
   cases hj
  ·rw [upd_ne e] at hl
   exact upd_mono (h.cl k hk hl j hj)
 ·by_cases e:k=i
  ·subst e
   rw [hsl,aT_put_eq (by rw [h.fr.size]; exact hs)]
   exact hf
  ·rw [upd_ne e] at hl
   have hsk:S.slot k≠d:=fun e2=>by
    have:=h.cl k hk hl i (S.free_of hne hk e e2)
    rw [hli] at this
    cases this
   rw [aT_put_ne (Ne.symm hsk)]
   exact hst k hk _ _ _ (h.fact k hk hl (fun j hj=>of_upd (hkill j hj))) hb
theorem RI.store {S:RSpec}{D:List Nat}{B:Nat}{w0:World}{a0:Act}{l:Nat→Bool}{a:Act}{w:World}(h:RI S D B w0 a0 l a w)(i:Nat){w':World}(hpre:∀ j∈S.pre i,l j=true)
  (hb:Below B w0 w') (hst:∀ k,k<S.n→k≠i→i∉S.kill k→∀ v,S.fact k v w→S.fact k v w') (hf:S.fact i (aT a (S.slot i)) w'):RI S D B w0 a0 (upd l i) (a.put none undef) w':=by
 refine ⟨h.fr,hb,fun k hk=>upd_mono (h.vt k hk),fun k hk hl j hj=>?_,fun k hk hl hkill=>?_⟩
 ·by_cases e:k=i
  ·subst e
   exact upd_mono (hpre j hj)
  ·rw [upd_ne e] at hl
   exact upd_mono (h.cl k hk hl j hj)
 ·by_cases e:k=i
  ·subst e
   exact hf
  ·rw [upd_ne e] at hl
   refine hst k hk e (fun hm=>?_) _ (h.fact k hk hl (fun j hj=>of_upd (hkill j hj)))
   have:=hkill i hm
   rw [upd_same] at this
   cases this
theorem RI.vot {S:RSpec}{D:List Nat}{B:Nat}{w0:World}{a0:Act}{l:Nat→Bool}{a:Act}{w:World}(h:RI S D B w0 a0 l a w)(k:Nat)(hk:k<S.n)(hm:S.m≤k)(hkill:S.kill k = []):S.fact k (aT a (S.slot k)) w:=h.fact k hk (h.vt k hm) (by simp [hkill])
theorem RI.vot1 {S:RSpec}{D:List Nat}{B:Nat}{w0:World}{a0:Act}{l:Nat→Bool}{a:Act}{w:World}(h:RI S D B w0 a0 l a w)(k i:Nat)(hk:k<S.n)(hm:S.m≤k)(hli:l i=false)(hkill:S.kill k = [i]):S.fact k (aT a (S.slot k)) w:=h.fact k hk (h.vt k hm) (by simp [hkill,hli])
theorem RI.got {S:RSpec}{D:List Nat}{B:Nat}{w0:World}{a0:Act}{l:Nat→Bool}{a:Act}{w:World}(h:RI S D B w0 a0 l a w)(k:Nat)(hk:k<S.n)(hl:l k=true)(hkill:S.kill k = []):S.fact k (aT a (S.slot k)) w:=h.fact k hk hl (by simp [hkill])
theorem edge {l:Nat→Bool}{o:Oper}(he:∀ e∈o.after,Region.binds .any e=true→l e.on=true)(j:Nat)(h:(o.after.toList.any fun e=>Region.binds .any e && (e.on == j))=true):l j=true:=by
 obtain ⟨e,hm,h2⟩:=List.any_eq_true.1 h
 simp only [Bool.and_eq_true,beq_iff_eq] at h2
 rw [← h2.2]
 exact he e (Array.mem_toList_iff.1 hm) h2.1
theorem box_box {g g' t t':Nat}{w w':World}{cs cs':Array Value}{fr fr':Nat × Nat}(h:w.heap[g']? = some (.cells cs' t' fr'))(hg:w.heap[g]? = some (.cells cs t fr))(hne:t≠t')(ht:Touch g (g+1) w w'):w'.heap[g']? = some (.cells cs' t' fr'):=by
 have:g'≠g:=fun e2=>by
  subst e2
  rw [hg] at h
  simp only [Option.some.injEq,Obj.cells.injEq] at h
  exact hne h.2.1
 exact (ht.block g' (Array.getElem?_eq_some_iff.1 h).1 (by omega)).trans h
theorem setRow_touch (w:World)(g:Nat)(cs:Array Value):Touch g (g+1) w (w.setRow g cs) :=
 ⟨rfl,rfl,rfl,by simp [World.setRow],fun k hk ho=>by
  simp only [World.setRow]
  rw [Array.getElem?_modify,if_neg (by omega)]⟩
theorem below_kept {w w':World}{g:Nat}{o:Obj}(h:w.heap[g]? = some o)(hb:Below w.heap.size w w'):w'.heap[g]? = some o:=(hb.block g (Array.getElem?_eq_some_iff.1 h).1).trans h
section
variable {P:Program} {Q:Exit→Act→World→Prop}
def StepsRI (P:Program)(Q:Exit→Act→World→Prop)(S:RSpec)(D:List Nat)(B:Nat)(w0:World)(a0:Act)(i:Nat)(os:List Oper):Prop :=
 ∀ k o,os[k]? = some o→∀ (l:Nat→Bool) (a:Act) (w:World),RI S D B w0 a0 l a w→l (i+k)=false→(∀ e∈o.after,Region.binds .any e=true→l e.on=true)→∀ K':Act→World→Prop,Hid (∀ a w,RI S D B w0 a0 (upd l (i+k)) a w→K' a w)→o.wp P a w K' Q
theorem StepsRI.nil {S:RSpec}{D:List Nat}{B:Nat}{w0:World}{a0:Act}{i:Nat}:StepsRI P Q S D B w0 a0 i []:=fun k o h=>by simp at h
theorem StepsRI.cons {S:RSpec}{D:List Nat}{B:Nat}{w0:World}{a0:Act}{i:Nat}{o:Oper}{os:List Oper}
  (h:∀ (l:Nat→Bool) (a:Act) (w:World),RI S D B w0 a0 l a w→l i=false→(∀ e∈o.after,Region.binds .any e=true→l e.on=true)→∀ K':Act→World→Prop,Hid (∀ a w,RI S D B w0 a0 (upd l i) a w→K' a w)→o.wp P a w K' Q)
  (hs:StepsRI P Q S D B w0 a0 (i+1) os):StepsRI P Q S D B w0 a0 i (o::os):=fun k o' hk=>by
 cases k with
 | zero =>
  simp only [List.getElem?_cons_zero,Option.some.injEq] at hk
  subst hk
  exact h
 | succ k =>
  simp only [List.getElem?_cons_succ] at hk
  have:=hs k o' hk
  rwa [Nat.add_right_comm] at this
def edgesBack (ops:Array Oper):Bool:=(List.range ops.size).all fun i=>((ops[i]?).map fun o=>o.guard.isNone && o.after.all fun e=>!Region.binds .any e || decide (e.on<i)).getD true
theorem edgesBack_of {ops:Array Oper}(h:edgesBack ops=true){i:Nat}{o:Oper}(ho:ops[i]? = some o):o.guard=none∧∀ e∈o.after,Region.binds .any e=true→e.on<i:=by
 have hi:i<ops.size:=(Array.getElem?_eq_some_iff.1 ho).1
 have h1:=List.all_eq_true.1 h i (List.mem_range.2 hi)
 rw [ho] at h1
 simp only [Option.map_some,Option.getD_some,Bool.and_eq_true,Option.isNone_iff_eq_none] at h1
 refine ⟨h1.1,fun e he hb=>?_⟩
 obtain ⟨j,hj,rfl⟩:=Array.mem_iff_getElem.1 he
 have:=(Array.all_eq_true.1 h1.2) j hj
 simpa [hb] using this
theorem all_listed {ops:Array Oper}{listed:Array Bool}(he:edgesBack ops=true)(hz:listed.size=ops.size)(h:Region.ready .any ops listed = []):∀ i,i<ops.size→listed.getD i false=true:=by
 intro i
 induction i using Nat.strongRecOn with
 | ind i ih =>
  intro hi
  cases hl:listed.getD i false with
  | true=>rfl
  | false =>
   exfalso
   have ho:ops[i]? = some ops[i]:=by simp [hi]
   have hm:i∈Region.ready .any ops listed:=mem_ready.2 ⟨by
    have:i<listed.size:=hz ▸ hi
    simp [this] at hl ⊢
    exact hl,_,ho,fun e hee hb=>ih _ ((edgesBack_of he ho).2 e hee hb) (Nat.lt_trans ((edgesBack_of he ho).2 e hee hb) hi)⟩
   rw [h] at hm
   cases hm
theorem wpAny_ri {ops:Array Oper}{S:RSpec}{D:List Nat}{B:Nat}{w0:World}{a0:Act}(he:edgesBack ops=true)(hs:StepsRI P Q S D B w0 a0 0 ops.toList)
  (hend:∀ l a w,RI S D B w0 a0 l a w→(∀ k,l k=true)→Q .normal a w) :
  ∀ (fuel:Nat) (listed:Array Bool) (a:Act) (w:World),listed.size=ops.size→listed.toList.count false≤fuel→RI S D B w0 a0 (fun k=>listed.getD k true) a w→wpAny P .any ops Q fuel listed a w:=by
 have full:∀ listed:Array Bool,listed.size=ops.size→(∀ k,k<ops.size→listed.getD k false=true)→∀ k,listed.getD k true=true:=fun listed hz h k=>by
  by_cases hk:k<listed.size
  ·have:=h k (hz ▸ hk)
   simp [hk] at this ⊢
   exact this
  ·simp [Array.getElem?_eq_none (Nat.le_of_not_lt hk)]
 intro fuel
 induction fuel with
 | zero =>
  intro listed a w hz hc hI
  have hall:∀ k,k<ops.size→listed.getD k false=true:=fun k hk=>by
   have hk':k<listed.size:=hz ▸ hk
   have h0:listed.toList.count false=0:=Nat.le_zero.1 hc
   have:=List.count_eq_zero.1 h0
   cases hv:listed[k] with
   | true=>simp [hk',hv]
   | false=>exact absurd (by rw [← hv]; exact Array.mem_toList_iff.2 (Array.getElem_mem hk')) this
  have hr:Region.ready .any ops listed = []:=by
   refine List.eq_nil_iff_forall_not_mem.2 (fun i hi=>?_)
   obtain ⟨h1,o,ho,_⟩:=mem_ready.1 hi
   have hi':i<ops.size:=(Array.getElem?_eq_some_iff.1 ho).1
   have h2:=hall i hi'
   have hi2:i<listed.size:=hz ▸ hi'
   simp [hi2] at h1 h2
   rw [h1] at h2
   cases h2
  exact ⟨hr,hend _ _ _ hI (full _ hz hall)⟩
 | succ fuel ih =>
  intro listed a w hz hc hI
  refine ⟨fun hr=>hend _ _ _ hI (full _ hz (all_listed he hz hr)),fun i hi=>?_⟩
  obtain ⟨h1,o,ho,hed⟩:=mem_ready.1 hi
  have hi':i<ops.size:=(Array.getElem?_eq_some_iff.1 ho).1
  have hi2:i<listed.size:=hz ▸ hi'
  have hf:listed[i]=false:=by simpa [hi2] using h1
  refine wpOp_step ho (fun K' hK=>?_)
  have hgd:=(edgesBack_of he ho).1
  have hw:Region.wanted o (yielded ops a.tmps)=true:=by simp [Region.wanted,hgd]
  rw [if_pos hw]
  refine hs i o (by simpa using ho) _ a w hI (by simp [hi2,hf]) (fun e hee hb=>?_) K' (fun a' w' hI'=>hK a' w' (ih _ a' w' (by simpa using hz) ?_ ?_))
  ·have h3:=hed e hee hb
   by_cases hk:e.on<listed.size
   ·simp [hk] at h3 ⊢
    exact h3
   ·simp [Array.getElem?_eq_none (Nat.le_of_not_lt hk)]
  ·have hcs:(listed.setIfInBounds i true).toList.count false+1=listed.toList.count false:=by
    have hm:0<listed.toList.count false:=List.count_pos_iff.2 (by rw [← hf]; exact Array.mem_toList_iff.2 (Array.getElem_mem hi2))
    have e1:(listed.toList[i] == false)=true:=by simp [hf]
    have e2:¬ ((true == false)=true):=by decide
    rw [Array.toList_setIfInBounds,List.count_set (by simpa using hi2),if_pos e1,if_neg e2]
    omega
   omega
  ·have:(fun k=>(listed.setIfInBounds i true).getD k true)=upd (fun k=>listed.getD k true) (0+i):=by
    funext k
    by_cases e:k=i
    ·subst e
     simp [upd,hi2]
    ·simp [upd,e,Array.getElem?_setIfInBounds_ne (Ne.symm e)]
   rw [this]
   exact hI'
theorem ri_start {S:RSpec}{D:List Nat}{B:Nat}{a:Act}{w w':World}{l:Nat→Bool}(hb:Below B w w')(hl0:∀ k,l k=true→S.m≤k)(hl1:∀ k,S.m≤k→l k=true)(hp:(S.pres.drop S.m).all List.isEmpty=true)
  (h0:∀ k,S.m≤k→k<S.n→S.fact k (aT a (S.slot k)) w'):RI S D B w a l a w':=by
 refine ⟨Fr.refl _ _,hb,hl1,fun k hk hl j hj=>?_,fun k hk hl _=>h0 k (hl0 k hl) hk⟩
 have hm:=hl0 k hl
 have:S.pre k = []:=by
  unfold RSpec.pre
  rw [List.getD_eq_getElem?_getD]
  cases hg:S.pres[k]? with
  | none=>rfl
  | some x =>
   have hx:x∈S.pres.drop S.m:=List.mem_iff_getElem?.2 ⟨k - S.m,by rw [List.getElem?_drop,Nat.add_sub_cancel' hm,hg]⟩
   have:=List.all_eq_true.1 hp x hx
   simpa using this
 rw [this] at hj
 cases hj
theorem wp_region_ri {id:Nat}{ops:Array Oper}{a:Act}{w:World}(S:RSpec)(D:List Nat)(B:Nat)(G:Act→Prop)(hm:P.follows .mixedOrders=true)(hn:S.m=ops.size)(he:edgesBack ops=true)(hp:(S.pres.drop S.m).all List.isEmpty=true)(hG:G a)
  (hst:∀ k,k<S.n→StB (S.fact k)) (h0:∀ k,S.m≤k→k<S.n→S.fact k (aT a (S.slot k)) w)
  (hs:∀ a0,G a0→StepsRI P Q S D B w a0 0 ops.toList)
  (hend:∀ a' w',Fr D a a'→Below B w w'→(∀ k,k<S.n→S.kill k = []→S.fact k (aT a' (S.slot k)) w')→Q .normal a' w'):(Code.region id ops true).wp P Q a w:=by
 refine wp_region_any hm (wpAny_ri he (hs a hG) (fun l a' w' hI hl=>hend a' w' hI.fr hI.bel (fun k hk h0=>hI.fact k hk (hl k) (by simp [h0]))) ops.size _ a _ (by simp) (by simp) ?_)
 refine ri_start (Below.refl _ _).drew (fun k hl=>?_) (fun k hk=>?_) hp (fun k h1 h2=>hst k h2 _ _ _ (h0 k h1 h2) (Below.refl _ _).drew)
 ·rw [hn]
  by_cases hk:k<ops.size
  ·simp [hk] at hl
  ·omega
 ·rw [hn] at hk
  simp [Array.getElem?_eq_none (show (Array.replicate ops.size false).size≤k by simpa using hk)]
theorem wpList_rp {ops:Array Oper}{S:RSpec}{D:List Nat}{B:Nat}{w0:World}{a0:Act}(he:edgesBack ops=true)(hs:StepsRI P Q S D B w0 a0 0 ops.toList)
  (hend:∀ l a w,RI S D B w0 a0 l a w→(∀ k,l k=true)→Q .normal a w) :
  ∀ (rest:List Oper) (k:Nat) (a:Act) (w:World),ops.toList.drop k=rest→k≤ops.size→RI S D B w0 a0 (fun j=>decide (j<k∨ops.size≤j)) a w→wpList P ops Q rest a w:=by
 intro rest
 induction rest with
 | nil =>
  intro k a w hd hk hI
  have hl:ops.size≤k:=by
   have:=congrArg List.length hd
   simp at this
   omega
  exact wpList_nil (hend _ _ _ hI (fun j=>by simp; omega))
 | cons o rest ih =>
  intro k a w hd hk hI
  have ho:ops.toList[k]? = some o:=by
   have:=congrArg (fun l=>l[0]?) hd
   simpa using this
  have ho':ops[k]? = some o:=by simpa using ho
  have hlt:k<ops.size:=(Array.getElem?_eq_some_iff.1 ho').1
  refine wpList_plain (edgesBack_of he ho').1 (fun K hK=>?_)
  refine hs k o ho _ a w hI (by simp; omega) (fun e hee hb=>by have:=(edgesBack_of he ho').2 e hee hb; simp; omega) K (fun a' w' hI'=>hK a' w' (ih (k+1) a' w' ?_ hlt ?_))
  ·have:=congrArg (List.drop 1) hd
   simpa [List.drop_drop,Nat.add_comm] using this
  ·have:(fun j=>decide (j<k+1∨ops.size≤j))=upd (fun j=>decide (j<k∨ops.size≤j)) (0+k):=by
    funext j
    simp only [upd,Nat.zero_add]
    by_cases e:j=k
    ·subst e
     simp
    ·have:(j<k+1∨ops.size≤j)↔(j<k∨ops.size≤j):=by omega
     simp only [e,this,decide_false,Bool.false_or]
   rw [this]
   exact hI'
theorem wp_region_rp {id:Nat}{os:List Oper}{a:Act}{w:World}(S:RSpec)(D:List Nat)(B:Nat)(G:Act→Prop)(hn:S.m=os.length)(he:edgesBack os.toArray=true)(hp:(S.pres.drop S.m).all List.isEmpty=true)(hG:G a)
  (_:∀ k,k<S.n→StB (S.fact k)) (h0:∀ k,S.m≤k→k<S.n→S.fact k (aT a (S.slot k)) w)
  (hs:∀ a0,G a0→StepsRI P Q S D B w a0 0 os)
  (hend:∀ a' w',Fr D a a'→Below B w w'→(∀ k,k<S.n→S.kill k = []→S.fact k (aT a' (S.slot k)) w')→Q .normal a' w'):(Code.region id os.toArray false).wp P Q a w:=by
 refine wp_region_lit (wpList_rp he (hs a hG) (fun l a' w' hI hl=>hend a' w' hI.fr hI.bel (fun k hk h0=>hI.fact k hk (hl k) (by simp [h0]))) os 0 a w (by simp) (by simp) ?_)
 refine ri_start (Below.refl _ _) (fun k hl=>?_) (fun k hk=>?_) hp h0
 ·rw [hn]
  simpa using hl
 ·rw [hn] at hk
  simpa using hk
theorem opw_value {o:Oper}{a:Act}{w w':World}{K:Act→World→Prop}(v:Value)(hr:(execOp a.eval o).run P w=.ok (.value v) w')(h:K (a.put o.dst v) w'):o.wp P a w K Q:=by
 unfold Oper.wp
 rw [hr]
 exact h
theorem opw_move {o:Oper}{a:Act}{w:World}{K:Act→World→Prop}(x:Nat)(ho:o.op=.move (.tmp x))(h:K (a.put o.dst (aT a x)) w):o.wp P a w K Q :=
 opw_value (aT a x) (by unfold execOp; rw [ho]; rfl) h
theorem opw_assign {o:Oper}{a:Act}{w:World}{K:Act→World→Prop}(x:Nat)(ho:o.op=.assign (.tmp x))(h:K (a.put o.dst (aT a x)) w):o.wp P a w K Q :=
 opw_value (aT a x) (by unfold execOp; rw [ho]; rfl) h
theorem opw_extract {o:Oper}{a:Act}{w:World}{K:Act→World→Prop}(x i:Nat)(ho:o.op=.extract (.tmp x) i)(vs:Array Value)(v:Value)(hx:aT a x=.tuple vs)(hv:vs[i]? = some v)(h:K (a.put o.dst v) w):o.wp P a w K Q:=by
 refine opw_value v ?_ h
 have hx':a.eval (.tmp x)=.tuple vs:=hx
 unfold execOp
 simp [ho,hx',Instr.extract,hv]
theorem opw_call {o:Oper}{a:Act}{w:World}{K:Act→World→Prop}(f:FuncId)(ar:Array Operand)(ats:Array TypeId)(fn:Func)(c:Code)(ho:o.op=.call { callee:=.value (.func f),args:=ar,argTypes:=ats })
  (hf : P.funcs[f]? = some fn) (hname : (fn.name == "runtime.NumGoroutine") = false) (hb : fn.body = some c) (args : Array Value) (hargs : ar.map a.eval = args)
  (h:Calls P f args w fun e w'=>∃ v,e=.returned v∧K (a.put o.dst v) w'):o.wp P a w K Q:=by
 have hn2 : ¬ fn.name = "runtime.NumGoroutine" := by simpa using hname
 have hr:(execOp a.eval o).run P w=.ok (.enter f args) w:=by
  unfold execOp
  rw [ho]
  simp [resolve,hargs,Act.eval,Deferred.ofValue,invoke,callFunc,hf,hn2,hb]
 unfold Oper.wp
 rw [hr,Oper.upon_enter]
 refine h.mono fun e w' hh=>?_
 obtain ⟨v,rfl,hk⟩:=hh
 exact hk
theorem opw_field {o:Oper}{a:Act}{w:World}{K:Act→World→Prop}(s:TypeId)(x f:Nat)(ho:o.op=.fieldAddr s (.tmp x) f)(p:Value)(hx:aT a x=p)(v:Value)(hr:(Instr.fieldAt s p f).run P w=.ok v w)(h:K (a.put o.dst v) w):o.wp P a w K Q:=by
 refine opw_value v ?_ h
 have hx':a.eval (.tmp x)=p:=hx
 unfold execOp
 simp [ho,hx',hr]
theorem opw_load1 {o:Oper}{a:Act}{w:World}{K:Act→World→Prop}(t:TypeId)(x:Nat)(ho:o.op=.load t (.tmp x))(p:Value)(hx:aT a x=p)(v:Value)(hr:(Instr.loadAt t p).run P w=.ok v w)(h:K (a.put o.dst v) w):o.wp P a w K Q:=by
 refine opw_value v ?_ h
 have hx':a.eval (.tmp x)=p:=hx
 unfold execOp
 simp [ho,hx',hr]
theorem evc (a:Act)(v:Value):a.eval (.const v)=v:=rfl
theorem ev (a:Act)(t:Nat):a.eval (.tmp t)=aT a t:=rfl
end
open Go.RowKit
section
variable {P:Program} {Q:Exit→Act→World→Prop}
def StepsRK (P:Program)(Q:Exit→Act→World→Prop)(ops:Array Oper)(S:RSpec)(D:List Nat)(B:Nat)(w0:World)(a0:Act)(i:Nat)(os:List Oper):Prop :=
 ∀ k o,os[k]? = some o→∀ (l:Nat→Bool) (a:Act) (w:World),RI S D B w0 a0 l a w→l (i+k)=false→(∀ e∈o.after,Region.binds .any e=true→l e.on=true)→∀ K':Act→World→Prop,Hid (∀ a w,RI S D B w0 a0 (upd l (i+k)) a w→K' a w)→if Region.wanted o (yielded ops a.tmps)=true then o.wp P a w K' Q else K' (a.put o.dst undef) w
theorem StepsRK.nil {ops:Array Oper}{S:RSpec}{D:List Nat}{B:Nat}{w0:World}{a0:Act}{i:Nat}:StepsRK P Q ops S D B w0 a0 i []:=fun k o h=>by simp at h
theorem StepsRK.cons {ops:Array Oper}{S:RSpec}{D:List Nat}{B:Nat}{w0:World}{a0:Act}{i:Nat}{o:Oper}{os:List Oper}
  (h:∀ (l:Nat→Bool) (a:Act) (w:World),RI S D B w0 a0 l a w→l i=false→(∀ e∈o.after,Region.binds .any e=true→l e.on=true)→∀ K':Act→World→Prop,Hid (∀ a w,RI S D B w0 a0 (upd l i) a w→K' a w)→if Region.wanted o (yielded ops a.tmps)=true then o.wp P a w K' Q else K' (a.put o.dst undef) w)
  (hs:StepsRK P Q ops S D B w0 a0 (i+1) os):StepsRK P Q ops S D B w0 a0 i (o::os):=fun k o' hk=>by
 cases k with
 | zero =>
  simp only [List.getElem?_cons_zero,Option.some.injEq] at hk
  subst hk
  exact h
 | succ k =>
  simp only [List.getElem?_cons_succ] at hk
  have:=hs k o' hk
  rwa [Nat.add_right_comm] at this
theorem rk_plain {ops:Array Oper}{o:Oper}{a:Act}{w:World}{K:Act→World→Prop}(hg:o.guard=none)(h:o.wp P a w K Q):if Region.wanted o (yielded ops a.tmps)=true then o.wp P a w K Q else K (a.put o.dst undef) w:=by
 have hw:Region.wanted o (yielded ops a.tmps)=true:=by simp [Region.wanted,hg]
 rw [if_pos hw]
 exact h
def yb:Value→Option Bool
 | .bool b=>some b
 | _=>none
theorem yielded_of {ops:Array Oper}{a:Act}{j s:Nat}{v:Value}(hd:(ops[j]?).bind (·.dst)=some s)(hv:aT a s=v):yielded ops a.tmps j=yb v:=by
 unfold yielded
 rw [hd]
 subst hv
 unfold aT
 by_cases hs:s<a.tmps.size
 ·simp only [Option.bind_some,Array.getElem?_eq_getElem hs,Array.getD_eq_getD_getElem?,Option.getD_some]
  generalize a.tmps[s]=v
  cases v <;> rfl
 ·simp [Array.getElem?_eq_none (Nat.le_of_not_lt hs),undef,yb]
theorem rk_take {ops:Array Oper}{o:Oper}{a:Act}{w:World}{K:Act→World→Prop}(j:Nat)(want:Bool)(s:Nat)(hg:o.guard=some (j,want))(hd:(ops[j]?).bind (·.dst)=some s)(hv:aT a s=.bool want)(h:o.wp P a w K Q):if Region.wanted o (yielded ops a.tmps)=true then o.wp P a w K Q else K (a.put o.dst undef) w:=by
 have hw:Region.wanted o (yielded ops a.tmps)=true:=by simp [Region.wanted,hg,yielded_of hd hv,yb]
 rw [if_pos hw]
 exact h
theorem rk_skip {ops:Array Oper}{o:Oper}{a:Act}{w:World}{K:Act→World→Prop}(j:Nat)(want:Bool)(s:Nat)(v:Value)(hg:o.guard=some (j,want))(hd:(ops[j]?).bind (·.dst)=some s)(hv:aT a s=v)(hne:(yb v == some want)=false)(h:K (a.put o.dst undef) w):if Region.wanted o (yielded ops a.tmps)=true then o.wp P a w K Q else K (a.put o.dst undef) w:=by
 have hw:Region.wanted o (yielded ops a.tmps)=false:=by
  simp only [Region.wanted,hg,yielded_of hd hv]
  exact hne
 rw [if_neg (by rw [hw]; decide)]
 exact h
theorem opw_pick_t {o:Oper}{a:Act}{w:World}{K:Act→World→Prop}(c:Nat)(x y:Operand)(ho:o.op=.pick (.tmp c) x y)(hc:aT a c=.bool true)(v:Value)(hx:a.eval x=v)(h:K (a.put o.dst v) w):o.wp P a w K Q:=by
 refine opw_value v ?_ h
 have hc':a.eval (.tmp c)=.bool true:=hc
 unfold execOp
 simp [ho,hc',hx,asBool]
theorem opw_pick_f {o:Oper}{a:Act}{w:World}{K:Act→World→Prop}(c:Nat)(x y:Operand)(ho:o.op=.pick (.tmp c) x y)(hc:aT a c=.bool false)(v:Value)(hy:a.eval y=v)(h:K (a.put o.dst v) w):o.wp P a w K Q:=by
 refine opw_value v ?_ h
 have hc':a.eval (.tmp c)=.bool false:=hc
 unfold execOp
 simp [ho,hc',hy,asBool]
def edgesBackK (ops:Array Oper):Bool:=(List.range ops.size).all fun i=>((ops[i]?).map fun o=>o.after.all fun e=>!Region.binds .any e || decide (e.on<i)).getD true
theorem edgesBackK_of {ops:Array Oper}(h:edgesBackK ops=true){i:Nat}{o:Oper}(ho:ops[i]? = some o):∀ e∈o.after,Region.binds .any e=true→e.on<i:=by
 have hi:i<ops.size:=(Array.getElem?_eq_some_iff.1 ho).1
 have h1:=List.all_eq_true.1 h i (List.mem_range.2 hi)
 rw [ho] at h1
 simp only [Option.map_some,Option.getD_some] at h1
 refine fun e he hb=>?_
 obtain ⟨j,hj,rfl⟩:=Array.mem_iff_getElem.1 he
 have:=(Array.all_eq_true.1 h1) j hj
 simpa [hb] using this
theorem all_listedK {ops:Array Oper}{listed:Array Bool}(he:edgesBackK ops=true)(hz:listed.size=ops.size)(h:Region.ready .any ops listed = []):∀ i,i<ops.size→listed.getD i false=true:=by
 intro i
 induction i using Nat.strongRecOn with
 | ind i ih =>
  intro hi
  cases hl:listed.getD i false with
  | true=>rfl
  | false =>
   exfalso
   have ho:ops[i]? = some ops[i]:=by simp [hi]
   have hm:i∈Region.ready .any ops listed:=mem_ready.2 ⟨by
    have:i<listed.size:=hz ▸ hi
    simp [this] at hl ⊢
    exact hl,_,ho,fun e hee hb=>ih _ ((edgesBackK_of he ho) e hee hb) (Nat.lt_trans ((edgesBackK_of he ho) e hee hb) hi)⟩
   rw [h] at hm
   cases hm
theorem wpAny_rk {ops:Array Oper}{S:RSpec}{D:List Nat}{B:Nat}{w0:World}{a0:Act}(he:edgesBackK ops=true)(hs:StepsRK P Q ops S D B w0 a0 0 ops.toList)
  (hend:∀ l a w,RI S D B w0 a0 l a w→(∀ k,l k=true)→Q .normal a w) :
  ∀ (fuel:Nat) (listed:Array Bool) (a:Act) (w:World),listed.size=ops.size→listed.toList.count false≤fuel→RI S D B w0 a0 (fun k=>listed.getD k true) a w→wpAny P .any ops Q fuel listed a w:=by
 have full:∀ listed:Array Bool,listed.size=ops.size→(∀ k,k<ops.size→listed.getD k false=true)→∀ k,listed.getD k true=true:=fun listed hz h k=>by
  by_cases hk:k<listed.size
  ·have:=h k (hz ▸ hk)
   simp [hk] at this ⊢
   exact this
  ·simp [Array.getElem?_eq_none (Nat.le_of_not_lt hk)]
 intro fuel
 induction fuel with
 | zero =>
  intro listed a w hz hc hI
  have hall:∀ k,k<ops.size→listed.getD k false=true:=fun k hk=>by
   have hk':k<listed.size:=hz ▸ hk
   have h0:listed.toList.count false=0:=Nat.le_zero.1 hc
   have:=List.count_eq_zero.1 h0
   cases hv:listed[k] with
   | true=>simp [hk',hv]
   | false=>exact absurd (by rw [← hv]; exact Array.mem_toList_iff.2 (Array.getElem_mem hk')) this
  have hr:Region.ready .any ops listed = []:=by
   refine List.eq_nil_iff_forall_not_mem.2 (fun i hi=>?_)
   obtain ⟨h1,o,ho,_⟩:=mem_ready.1 hi
   have hi':i<ops.size:=(Array.getElem?_eq_some_iff.1 ho).1
   have h2:=hall i hi'
   have hi2:i<listed.size:=hz ▸ hi'
   simp [hi2] at h1 h2
   rw [h1] at h2
   cases h2
  exact ⟨hr,hend _ _ _ hI (full _ hz hall)⟩
 | succ fuel ih =>
  intro listed a w hz hc hI
  refine ⟨fun hr=>hend _ _ _ hI (full _ hz (all_listedK he hz hr)),fun i hi=>?_⟩
  obtain ⟨h1,o,ho,hed⟩:=mem_ready.1 hi
  have hi':i<ops.size:=(Array.getElem?_eq_some_iff.1 ho).1
  have hi2:i<listed.size:=hz ▸ hi'
  have hf:listed[i]=false:=by simpa [hi2] using h1
  refine wpOp_step ho (fun K' hK=>?_)
  refine hs i o (by simpa using ho) _ a w hI (by simp [hi2,hf]) (fun e hee hb=>?_) K' (fun a' w' hI'=>hK a' w' (ih _ a' w' (by simpa using hz) ?_ ?_))
  ·have h3:=hed e hee hb
   by_cases hk:e.on<listed.size
   ·simp [hk] at h3 ⊢
    exact h3
   ·simp [Array.getElem?_eq_none (Nat.le_of_not_lt hk)]
  ·have hcs:(listed.setIfInBounds i true).toList.count false+1=listed.toList.count false:=by
    have hm:0<listed.toList.count false:=List.count_pos_iff.2 (by rw [← hf]; exact Array.mem_toList_iff.2 (Array.getElem_mem hi2))
    have e1:(listed.toList[i] == false)=true:=by simp [hf]
    have e2:¬ ((true == false)=true):=by decide
    rw [Array.toList_setIfInBounds,List.count_set (by simpa using hi2),if_pos e1,if_neg e2]
    omega
   omega
  ·have:(fun k=>(listed.setIfInBounds i true).getD k true)=upd (fun k=>listed.getD k true) (0+i):=by
    funext k
    by_cases e:k=i
    ·subst e
     simp [upd,hi2]
    ·simp [upd,e,Array.getElem?_setIfInBounds_ne (Ne.symm e)]
   rw [this]
   exact hI'
theorem wp_region_rk {id:Nat}{ops:Array Oper}{a:Act}{w:World}(S:RSpec)(D:List Nat)(B:Nat)(G:Act→Prop)(hm:P.follows .mixedOrders=true)(hn:S.m=ops.size)(he:edgesBackK ops=true)(hp:(S.pres.drop S.m).all List.isEmpty=true)(hG:G a)
  (hst:∀ k,k<S.n→StB (S.fact k)) (h0:∀ k,S.m≤k→k<S.n→S.fact k (aT a (S.slot k)) w)
  (hs:∀ a0,G a0→StepsRK P Q ops S D B w a0 0 ops.toList)
  (hend:∀ a' w',Fr D a a'→Below B w w'→(∀ k,k<S.n→S.kill k = []→S.fact k (aT a' (S.slot k)) w')→Q .normal a' w'):(Code.region id ops true).wp P Q a w:=by
 refine wp_region_any hm (wpAny_rk he (hs a hG) (fun l a' w' hI hl=>hend a' w' hI.fr hI.bel (fun k hk h0=>hI.fact k hk (hl k) (by simp [h0]))) ops.size _ a _ (by simp) (by simp) ?_)
 refine ri_start (Below.refl _ _).drew (fun k hl=>?_) (fun k hk=>?_) hp (fun k h1 h2=>hst k h2 _ _ _ (h0 k h1 h2) (Below.refl _ _).drew)
 ·rw [hn]
  by_cases hk:k<ops.size
  ·simp [hk] at hl
  ·omega
 ·rw [hn] at hk
  simp [Array.getElem?_eq_none (show (Array.replicate ops.size false).size≤k by simpa using hk)]
end
end Go.Proofs.YtmdfbnlgfhjnoaaGreatDoor
