import Derived.Test.YtmdfbnlgfhjnoaaGreatDoorShelf
import Derived.Test.YtmdfbnlgfhjnoaaGreatDoorFD04
set_option maxRecDepth 10000
set_option maxHeartbeats 8000000
set_option linter.unusedVariables false
namespace Go.Proofs.YtmdfbnlgfhjnoaaGreatDoor
open Go.RowKit
def MaxW (w:World):Prop:=∃ m,w.cell? ⟨0,0,none⟩=some (.int .i64 m)
theorem MaxW.kept {w w':World}(h:MaxW w)(hb:Below w.heap.size w w'):MaxW w':=by
 obtain ⟨m,hm⟩:=h
 exact ⟨m,(hb.cell (p:=⟨0,0,none⟩) (World.block_lt_of_cell? w _ hm)).trans hm⟩
theorem split_any (s sep:ByteArray)(cb:UInt8)(hsep:sep.data.toList = [cb])(w:World)(hs:s.size≤1048576)(hm:MaxW w) :
  Calls Tryz.prog 222 #[.string s,.string sep] w fun e w'=>∃ g n,e=.returned (.slice (some ⟨g,0,none⟩) n n)∧n=(cutAt s (cb.toNat:Int)).length∧g<w'.heap.size ∧
   Hid (∀ k,k<n→w'.cell? ⟨g,k,none⟩=some (.string ((cutAt s (cb.toNat:Int)).getD k ByteArray.empty)))∧Below w.heap.size w w':=by
 obtain ⟨m,hm⟩:=hm
 refine (Tryz.strings_Split s sep m w (by omega) hm (by rw [Lib.size_eq,hsep]; exact Nat.le_refl _)).mono ?_
 rintro e w' ⟨rfl,rfl⟩
 rw [split_cut s sep cb hsep]
 refine ⟨w.heap.size,_,rfl,(split_len s sep cb hsep).symm,by simp,fun k hk=>?_,(Below.refl _ _).alloc (Nat.le_refl _) _⟩
 rw [cell_of_row _ w.heap.size k _ 9 (0,0) (heap_alloc_new w _)]
 rw [← split_len s sep cb hsep] at hk
 simp [hk]
theorem hostL_one {L:List ByteArray}{wild:Bool}(h:isStar L wild 0):hostL L wild (0+1):=fun j hj=>by
 have e:j=0:=by omega
 rw [e]
 exact .inl h
theorem ext_le (s:ByteArray)(f j:Nat):(s.extract f j).size≤s.size:=by
 rw [Lib.size_eq,Lib.extract_data,List.length_take,List.length_drop,Lib.size_eq]; omega
theorem pcs_size (s:ByteArray)(c:Int):∀ k f i,∀ b∈pcs s c k f i,b.size≤s.size
 | 0,f,i,b,hb=>by
  simp only [pcs,List.mem_singleton] at hb
  rw [hb]; exact ext_le s f i
 | k+1,f,i,b,hb=>by
  unfold pcs at hb
  split at hb
  ·rcases List.mem_cons.1 hb with h | h
   ·rw [h]; exact ext_le s f i
   ·exact pcs_size s c k (i+1) (i+1) b h
  ·exact pcs_size s c k f (i+1) b hb
theorem cut_size (s:ByteArray)(c:Int)(k:Nat):((cutAt s c).getD k ByteArray.empty).size≤s.size:=by
 rw [List.getD_eq_getElem?_getD]
 cases h:(cutAt s c)[k]? with
 | none=>exact Nat.zero_le _
 | some b=>exact pcs_size s c _ _ _ b (List.mem_of_getElem? h)
theorem implHostOk_any (s:ByteArray)(wild:Bool)(w:World)(hm:MaxW w):Calls Tryz.prog 211 #[.string s,.bool wild] w (SaysB (hostP s wild) w):=by
 obtain ⟨P,hP⟩:∃ P,P=hostP s wild:=⟨_,rfl⟩
 rw [← hP]
 have HP:Hid (P=hostP s wild):=hP
 have HM:Hid (MaxW w):=hm
 clear hP hm
 by_cases h100:100<s.size
 ·have HN:Hid (¬ P):=by show ¬ P; rw [HP.out]; intro h; have:=h.1; omega
  go_enter Tryz.func211,Tryz.ntmps211
  go_wp2
  go_ret
  exact saysB_f HN.out (Below.refl _ _)
 go_enter Tryz.func211,Tryz.ntmps211
 go_wp2_with fail
 refine (split_any s ⟨#[46]⟩ 46 rfl _ (by omega) HM.out).mono ?_
 rintro e w1 ⟨g,n,rfl,hn,hg,HC,hb⟩
 obtain ⟨L,hL⟩:∃ L,L=cutAt s 46:=⟨_,rfl⟩
 have h46:((46:UInt8).toNat:Int)=46:=rfl
 rw [h46,← hL] at hn HC
 have hlen:=cutAt_len s 46
 rw [← hL,← hn] at hlen
 have HL:Hid (P↔L.length≤10∧hostL L wild L.length):=by
  show P↔_
  rw [HP.out,hL]
  exact ⟨fun h=>h.2,fun h=>⟨by omega,h⟩⟩
 have HLEN:Hid (L.length=n):=hn.symm
 have HSZ:Hid (∀ k,(L.getD k ByteArray.empty).size≤100):=fun k=>by rw [hL]; have:=cut_size s 46 k; omega
 clear HP hL hn h46 HM
 obtain ⟨hl1,hl2⟩:=hlen
 by_cases h10:10<n
 ·have HN:Hid (¬ P):=by show ¬ P; rw [HL.out,HLEN.out]; intro h; have:=h.1; omega
  clear HC
  go_wp2
  go_ret
  exact saysB_f HN.out hb
 have x0:w1.cell? ⟨g,0,none⟩=some (.string (L.getD 0 ByteArray.empty)):=HC.out 0 (by omega)
 obtain ⟨b0,hb0⟩:∃ b0,b0=L.getD 0 ByteArray.empty:=⟨_,rfl⟩
 rw [← hb0] at x0
 have HB0:Hid (b0=L.getD 0 ByteArray.empty):=hb0
 clear hb0
 by_cases hst:isStar L wild 0
 ·have HST:Hid (isStar L wild 0):=hst
  obtain ⟨_,rfl,h3,h4⟩:=hst
  rw [HLEN.out] at h4
  have z:(b0.toList == [42])=true:=(toList_star b0).2 (HB0.out.trans h3)
  clear h3 HB0
  obtain ⟨m,rfl⟩:∃ m,n=m+1:=⟨n - 1,by omega⟩
  have z2:decide ((2:Int)<(m:Int)+1)=true:=decide_eq_true (by omega)
  go_wp2
  go_loopw [32] (fun i wr=>∃ k:Nat,k≤m∧i=.int .i64 k∧Hid (hostL L true (k+1))∧w1=wr) (fun i _=>m - (intOf i).toNat)
  case atStart=>exact ⟨0,by omega,rfl,hostL_one HST.out,rfl⟩
  case round =>
   obtain ⟨k,hk,rfl,HI,rfl⟩:=hrel
   by_cases hlt:k<m
   ·have xk:w1.cell? ⟨g,1+k,none⟩=some (.string (L.getD (k+1) ByteArray.empty)):=by rw [Nat.add_comm]; exact HC.out (k+1) (by omega)
    obtain ⟨bk,hbk⟩:∃ bk,bk=L.getD (k+1) ByteArray.empty:=⟨_,rfl⟩
    rw [← hbk] at xk
    have hks:bk.size≤100:=by rw [hbk]; exact HSZ.out _
    have HN:Hid (labP bk→hostL L true (k+1+1)):=fun h=>hostL_succ HI.out (.inr (hbk ▸ h))
    have HF:Hid (¬ labP bk→¬ P):=fun h=>by
     rw [HL.out,HLEN.out]
     rintro ⟨_,h2⟩
     rcases h2 (k+1) (by omega) with h3 | h3
     ·exact absurd h3.1 (by omega)
     ·exact h (hbk ▸ h3)
    clear hbk HI HC x0 z
    go_wp2_with fail
    refine (labelOk_any bk _ (by omega)).mono ?_
    rintro e w2 ⟨b,rfl,HV,rfl⟩
    cases b with
    | true =>
     have HN2:Hid (hostL L true (k+1+1)):=HN.out (HV.out.1 rfl)
     clear HN HF HV
     go_wp2
     go_roundw
     case rel=>exact ⟨k+1,by omega,by go_num,HN2,by trivial⟩
     case measure=>simp [intOf]; omega
    | false =>
     have HF2:Hid (¬ P):=HF.out (fun h=>Bool.false_ne_true (HV.out.2 h))
     clear HN HF HV
     go_wp2
     go_ret
     exact saysB_f HF2.out hb
   ·obtain rfl:k=m:=by omega
    have HN:Hid P:=by show P; rw [HL.out,HLEN.out]; exact ⟨by omega,HI.out⟩
    clear HI
    go_wp2
    go_ret
    exact saysB_t HN.out hb
 ·have HST:Hid (∀ j,¬ isStar L wild j):=fun j h=>by
   have e:=h.1
   subst e
   exact hst h
  have hcs:(wild=false)∨(wild=true∧(b0.toList == [42])=false)∨(wild=true∧(b0.toList == [42])=true∧¬ 2<n):=by
   cases hw:wild with
   | false=>exact .inl rfl
   | true =>
    cases hz:(b0.toList == [42]) with
    | false=>exact .inr (.inl ⟨rfl,rfl⟩)
    | true=>exact .inr (.inr ⟨rfl,rfl,fun h2=>hst ⟨rfl,hw,HB0.out.symm.trans ((toList_star b0).1 hz),by rw [HLEN.out]; exact h2⟩⟩)
  clear hst HB0
  rcases hcs with rfl | ⟨rfl,hz⟩ | ⟨rfl,hz,h2⟩
  ·go_wp2
   go_loopw [32] (fun i wr=>∃ k:Nat,k≤n∧i=.int .i64 k∧Hid (hostL L false k)∧w1=wr) (fun i _=>n - (intOf i).toNat)
   case atStart=>exact ⟨0,by omega,rfl,(fun j hj=>absurd hj (Nat.not_lt_zero _)),rfl⟩
   case round =>
    obtain ⟨k,hk,rfl,HI,rfl⟩:=hrel
    by_cases hlt:k<n
    ·have xk:w1.cell? ⟨g,k,none⟩=some (.string (L.getD k ByteArray.empty)):=HC.out k hlt
     obtain ⟨bk,hbk⟩:∃ bk,bk=L.getD k ByteArray.empty:=⟨_,rfl⟩
     rw [← hbk] at xk
     have hks:bk.size≤100:=by rw [hbk]; exact HSZ.out _
     have HN:Hid (labP bk→hostL L false (k+1)):=fun h=>hostL_succ HI.out (.inr (hbk ▸ h))
     have HF:Hid (¬ labP bk→¬ P):=fun h=>by
      rw [HL.out,HLEN.out]
      rintro ⟨_,h2⟩
      rcases h2 k hlt with h3 | h3
      ·exact HST.out _ h3
      ·exact h (hbk ▸ h3)
     clear hbk HI HC x0
     go_wp2_with fail
     refine (labelOk_any bk _ (by omega)).mono ?_
     rintro e w2 ⟨b,rfl,HV,rfl⟩
     cases b with
     | true =>
      have HN3:Hid (hostL L false (k+1)):=HN.out (HV.out.1 rfl)
      clear HN HF HV
      go_wp2
      go_roundw
      case rel=>exact ⟨k+1,by omega,by go_num,HN3,by trivial⟩
      case measure=>simp [intOf]; omega
     | false =>
      have HF2:Hid (¬ P):=HF.out (fun h=>Bool.false_ne_true (HV.out.2 h))
      clear HN HF HV
      go_wp2
      go_ret
      exact saysB_f HF2.out hb
    ·obtain rfl:k=n:=by omega
     have HN:Hid P:=by show P; rw [HL.out,HLEN.out]; exact ⟨by omega,HI.out⟩
     clear HI
     go_wp2
     go_ret
     exact saysB_t HN.out hb
  ·go_wp2
   go_loopw [32] (fun i wr=>∃ k:Nat,k≤n∧i=.int .i64 k∧Hid (hostL L true k)∧w1=wr) (fun i _=>n - (intOf i).toNat)
   case atStart=>exact ⟨0,by omega,rfl,(fun j hj=>absurd hj (Nat.not_lt_zero _)),rfl⟩
   case round =>
    obtain ⟨k,hk,rfl,HI,rfl⟩:=hrel
    by_cases hlt:k<n
    ·have xk:w1.cell? ⟨g,k,none⟩=some (.string (L.getD k ByteArray.empty)):=HC.out k hlt
     obtain ⟨bk,hbk⟩:∃ bk,bk=L.getD k ByteArray.empty:=⟨_,rfl⟩
     rw [← hbk] at xk
     have hks:bk.size≤100:=by rw [hbk]; exact HSZ.out _
     have HN:Hid (labP bk→hostL L true (k+1)):=fun h=>hostL_succ HI.out (.inr (hbk ▸ h))
     have HF:Hid (¬ labP bk→¬ P):=fun h=>by
      rw [HL.out,HLEN.out]
      rintro ⟨_,h2⟩
      rcases h2 k hlt with h3 | h3
      ·exact HST.out _ h3
      ·exact h (hbk ▸ h3)
     clear hbk HI HC x0
     go_wp2_with fail
     refine (labelOk_any bk _ (by omega)).mono ?_
     rintro e w2 ⟨b,rfl,HV,rfl⟩
     cases b with
     | true =>
      have HN3:Hid (hostL L true (k+1)):=HN.out (HV.out.1 rfl)
      clear HN HF HV
      go_wp2
      go_roundw
      case rel=>exact ⟨k+1,by omega,by go_num,HN3,by trivial⟩
      case measure=>simp [intOf]; omega
     | false =>
      have HF2:Hid (¬ P):=HF.out (fun h=>Bool.false_ne_true (HV.out.2 h))
      clear HN HF HV
      go_wp2
      go_ret
      exact saysB_f HF2.out hb
    ·obtain rfl:k=n:=by omega
     have HN:Hid P:=by show P; rw [HL.out,HLEN.out]; exact ⟨by omega,HI.out⟩
     clear HI
     go_wp2
     go_ret
     exact saysB_t HN.out hb
  ·go_wp2
   go_loopw [32] (fun i wr=>∃ k:Nat,k≤n∧i=.int .i64 k∧Hid (hostL L true k)∧w1=wr) (fun i _=>n - (intOf i).toNat)
   case atStart=>exact ⟨0,by omega,rfl,(fun j hj=>absurd hj (Nat.not_lt_zero _)),rfl⟩
   case round =>
    obtain ⟨k,hk,rfl,HI,rfl⟩:=hrel
    by_cases hlt:k<n
    ·have xk:w1.cell? ⟨g,k,none⟩=some (.string (L.getD k ByteArray.empty)):=HC.out k hlt
     obtain ⟨bk,hbk⟩:∃ bk,bk=L.getD k ByteArray.empty:=⟨_,rfl⟩
     rw [← hbk] at xk
     have hks:bk.size≤100:=by rw [hbk]; exact HSZ.out _
     have HN:Hid (labP bk→hostL L true (k+1)):=fun h=>hostL_succ HI.out (.inr (hbk ▸ h))
     have HF:Hid (¬ labP bk→¬ P):=fun h=>by
      rw [HL.out,HLEN.out]
      rintro ⟨_,h2⟩
      rcases h2 k hlt with h3 | h3
      ·exact HST.out _ h3
      ·exact h (hbk ▸ h3)
     clear hbk HI HC x0
     go_wp2_with fail
     refine (labelOk_any bk _ (by omega)).mono ?_
     rintro e w2 ⟨b,rfl,HV,rfl⟩
     cases b with
     | true =>
      have HN3:Hid (hostL L true (k+1)):=HN.out (HV.out.1 rfl)
      clear HN HF HV
      go_wp2
      go_roundw
      case rel=>exact ⟨k+1,by omega,by go_num,HN3,by trivial⟩
      case measure=>simp [intOf]; omega
     | false =>
      have HF2:Hid (¬ P):=HF.out (fun h=>Bool.false_ne_true (HV.out.2 h))
      clear HN HF HV
      go_wp2
      go_ret
      exact saysB_f HF2.out hb
    ·obtain rfl:k=n:=by omega
     have HN:Hid P:=by show P; rw [HL.out,HLEN.out]; exact ⟨by omega,HI.out⟩
     clear HI
     go_wp2
     go_ret
     exact saysB_t HN.out hb
open Go.RowKit
def localP (s:ByteArray):Prop:=(1≤s.size∧s.size≤20)∧allB wordB s s.size
def mailP (s:ByteArray):Prop:=∃ a b,cutAt s 64 = [a,b]∧localP a∧hostP b false
theorem pcs_none (s:ByteArray)(c:Int):∀ (k f i:Nat),i+k=s.size→(∀ j,i≤j→j<s.size→cAt s j≠c)→pcs s c k f i = [s.extract f s.size]
 | 0,f,i,hi,_=>by
  have e:i=s.size:=by omega
  rw [e]; rfl
 | k+1,f,i,hi,h=>by
  rw [pcs,if_neg (h i (Nat.le_refl _) (by omega))]
  exact pcs_none s c k f (i+1) (by omega) (fun j h1 h2=>h j (by omega) h2)
theorem pcs_skip (s:ByteArray)(c:Int)(t:Nat)(ht:t<s.size)(hc:cAt s t=c):∀ (k f i:Nat),i+k=s.size→i≤t→(∀ j,i≤j→j<t→cAt s j≠c) →
  pcs s c k f i=s.extract f t::pcs s c (s.size - (t+1)) (t+1) (t+1)
 | 0,f,i,hi,hit,_=>by omega
 | k+1,f,i,hi,hit,h=>by
  by_cases e:i=t
  ·subst e
   rw [pcs,if_pos hc,show s.size - (i+1)=k by omega]
  ·rw [pcs,if_neg (h i (Nat.le_refl _) (by omega))]
   exact pcs_skip s c t ht hc k f (i+1) (by omega) (by omega) (fun j h1 h2=>h j (by omega) h2)
theorem cut_none {s:ByteArray}{c:Int}(h:∀ j,j<s.size→cAt s j≠c):cutAt s c = [s]:=by
 unfold cutAt
 rw [pcs_none s c s.size 0 0 (by omega) (fun j _ hj=>h j hj),ext_whole]
theorem cut_hit {s:ByteArray}{c:Int}{t:Nat}(ht:t<s.size)(hc:cAt s t=c)(h:∀ j,j<t→cAt s j≠c):cutAt s c=s.extract 0 t::pcs s c (s.size - (t+1)) (t+1) (t+1) :=
 pcs_skip s c t ht hc s.size 0 0 (by omega) (Nat.zero_le _) (fun j _ hj=>h j hj)
theorem pcs_cover (s:ByteArray)(c:Int):∀ (k f i:Nat),i+k=s.size→f≤i→∀ j,f≤j→j<s.size→cAt s j=c∨∃ p∈pcs s c k f i,∃ t,t<p.size∧cAt p t=cAt s j
 | 0,f,i,hi,hf,j,hj,hjs=>by
  refine .inr ⟨s.extract f i,by simp [pcs],j - f,?_,?_⟩
  ·rw [ext_sz s f i (by omega)]; omega
  ·rw [ext_cAt s f i (j - f) (by omega),show f+(j - f)=j by omega]
 | k+1,f,i,hi,hf,j,hj,hjs=>by
  unfold pcs
  by_cases hc:cAt s i=c
  ·rw [if_pos hc]
   by_cases h1:j<i
   ·refine .inr ⟨s.extract f i,List.mem_cons_self,j - f,?_,?_⟩
    ·rw [ext_sz s f i (by omega)]; omega
    ·rw [ext_cAt s f i (j - f) (by omega),show f+(j - f)=j by omega]
   ·by_cases h2:j=i
    ·rw [h2]; exact .inl hc
    ·rcases pcs_cover s c k (i+1) (i+1) (by omega) (Nat.le_refl _) j (by omega) hjs with h | ⟨p,hp,q⟩
     ·exact .inl h
     ·exact .inr ⟨p,List.mem_cons_of_mem _ hp,q⟩
  ·rw [if_neg hc]
   exact pcs_cover s c k f (i+1) (by omega) (by omega) j hj hjs
theorem hostP_bytes {s:ByteArray}{wild:Bool}(h:hostP s wild)(j:Nat)(hj:j<s.size):cAt s j=46∨cAt s j=42∨labB (cAt s j):=by
 rcases pcs_cover s 46 s.size 0 0 (by omega) (Nat.le_refl _) j (Nat.zero_le _) hj with h1 | ⟨p,hp,t,ht,e⟩
 ·exact .inl h1
 ·right
  obtain ⟨k,hk,hkp⟩:=List.getElem_of_mem hp
  have hg:(cutAt s 46).getD k ByteArray.empty=p:=by
   rw [List.getD_eq_getElem?_getD,show (cutAt s 46)[k]? = some p from List.getElem?_eq_some_iff.2 ⟨hk,hkp⟩]
   rfl
  rcases h.2.2 k hk with ⟨h0,_,h3,_⟩ | h3
  ·subst h0
   rw [hg] at h3
   subst h3
   have h1:(star:ByteArray).size=1:=rfl
   have e0:t=0:=by omega
   subst e0
   rw [← e]
   exact .inl rfl
  ·rw [hg] at h3
   rw [← e]
   exact .inr (h3.2.2 t ht)
theorem host_no64 {s:ByteArray}{wild:Bool}(h:hostP s wild)(j:Nat)(hj:j<s.size):cAt s j≠64:=by
 intro e
 rcases hostP_bytes h j hj with h1 | h1 | h1
 ·omega
 ·omega
 ·rw [e] at h1
  rcases h1 with (h1 | h1) | h1 <;> omega
theorem mailP_iff {s:ByteArray}{t:Nat}(ht:t<s.size)(hc:cAt s t=64)(h:∀ j,j<t→cAt s j≠64):mailP s↔localP (s.extract 0 t)∧hostP (s.extract (t+1) s.size) false:=by
 unfold mailP
 rw [cut_hit ht hc h]
 constructor
 ·rintro ⟨a,b,e,h1,h2⟩
  have e1:=(List.cons.inj e).1
  have e2:=(List.cons.inj e).2
  obtain ⟨j,r,e3,_,h5,h6,h7⟩:=pcs_head s 64 (s.size - (t+1)) (t+1) (t+1) (by omega) (Nat.le_refl _)
  rw [e3] at e2
  have e4:=(List.cons.inj e2).1
  have e5:=(List.cons.inj e2).2
  rcases h7 with ⟨_,h8⟩ | ⟨h8,_⟩
  ·rw [h8] at e4
   rw [e1,e4]
   exact ⟨h1,h2⟩
  ·exact absurd e5 h8
 ·rintro ⟨h1,h2⟩
  refine ⟨_,_,?_,h1,h2⟩
  rw [pcs_none s 64 _ _ _ (by omega) (fun j h3 h4=>?_)]
  have h5:=host_no64 h2 (j - (t+1)) (by rw [ext_sz s _ _ (Nat.le_refl _)]; omega)
  rw [ext_cAt s _ _ _ (by omega),show t+1+(j - (t+1))=j by omega] at h5
  exact h5
theorem mailP_none {s:ByteArray}(h:∀ j,j<s.size→cAt s j≠64):¬ mailP s:=by
 rintro ⟨a,b,e,_⟩
 rw [cut_none h] at e
 cases e
theorem everyWord_any (s:ByteArray)(w:World)(hs:s.size≤1048576) :
  Calls Tryz.prog 186 #[.string s,.func (Fn.func 216) #[] #[]] w (SaysW (allB wordB s s.size) w):=by
 go_enter Tryz.func186,Tryz.ntmps186
 go_wp2
 go_loopw [5] (fun i wr=>∃ k:Nat,k≤s.size∧i=.int .i64 k∧Hid (allB wordB s k)∧w=wr) (fun i _=>s.size - (intOf i).toNat)
 case atStart=>exact ⟨0,Nat.zero_le _,rfl,(fun j hj=>absurd hj (Nat.not_lt_zero _)),rfl⟩
 case round =>
  obtain ⟨k,hk,rfl,HP,rfl⟩:=hrel
  by_cases hlt:k<s.size
  ·have HX:Hid (cAt s k=(s[k].toNat:Int)):=cAt_get s k hlt
   go_wp2_with fail
   refine (isWordByte_any _ _).mono ?_
   rintro e w1 ⟨b,rfl,HV,rfl⟩
   cases b with
   | false =>
    have HN:Hid (¬ allB wordB s s.size):=fun h=>Bool.false_ne_true (HV.out.2 (by rw [← HX.out]; exact h k hlt))
    clear HV HP
    go_wp2
    go_ret
    exact saysW_f HN.out
   | true =>
    have HN:Hid (allB wordB s (k+1)):=allB_succ HP.out (by rw [HX.out]; exact HV.out.1 rfl)
    clear HP HV
    go_wp2
    go_roundw
    case rel=>exact ⟨k+1,by omega,by go_num,HN,by trivial⟩
    case measure=>simp [intOf]; omega
  ·obtain rfl:k=s.size:=by omega
   go_wp2
   go_ret
   exact saysW_t HP.out
theorem wordMail_any (s:ByteArray)(w:World)(hs:s.size≤1048576) :
  Calls Tryz.prog 215 #[.string s,.int .i64 20,.func (Fn.func 216) #[] #[]] w (SaysW (localP s) w):=by
 obtain ⟨P,hP⟩:∃ P:Prop,P=localP s:=⟨_,rfl⟩
 rw [← hP]
 have HP:Hid (P=((1≤s.size∧s.size≤20)∧allB wordB s s.size)):=hP
 clear hP
 rcases Nat.eq_zero_or_pos s.size with h0 | h0
 ·have HN:Hid (¬ P):=fun h=>by rw [HP.out] at h; omega
  have z:s.toList.isEmpty=true:=by
   rw [ByteArray.toList_eq]
   have:s.data.toList = []:=List.eq_nil_of_length_eq_zero (by simpa using h0)
   rw [this]
   rfl
  clear h0
  go_enter Tryz.func215,Tryz.ntmps215
  go_wp2
  go_ret
  exact saysW_f HN.out
 ·have z:s.toList.isEmpty=false:=by
   rw [ByteArray.toList_eq]
   cases hl:s.data.toList with
   | nil =>
        have:s.data.toList.length=0:=by rw [hl]; rfl
        simp at this
        have h2:s.size=0:=by rw [this]; rfl
        omega
   | cons _ _=>rfl
  by_cases h20:(s.size:Int)≤20
  ·go_enter Tryz.func215,Tryz.ntmps215
   go_wp2_with fail
   refine (everyWord_any s _ hs).mono ?_
   rintro e w1 ⟨b,rfl,HV,rfl⟩
   cases b with
   | true =>
    have HN:Hid P:=by show P; rw [HP.out]; exact ⟨⟨by omega,by omega⟩,HV.out.1 rfl⟩
    clear HV
    go_wp2
    go_ret
    exact saysW_t HN.out
   | false =>
    have HN:Hid (¬ P):=fun h=>by rw [HP.out] at h; exact Bool.false_ne_true (HV.out.2 h.2)
    clear HV
    go_wp2
    go_ret
    exact saysW_f HN.out
  ·have HN:Hid (¬ P):=fun h=>by rw [HP.out] at h; omega
   go_enter Tryz.func215,Tryz.ntmps215
   go_wp2
   go_ret
   exact saysW_f HN.out
theorem l6Local_any (s:ByteArray)(w:World)(hs:s.size≤1048576):Calls Tryz.prog 207 #[.string s] w (SaysW (localP s) w):=by
 go_enter Tryz.func207,Tryz.ntmps207
 go_wp2
 go_loopw [3] (fun i wr=>∃ k:Nat,k≤s.size∧i=.int .i64 k∧Hid (allB wordB s k)∧w=wr) (fun i _=>s.size - (intOf i).toNat)
 case atStart=>exact ⟨0,Nat.zero_le _,rfl,(fun j hj=>absurd hj (Nat.not_lt_zero _)),rfl⟩
 case round =>
  obtain ⟨k,hk,rfl,HP,rfl⟩:=hrel
  by_cases hlt:k<s.size
  ·have hx:=cAt_get s k hlt
   have GOOD:Hid (wordB (s[k].toNat:Int)→allB wordB s (k+1)):=fun h=>allB_succ HP.out (by rw [hx]; exact h)
   have BAD:Hid (¬ wordB (s[k].toNat:Int)→¬ localP s):=fun h q=>h (by rw [← hx]; exact q.2 k hlt)
   clear HP hx
   by_cases hb:wordB (s[k].toNat:Int)
   ·have HN:Hid (allB wordB s (k+1)):=GOOD.out hb
    clear GOOD BAD
    have hc:(97≤(s[k].toNat:Int)∧(s[k].toNat:Int)≤122)∨((s[k].toNat:Int)<97∧48≤(s[k].toNat:Int)∧(s[k].toNat:Int)≤57):=by
     rcases hb with h | h
     ·exact .inl h
     ·exact .inr ⟨by omega,h.1,h.2⟩
    clear hb
    rcases hc with ⟨c1,c2⟩ | ⟨c1,c2,c3⟩
    all_goals
     go_wp2
     go_roundw
     case rel=>exact ⟨k+1,by omega,by go_num,HN,by trivial⟩
     case measure=>simp [intOf]; omega
   ·have HN:Hid (¬ localP s):=BAD.out hb
    clear GOOD BAD
    have hc:(97≤(s[k].toNat:Int)∧122<(s[k].toNat:Int)∧48≤(s[k].toNat:Int)∧57<(s[k].toNat:Int))∨((s[k].toNat:Int)<97∧48≤(s[k].toNat:Int)∧57<(s[k].toNat:Int))∨((s[k].toNat:Int)<97∧(s[k].toNat:Int)<48):=by
     unfold wordB at hb
     omega
    clear hb
    rcases hc with ⟨c1,c2,c3,c4⟩ | ⟨c1,c2,c3⟩ | ⟨c1,c2⟩
    ·have z1:decide ((s[k].toNat:Int)≤122)=false:=decide_eq_false (by omega)
     have z2:decide ((s[k].toNat:Int)≤57)=false:=decide_eq_false (by omega)
     go_wp2
     go_ret
     exact saysW_f HN.out
    ·have z2:decide ((s[k].toNat:Int)≤57)=false:=decide_eq_false (by omega)
     go_wp2
     go_ret
     exact saysW_f HN.out
    ·go_wp2
     go_ret
     exact saysW_f HN.out
  ·obtain rfl:k=s.size:=by omega
   by_cases c1:1≤(s.size:Int)
   ·by_cases c2:(s.size:Int)≤20
    ·have HN:Hid (localP s):=⟨⟨by omega,by omega⟩,HP.out⟩
     clear HP
     go_wp2
     go_ret
     exact saysW_t HN.out
    ·have HN:Hid (¬ localP s):=fun h=>by have:=h.1.2; omega
     clear HP
     go_wp2
     go_ret
     exact saysW_f HN.out
   ·have HN:Hid (¬ localP s):=fun h=>by have:=h.1.1; omega
    clear HP
    go_wp2
    go_ret
    exact saysW_f HN.out
end Go.Proofs.YtmdfbnlgfhjnoaaGreatDoor
