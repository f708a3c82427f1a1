import Derived.Test.YtmdfbnlgfhjnoaaGreatDoorFA01
import Derived.Laws.Rows
import Derived.Laws.Strings
import Derived.Test.YtmdfbnlgfhjnoaaGreatDoorFA02
import Derived.Test.YtmdfbnlgfhjnoaaGreatDoorProg
set_option maxRecDepth 10000
set_option maxHeartbeats 8000000
set_option linter.unusedVariables false
namespace Go.Proofs.YtmdfbnlgfhjnoaaGreatDoor
open Go.RowKit
structure Touch (lo hi:Nat)(w w':World):Prop where
 os:w'.os=w.os
 tape:w'.tape=w.tape
 output:w'.output=w.output
 size:w.heap.size≤w'.heap.size
 block:∀ k,k<w.heap.size→k<lo∨hi≤k→w'.heap[k]? = w.heap[k]?
theorem Touch.trans {lo hi:Nat}{a b c:World}(h:Touch lo hi a b)(k:Touch lo hi b c):Touch lo hi a c :=
 ⟨k.os.trans h.os,k.tape.trans h.tape,k.output.trans h.output,Nat.le_trans h.size k.size,fun i hi' ho=>(k.block i (Nat.lt_of_lt_of_le hi' h.size) ho).trans (h.block i hi' ho)⟩
theorem Touch.below {lo hi B:Nat}{w w':World}(h:Touch lo hi w w')(hB:B≤lo)(hw:B≤w.heap.size):Below B w w' :=
 ⟨h.os,h.tape,h.output,h.size,fun k hk=>h.block k (by omega) (by omega)⟩
def In (a:Option Addr)(n lo hi:Nat):Prop:=∀ b off,a=some ⟨b,off,none⟩→0<n→lo≤b∧b<hi
theorem Row.touch {lo hi p q:Nat}{w w':World}{a:Option Addr}{n:Nat}{bs:List Int}(h:Row w a n bs)(hi':In a n p q)(hd:q≤lo∨hi≤p)(ht:Touch lo hi w w'):Row w' a n bs:=by
 refine ⟨h.len,fun k hk=>?_,h.byte⟩
 obtain ⟨b,off,ha,hb,hc⟩:=h.get k hk
 have hp:=hi' b off ha (by omega)
 exact ⟨b,off,ha,Nat.lt_of_lt_of_le hb ht.size,(World.cell?_of_block (a:=⟨b,off+k,none⟩) (ht.block b hb (by omega))).trans hc⟩
open Go.RowKit
structure TouchX (P:Nat→Prop)(w w':World):Prop where
 os:w'.os=w.os
 tape:w'.tape=w.tape
 output:w'.output=w.output
 size:w.heap.size≤w'.heap.size
 block:∀ k,k<w.heap.size→¬ P k→w'.heap[k]? = w.heap[k]?
theorem Touch.toX {lo hi:Nat}{w w':World}(h:Touch lo hi w w'):TouchX (fun k=>lo≤k∧k<hi) w w':=⟨h.os,h.tape,h.output,h.size,fun k hk hn=>h.block k hk (by have:¬ (lo≤k∧k<hi):=hn; omega)⟩
theorem TouchX.of_below {P:Nat→Prop}{w w':World}(h:Below w.heap.size w w'):TouchX P w w':=⟨h.os,h.tape,h.output,h.size,fun k hk _=>h.block k hk⟩
theorem touchX_g {w w':World}{row:Option Nat}{P:Nat→Prop}(hg:w.grownBy w' row)(hr:∀ k,row=some k→P k):TouchX P w w' :=
 ⟨hg.os,hg.tape,hg.output,hg.size,fun k hk hn=>hg.block k hk (fun e=>hn (hr k e.symm))⟩
theorem ownsRow_moveX {P S:Nat→Prop}{B e size n:Nat}{w w':World}{v:Value}{xs:List Value}(h:w.ownsRow B e size v n xs)(hS:∀ k,v.ownBlock=some k→S k)(hd:∀ k,S k→¬ P k)(ht:TouchX P w w'):w'.ownsRow B e size v n xs:=by
 refine ⟨h.1,?_⟩
 rcases h.2 with hn | ⟨g,cap,cur,rfl,hbb,hgg,rest⟩
 ·exact .inl hn
 ·exact .inr ⟨g,cap,cur,rfl,hbb,(ht.block g (Array.getElem?_eq_some_iff.1 hgg).1 (hd g (hS g rfl))).trans hgg,rest⟩
open Go.RowKit
def wordB (c:Int):Prop:=(97≤c∧c≤122)∨(48≤c∧c≤57)
def labB (c:Int):Prop:=wordB c∨c=45
def allB (P:Int→Prop)(s:ByteArray)(k:Nat):Prop:=∀ j,j<k→P (cAt s j)
def labP (s:ByteArray):Prop:=(1≤s.size∧s.size≤20)∧(cAt s 0≠45∧cAt s (s.size - 1)≠45)∧allB labB s s.size
theorem allB_succ {P:Int→Prop}{s:ByteArray}{k:Nat}(h:allB P s k)(h1:P (cAt s k)):allB P s (k+1):=fun j hj=>by
 by_cases e:j=k
 ·rw [e]; exact h1
 ·exact h j (by omega)
theorem isWordByte_any (x:Int)(w:World):Calls Tryz.prog 216 #[.int .u8 x] w (SaysW (wordB x) w):=by
 have hc:(97≤x∧x≤122)∨(97≤x∧122<x∧48≤x∧57<x)∨(x<97∧48≤x∧x≤57)∨(x<97∧48≤x∧57<x)∨(x<97∧x<48):=by omega
 rcases hc with ⟨h1,h2⟩ | ⟨h1,h2,h3,h4⟩ | ⟨h1,h2,h3⟩ | ⟨h1,h2,h3⟩ | ⟨h1,h2⟩
 ·have HN:Hid (wordB x):=.inl ⟨h1,h2⟩
  go_enter Tryz.func216,Tryz.ntmps216
  go_wp2
  go_ret
  exact saysW_t HN.out
 ·have HN:Hid (¬ wordB x):=fun h=>by unfold wordB at h; omega
  have z1:decide (x≤122)=false:=decide_eq_false (by omega)
  have z2:decide (x≤57)=false:=decide_eq_false (by omega)
  go_enter Tryz.func216,Tryz.ntmps216
  go_wp2
  go_ret
  exact saysW_f HN.out
 ·have HN:Hid (wordB x):=.inr ⟨h2,h3⟩
  go_enter Tryz.func216,Tryz.ntmps216
  go_wp2
  go_ret
  exact saysW_t HN.out
 ·have HN:Hid (¬ wordB x):=fun h=>by unfold wordB at h; omega
  have z2:decide (x≤57)=false:=decide_eq_false (by omega)
  go_enter Tryz.func216,Tryz.ntmps216
  go_wp2
  go_ret
  exact saysW_f HN.out
 ·have HN:Hid (¬ wordB x):=fun h=>by unfold wordB at h; omega
  go_enter Tryz.func216,Tryz.ntmps216
  go_wp2
  go_ret
  exact saysW_f HN.out
theorem isLabelByte_any (x:Int)(w:World):Calls Tryz.prog 232 #[.int .u8 x] w (SaysW (labB x) w):=by
 go_enter Tryz.func232,Tryz.ntmps232
 go_wp2_with fail
 refine (isWordByte_any x _).mono ?_
 rintro e w1 ⟨b,rfl,HV,rfl⟩
 cases b with
 | true =>
  have HN:Hid (labB x):=.inl (HV.out.1 rfl)
  clear HV
  go_wp2
  go_ret
  exact saysW_t HN.out
 | false =>
  by_cases h:x=45
  ·have HN:Hid (labB x):=.inr h
   have z:(x == 45)=true:=beq_iff_eq.2 h
   clear HV h
   go_wp2
   go_ret
   exact saysW_t HN.out
  ·have HN:Hid (¬ labB x):=fun q=>by
    rcases q with q | q
    ·exact Bool.false_ne_true (HV.out.2 q)
    ·exact h q
   have z:(x == 45)=false:=beq_false_of_ne h
   clear HV h
   go_wp2
   go_ret
   exact saysW_f HN.out
theorem everyLabel_any (s:ByteArray)(w:World)(hs:s.size≤1048576) :
  Calls Tryz.prog 186 #[.string s,.func (Fn.func 232) #[] #[]] w (SaysW (allB labB s s.size) w):=by
 go_enter Tryz.func186,Tryz.ntmps186
 go_wp2
 go_loopw [5] (fun i wr=>∃ k:Nat,k≤s.size∧i=.int .i64 k∧Hid (allB labB s k)∧w=wr) (fun i _=>s.size - (intOf i).toNat)
 case atStart=>exact ⟨0,Nat.zero_le _,rfl,(fun j hj=>absurd hj (Nat.not_lt_zero _)),rfl⟩
 case round =>
  obtain ⟨k,hk,rfl,HP,rfl⟩:=hrel
  by_cases hlt:k<s.size
  ·have HX:Hid (cAt s k=(s[k].toNat:Int)):=cAt_get s k hlt
   go_wp2_with fail
   refine (isLabelByte_any _ _).mono ?_
   rintro e w1 ⟨b,rfl,HV,rfl⟩
   cases b with
   | false =>
    have HN:Hid (¬ allB labB s s.size):=fun h=>Bool.false_ne_true (HV.out.2 (by rw [← HX.out]; exact h k hlt))
    clear HV HP
    go_wp2
    go_ret
    exact saysW_f HN.out
   | true =>
    have HN:Hid (allB labB s (k+1)):=allB_succ HP.out (by rw [HX.out]; exact HV.out.1 rfl)
    clear HP HV
    go_wp2
    go_roundw
    case rel=>exact ⟨k+1,by omega,by go_num,HN,by trivial⟩
    case measure=>simp [intOf]; omega
  ·obtain rfl:k=s.size:=by omega
   go_wp2
   go_ret
   exact saysW_t HP.out
theorem wordLabel_any (s:ByteArray)(w:World)(hs:s.size≤1048576) :
  Calls Tryz.prog 215 #[.string s,.int .i64 20,.func (Fn.func 232) #[] #[]] w (SaysW ((1≤s.size∧s.size≤20)∧allB labB s s.size) w):=by
 obtain ⟨P,hP⟩:∃ P:Prop,P=((1≤s.size∧s.size≤20)∧allB labB s s.size):=⟨_,rfl⟩
 rw [← hP]
 have HP:Hid (P=((1≤s.size∧s.size≤20)∧allB labB s s.size)):=hP
 clear hP
 rcases Nat.eq_zero_or_pos s.size with h0 | h0
 ·have HN:Hid (¬ P):=fun h=>by rw [HP.out] at h; omega
  have z:s.toList.isEmpty=true:=by
   rw [ByteArray.toList_eq]
   have:s.data.toList = []:=List.eq_nil_of_length_eq_zero (by simpa using h0)
   rw [this]
   rfl
  clear h0
  go_enter Tryz.func215,Tryz.ntmps215
  go_wp2
  go_ret
  exact saysW_f HN.out
 ·have z:s.toList.isEmpty=false:=by
   rw [ByteArray.toList_eq]
   cases hl:s.data.toList with
   | nil =>
        have:s.data.toList.length=0:=by rw [hl]; rfl
        simp at this
        have h2:s.size=0:=by rw [this]; rfl
        omega
   | cons _ _=>rfl
  by_cases h20:(s.size:Int)≤20
  ·go_enter Tryz.func215,Tryz.ntmps215
   go_wp2_with fail
   refine (everyLabel_any s _ hs).mono ?_
   rintro e w1 ⟨b,rfl,HV,rfl⟩
   cases b with
   | true =>
    have HN:Hid P:=by show P; rw [HP.out]; exact ⟨⟨by omega,by omega⟩,HV.out.1 rfl⟩
    clear HV
    go_wp2
    go_ret
    exact saysW_t HN.out
   | false =>
    have HN:Hid (¬ P):=fun h=>by rw [HP.out] at h; exact Bool.false_ne_true (HV.out.2 h.2)
    clear HV
    go_wp2
    go_ret
    exact saysW_f HN.out
  ·have HN:Hid (¬ P):=fun h=>by rw [HP.out] at h; omega
   go_enter Tryz.func215,Tryz.ntmps215
   go_wp2
   go_ret
   exact saysW_f HN.out
open Go.RowKit
theorem labelOk_any (s:ByteArray)(w:World)(hs:s.size≤1048576):Calls Tryz.prog 223 #[.string s] w (SaysW (labP s) w):=by
 go_enter Tryz.func223,Tryz.ntmps223
 go_wp2_with fail
 refine (wordLabel_any s _ hs).mono ?_
 rintro e w1 ⟨b,rfl,HV,rfl⟩
 cases b with
 | false =>
  have HN:Hid (¬ labP s):=fun h=>Bool.false_ne_true (HV.out.2 ⟨h.1,h.2.2⟩)
  clear HV
  go_wp2
  go_ret
  exact saysW_f HN.out
 | true =>
  have hV:=HV.out.1 rfl
  have HO:Hid ((1≤s.size∧s.size≤20)∧allB labB s s.size):=hV
  obtain ⟨⟨h1,h2⟩,_⟩:=hV
  obtain ⟨m,hm⟩:∃ m:Nat,s.size=m+1:=⟨s.size - 1,by omega⟩
  have h0:0<s.size:=by omega
  have hl:m<s.size:=by omega
  have x0:=cAt_get s 0 h0
  have x1:=cAt_get s m hl
  have HM:Hid (s.size - 1=m):=by show _=_; omega
  have e1:(s.size:Int) - 1=(m:Int):=by omega
  clear HV
  by_cases c0:(s[0].toNat:Int)=45
  ·have HN:Hid (¬ labP s):=fun h=>h.2.1.1 (by rw [x0]; exact c0)
   have z0:((s[0].toNat:Int) != 45)=false:=by simp [c0]
   clear c0 x0 x1 hm
   go_wp2
   go_ret
   exact saysW_f HN.out
  ·have z0:((s[0].toNat:Int) != 45)=true:=bne_iff_ne.2 c0
   by_cases c1:(s[m].toNat:Int)=45
   ·have HN:Hid (¬ labP s):=fun h=>h.2.1.2 (by rw [HM.out,x1]; exact c1)
    have z1:((s[m].toNat:Int) != 45)=false:=by simp [c1]
    clear c0 c1 x0 x1 hm
    go_wp2
    go_ret
    exact saysW_f HN.out
   ·have HN:Hid (labP s):=⟨HO.out.1,⟨by rw [x0]; exact c0,by rw [HM.out,x1]; exact c1⟩,HO.out.2⟩
    have z1:((s[m].toNat:Int) != 45)=true:=bne_iff_ne.2 c1
    clear c0 c1 x0 x1 hm
    go_wp2
    go_ret
    exact saysW_t HN.out
open Go.RowKit
theorem l6Label_any (s:ByteArray)(w:World):Calls Tryz.prog 205 #[.string s] w (SaysW (labP s) w):=by
 by_cases c1:(s.size:Int)<1
 ·have HN:Hid (¬ labP s):=fun h=>by have:=h.1.1; omega
  go_enter Tryz.func205,Tryz.ntmps205
  go_wp2
  go_ret
  exact saysW_f HN.out
 by_cases c2:20<(s.size:Int)
 ·have HN:Hid (¬ labP s):=fun h=>by have:=h.1.2; omega
  go_enter Tryz.func205,Tryz.ntmps205
  go_wp2
  go_ret
  exact saysW_f HN.out
 obtain ⟨m,hm⟩:∃ m:Nat,s.size=m+1:=⟨s.size - 1,by omega⟩
 have h0:0<s.size:=by omega
 have hl:m<s.size:=by omega
 have x0:=cAt_get s 0 h0
 have x1:=cAt_get s m hl
 have HM:Hid (s.size - 1=m):=by show _=_; omega
 have e1:(s.size:Int) - 1=(m:Int):=by omega
 clear hm
 by_cases c3:(s[0].toNat:Int)=45
 ·have HN:Hid (¬ labP s):=fun h=>h.2.1.1 (by rw [x0]; exact c3)
  have z0:((s[0].toNat:Int) == 45)=true:=beq_iff_eq.2 c3
  clear c3 x0 x1
  go_enter Tryz.func205,Tryz.ntmps205
  go_wp2
  go_ret
  exact saysW_f HN.out
 have z0:((s[0].toNat:Int) == 45)=false:=beq_false_of_ne c3
 by_cases c4:(s[m].toNat:Int)=45
 ·have HN:Hid (¬ labP s):=fun h=>h.2.1.2 (by rw [HM.out,x1]; exact c4)
  have z1:((s[m].toNat:Int) == 45)=true:=beq_iff_eq.2 c4
  clear c3 c4 x0 x1
  go_enter Tryz.func205,Tryz.ntmps205
  go_wp2
  go_ret
  exact saysW_f HN.out
 have z1:((s[m].toNat:Int) == 45)=false:=beq_false_of_ne c4
 have HO:Hid ((1≤s.size∧s.size≤20)∧(cAt s 0≠45∧cAt s (s.size - 1)≠45)):=⟨⟨by omega,by omega⟩,by rw [x0]; exact c3,by rw [HM.out,x1]; exact c4⟩
 clear c3 c4 x0 x1
 go_enter Tryz.func205,Tryz.ntmps205
 go_wp2
 clear e1
 go_loopw [3] (fun i wr=>∃ k:Nat,k≤s.size∧i=.int .i64 k∧Hid (allB labB s k)∧w=wr) (fun i _=>s.size - (intOf i).toNat)
 case atStart=>exact ⟨0,Nat.zero_le _,rfl,(fun j hj=>absurd hj (Nat.not_lt_zero _)),rfl⟩
 case round =>
  obtain ⟨k,hk,rfl,HP,rfl⟩:=hrel
  by_cases hlt:k<s.size
  ·have hx:=cAt_get s k hlt
   have GOOD:Hid (labB (s[k].toNat:Int)→allB labB s (k+1)):=fun h=>allB_succ HP.out (by rw [hx]; exact h)
   have BAD:Hid (¬ labB (s[k].toNat:Int)→¬ labP s):=fun h q=>h (by rw [← hx]; exact q.2.2 k hlt)
   clear HP hx
   by_cases hb:labB (s[k].toNat:Int)
   ·have HN:Hid (allB labB s (k+1)):=GOOD.out hb
    have hc:(97≤(s[k].toNat:Int)∧(s[k].toNat:Int)≤122)∨((s[k].toNat:Int)<97∧48≤(s[k].toNat:Int)∧(s[k].toNat:Int)≤57)∨((s[k].toNat:Int)<97∧(s[k].toNat:Int)<48∧((s[k].toNat:Int) == 45)=true):=by
     rcases hb with (hb | hb) | hb
     ·exact .inl hb
     ·exact .inr (.inl ⟨by omega,hb.1,hb.2⟩)
     ·exact .inr (.inr ⟨by omega,by omega,beq_iff_eq.2 hb⟩)
    clear GOOD BAD hb
    rcases hc with ⟨q1,q2⟩ | ⟨q1,q2,q3⟩ | ⟨q1,q2,q3⟩
    all_goals
     go_wp2
     go_roundw
     case rel=>exact ⟨k+1,by omega,by go_num,HN,by trivial⟩
     case measure=>simp [intOf]; omega
   ·have HN:Hid (¬ labP s):=BAD.out hb
    have z5:((s[k].toNat:Int) == 45)=false:=beq_false_of_ne (fun h=>hb (.inr h))
    have hc:(97≤(s[k].toNat:Int)∧decide ((s[k].toNat:Int)≤122)=false∧48≤(s[k].toNat:Int)∧decide ((s[k].toNat:Int)≤57)=false)∨((s[k].toNat:Int)<97∧48≤(s[k].toNat:Int)∧decide ((s[k].toNat:Int)≤57)=false)∨((s[k].toNat:Int)<97∧(s[k].toNat:Int)<48):=by
     unfold labB wordB at hb
     by_cases q:97≤(s[k].toNat:Int)
     ·exact .inl ⟨q,decide_eq_false (by omega),by omega,decide_eq_false (by omega)⟩
     ·by_cases q2:48≤(s[k].toNat:Int)
      ·exact .inr (.inl ⟨by omega,q2,decide_eq_false (by omega)⟩)
      ·exact .inr (.inr ⟨by omega,by omega⟩)
    clear GOOD BAD hb
    rcases hc with ⟨q1,q2,q3,q4⟩ | ⟨q1,q2,q3⟩ | ⟨q1,q2⟩
    all_goals
     go_wp2
     go_ret
     exact saysW_f HN.out
  ·obtain rfl:k=s.size:=by omega
   have HN:Hid (labP s):=⟨HO.out.1,HO.out.2,HP.out⟩
   clear HP
   go_wp2
   go_ret
   exact saysW_t HN.out
open Go.RowKit
theorem l1In_says (x lo hi:Int)(w:World):Calls Tryz.prog 74 #[.int .i64 x,.int .i64 lo,.int .i64 hi] w (SaysW (lo≤x∧x≤hi) w):=by
 have hc:(lo≤x∧x≤hi)∨(lo≤x∧hi<x)∨x<lo:=by omega
 rcases hc with ⟨h1,h2⟩ | ⟨h1,h2⟩ | h1
 ·have HN:Hid (lo≤x∧x≤hi):=⟨h1,h2⟩
  have z1:decide (lo≤x)=true:=decide_eq_true h1
  have z2:decide (x≤hi)=true:=decide_eq_true h2
  go_enter Tryz.func74,Tryz.ntmps74
  go_wp2
  go_ret
  exact saysW_t HN.out
 ·have HN:Hid (¬ (lo≤x∧x≤hi)):=fun h=>by omega
  have z1:decide (lo≤x)=true:=decide_eq_true h1
  have z2:decide (x≤hi)=false:=decide_eq_false (by omega)
  go_enter Tryz.func74,Tryz.ntmps74
  go_wp2
  go_ret
  exact saysW_f HN.out
 ·have HN:Hid (¬ (lo≤x∧x≤hi)):=fun h=>by omega
  have z1:decide (lo≤x)=false:=decide_eq_false (by omega)
  go_enter Tryz.func74,Tryz.ntmps74
  go_wp2
  go_ret
  exact saysW_f HN.out
theorem inBounds_says (x lo hi:Int)(w:World):Calls Tryz.prog 94 #[.int .i64 x,.int .i64 lo,.int .i64 hi] w (SaysW (lo≤x∧x≤hi) w):=by
 have hc:(lo≤x∧x≤hi)∨(lo≤x∧hi<x)∨x<lo:=by omega
 rcases hc with ⟨h1,h2⟩ | ⟨h1,h2⟩ | h1
 ·have HN:Hid (lo≤x∧x≤hi):=⟨h1,h2⟩
  have z1:decide (lo≤x)=true:=decide_eq_true h1
  have z2:decide (x≤hi)=true:=decide_eq_true h2
  go_enter Tryz.func94,Tryz.ntmps94
  go_wp2
  go_ret
  exact saysW_t HN.out
 ·have HN:Hid (¬ (lo≤x∧x≤hi)):=fun h=>by omega
  have z1:decide (lo≤x)=true:=decide_eq_true h1
  have z2:decide (x≤hi)=false:=decide_eq_false (by omega)
  go_enter Tryz.func94,Tryz.ntmps94
  go_wp2
  go_ret
  exact saysW_f HN.out
 ·have HN:Hid (¬ (lo≤x∧x≤hi)):=fun h=>by omega
  have z1:decide (lo≤x)=false:=decide_eq_false (by omega)
  go_enter Tryz.func94,Tryz.ntmps94
  go_wp2
  go_ret
  exact saysW_f HN.out
end Go.Proofs.YtmdfbnlgfhjnoaaGreatDoor
