import Derived.Test.YtnmplldhdfingaaGreatDoorFG03
set_option maxRecDepth 10000
set_option maxHeartbeats 8000000
set_option linter.unusedVariables false
namespace Go.Proofs.YtnmplldhdfingaaGreatDoor
open Go.RowKit
def low (c:Int):Int:=if 65≤c∧c≤90 then c+32 else c
theorem low_byte (c:Int)(h0:0≤c)(h1:c≤255):0≤low c∧low c≤255:=by unfold low; split <;> omega
theorem low_32 (c:Int)(h:c≠32):low c≠32:=by unfold low; split <;> omega
def fo (s:ByteArray):Nat→List Int × Bool
 | 0=>([],false)
 | k+1=>if cAt s k=32 then ((fo s k).1,true) else (((fo s k).1++if (fo s k).2=true∧(fo s k).1≠[] then [32] else [])++[low (cAt s k)],false)
def foldL (s:ByteArray):List Int:=(fo s s.size).1
theorem fo_blank (s:ByteArray)(k:Nat)(h:cAt s k=32):fo s (k+1)=((fo s k).1,true):=by rw [fo,if_pos h]
theorem fo_other (s:ByteArray)(k:Nat)(h:cAt s k≠32):fo s (k+1)=(((fo s k).1++if (fo s k).2=true∧(fo s k).1≠[] then [32] else [])++[low (cAt s k)],false):=by rw [fo,if_neg h]
theorem fo_len (s:ByteArray)(k:Nat):(fo s k).1.length≤2 * k:=by
 induction k with
 | zero=>simp [fo]
 | succ k ih =>
  by_cases h:cAt s k=32
  ·rw [fo_blank s k h]; show (fo s k).1.length≤_; omega
  ·rw [fo_other s k h]; show (((fo s k).1++_)++_).length≤_
   rw [List.length_append,List.length_append]
   split <;> simp <;> omega
def lastI (l:List Int):Int:=l.getD (l.length - 1) 0
theorem lastI_snoc (l:List Int)(x:Int):lastI (l++[x])=x:=by simp [lastI]
theorem fo_last (s:ByteArray)(k:Nat)(h:(fo s k).1≠[]):lastI (fo s k).1≠32:=by
 induction k with
 | zero=>simp [fo] at h
 | succ k ih =>
  by_cases hc:cAt s k=32
  ·rw [fo_blank s k hc] at h ⊢; exact ih h
  ·rw [fo_other s k hc]
   show lastI (_++[low (cAt s k)])≠32
   rw [lastI_snoc]
   exact low_32 _ hc
def fs (p:List Int × Bool):List Int:=p.1++if p.2=true∧p.1≠[] then [32] else []
theorem fs_shut (l:List Int):fs (l,false)=l:=by simp [fs]
theorem fs_other (s:ByteArray)(k:Nat)(h:cAt s k≠32):fs (fo s (k+1))=fs (fo s k)++[low (cAt s k)]:=by
 rw [fo_other s k h]
 exact (fs_shut _).trans rfl
theorem fs_nil (p:List Int × Bool)(h:fs p = []):p.1 = []:=(List.append_eq_nil_iff.1 h).1
theorem fs_skip0 (s:ByteArray)(k:Nat)(h:cAt s k=32)(h0:fs (fo s k) = []):fs (fo s (k+1)) = []:=by
 rw [fo_blank s k h]
 have:=fs_nil _ h0
 simp [fs,this]
theorem fs_cases (s:ByteArray)(k:Nat)(h:fs (fo s k)≠[]):(lastI (fs (fo s k))=32∧fs (fo s k)=(fo s k).1++[32]∧(fo s k).1≠[])∨(lastI (fs (fo s k))≠32∧fs (fo s k)=(fo s k).1∧(fo s k).1≠[]):=by
 by_cases hn:(fo s k).1 = []
 ·exact absurd (by simp [fs,hn]) h
 ·by_cases hg:(fo s k).2=true
  ·have e:fs (fo s k)=(fo s k).1++[32]:=by simp [fs,hn,hg]
   exact .inl ⟨by rw [e,lastI_snoc],e,hn⟩
  ·have e:fs (fo s k)=(fo s k).1:=by simp [fs,hg]
   exact .inr ⟨by rw [e]; exact fo_last s k hn,e,hn⟩
theorem fs_skip1 (s:ByteArray)(k:Nat)(h:cAt s k=32)(h0:fs (fo s k)≠[])(h1:lastI (fs (fo s k))=32):fs (fo s (k+1))=fs (fo s k):=by
 rcases fs_cases s k h0 with ⟨_,e,hn⟩ | ⟨hl,_,_⟩
 ·rw [e,fo_blank s k h]; simp [fs,hn]
 ·exact absurd h1 hl
theorem fs_add (s:ByteArray)(k:Nat)(h:cAt s k=32)(h0:fs (fo s k)≠[])(h1:lastI (fs (fo s k))≠32):fs (fo s (k+1))=fs (fo s k)++[32]:=by
 rcases fs_cases s k h0 with ⟨hl,_,_⟩ | ⟨_,e,hn⟩
 ·exact absurd hl h1
 ·rw [e,fo_blank s k h]; simp [fs,hn]
theorem fs_len (s:ByteArray)(k:Nat):(fs (fo s k)).length≤2 * k+1:=by
 have:=fo_len s k
 unfold fs
 rw [List.length_append]
 split <;> simp <;> omega
theorem Own.le_cap {B:Nat}{w:World}{a:Option Addr}{n cap:Nat}{bs:List Int}(h:Own B w a n cap bs):n≤cap:=by
 rcases h.row.2 with ⟨hv,h0⟩ | ⟨g,cap',cur,hv,_,_,hc,_⟩
 ·simp only [Value.slice.injEq] at hv
  omega
 ·simp only [Value.slice.injEq] at hv
  omega
theorem convert_row {w:World}{g off n cap:Nat}{bs:List Int}(hr:Row w (some ⟨g,off,none⟩) n bs):(convert 26 9 (.slice (some ⟨g,off,none⟩) n cap)).run Tryz.prog w=.ok (.string (strOfNums bs)) w:=by
 refine run_convert_bytes_arg w 26 5 Tryz.underlying26 Tryz.underlying5 g off n cap bs hr.len (fun i hi=>?_) 9 Tryz.underlying9
 obtain ⟨b,off',ha,_,hc⟩:=hr.get i hi
 simp at ha
 obtain ⟨rfl,rfl⟩:=ha
 exact hc
theorem smallLetter_any (x:Int)(w:World)(h0:0≤x)(h1:x≤255):Calls Tryz.prog 141 #[.int .u8 x] w fun e w'=>e=.returned (.int .u8 (low x))∧w=w':=by
 by_cases ha:65≤x
 ·by_cases hb:x≤90
  ·have HV:Hid (low x=x - 65+97):=by show _=_; unfold low; rw [if_pos ⟨ha,hb⟩]; omega
   go_enter Tryz.func141,Tryz.ntmps141
   go_wp2
   go_ret
   exact ⟨by rw [HV.out]; rfl,rfl⟩
  ·have HV:Hid (low x=x):=by show _=_; unfold low; rw [if_neg (by omega)]
   go_enter Tryz.func141,Tryz.ntmps141
   go_wp2
   go_ret
   exact ⟨by rw [HV.out]; rfl,rfl⟩
 ·have HV:Hid (low x=x):=by show _=_; unfold low; rw [if_neg (by omega)]
  go_enter Tryz.func141,Tryz.ntmps141
  go_wp2
  go_ret
  exact ⟨by rw [HV.out]; rfl,rfl⟩
theorem implFold_any (s:ByteArray)(w:World)(hs:s.size≤1048576) :
  Calls Tryz.prog 137 #[.string s] w fun e w'=>e=.returned (.string (strOfNums (foldL s)))∧Below w.heap.size w w':=by
 obtain ⟨i0,hi,hz0,hz1,hz2⟩:=info_parts Tryz.info5
 go_enter Tryz.func137,Tryz.ntmps137
 go_wp2
 go_loopw [3,4,5] (fun o g i wr=>∃ (k len cp:Nat) (ao:Option Addr) (gb:Bool),k≤s.size∧i=.int .i64 k∧g=.bool gb∧Hid (gb=(fo s k).2)∧o=.slice ao len cp∧len≤2 * k∧Own w.heap.size wr ao len cp (fo s k).1∧Below w.heap.size w wr) (fun _ _ i _=>s.size - (intOf i).toNat)
 case atStart=>exact ⟨0,0,0,none,false,Nat.zero_le _,rfl,rfl,rfl,rfl,Nat.zero_le _,own_nil _ _,Below.refl _ _⟩
 case round =>
  obtain ⟨k,len,cp,ao,gb,hk,rfl,rfl,HG,rfl,hle,hor,hbr⟩:=hrel
  have hws:w.heap.size≤wr.heap.size:=hbr.size
  by_cases hlt:k<s.size
  ·have hbx:=s[k].toNat_lt
   have hx:=cAt_get s k hlt
   have hlb:=low_byte (cAt s k) (by omega) (by omega)
   by_cases h32:(s[k].toNat:Int)=32
   ·have HF:Hid (fo s (k+1)=((fo s k).1,true)):=fo_blank s k (by rw [hx]; exact h32)
    have z:((s[k].toNat:Int) == 32)=true:=beq_iff_eq.2 h32
    clear h32 hx hlb
    go_wp2
    go_roundw
    case rel=>exact ⟨k+1,len,cp,ao,true,by omega,by go_num,rfl,(by show _=_; rw [HF.out]),rfl,by omega,by rw [HF.out]; exact hor,hbr⟩
    case measure=>simp [intOf]; omega
   ·have HF:=fo_other s k (by rw [hx]; exact h32)
    have z:((s[k].toNat:Int) == 32)=false:=beq_false_of_ne h32
    have HX:Hid (cAt s k=(s[k].toNat:Int)):=hx
    have HLen:Hid ((fo s k).1.length=len):=hor.length
    cases gb with
    | false =>
     have HF2:Hid (fo s (k+1)=((fo s k).1++[low (cAt s k)],false)):=by show _=_; rw [HF,if_neg (by rw [← HG.out]; simp),List.append_nil]
     clear h32 hx HF HG
     go_wp2_with fail
     refine (smallLetter_any _ _ (by omega) (by omega)).mono ?_
     rintro e w1 ⟨rfl,rfl⟩
     rw [← HX.out]
     go_wp2_with (at_builtin; refine wpList_append_own _ rfl _ _ 26 rfl w.heap.size 5 i0 (.int .u8 0) 1 1 Tryz.underlying26 hi hz0 hz1 hz2 rfl (by decide) _ _ _ rfl (hor.row.alloc _) ⟨wr.heap.size,0,none⟩ 1 1 [_] rfl rfl (cell_one_new _ _ _) (by intro u hu; simp at hu; subst hu; rfl) (by unfold maxLen; omega) (by omega) (by simp; omega) ?_; intro v' w1 hown' hgrow' _)
     have hb1:Below w.heap.size w w1:=below_appended (hbr.alloc hws _) (by simp; omega) (hor.row.alloc _) hgrow'
     obtain ⟨a',cap',rfl,ho'⟩:=own_appended (ys:=[low (cAt s k)]) hown' hor.byte (by simpa using snoc_byte (xs:=[]) (by simp) _ hlb)
     go_roundw
     case rel=>exact ⟨k+1,len+1,cap',a',false,by omega,by go_num,rfl,(by show _=_; rw [HF2.out]),rfl,by omega,by rw [HF2.out]; exact ho',hb1⟩
     case measure=>simp [intOf]; omega
    | true =>
     by_cases hl0:0<len
     ·have HF2:Hid (fo s (k+1)=((fo s k).1++[32]++[low (cAt s k)],false)):=by
       show _=_
       rw [HF,if_pos ⟨HG.out.symm,fun h=>by have:=HLen.out; rw [h] at this; simp at this; omega⟩]
      clear h32 hx HF HG
      have hl0':(0:Int)<(len:Int):=by omega
      go_wp2_with (at_builtin; refine wpList_append_own _ rfl _ _ 26 rfl w.heap.size 5 i0 (.int .u8 0) 1 1 Tryz.underlying26 hi hz0 hz1 hz2 rfl (by decide) _ _ _ rfl (hor.row.alloc _) ⟨wr.heap.size,0,none⟩ 1 1 [_] rfl rfl (cell_one_new _ _ _) (by intro u hu; simp at hu; subst hu; rfl) (by unfold maxLen; omega) (by omega) (by simp; omega) ?_; intro v' w1 hown' hgrow' _)
      have hb1:Below w.heap.size w w1:=below_appended (hbr.alloc hws _) (by simp; omega) (hor.row.alloc _) hgrow'
      obtain ⟨a',cap',rfl,ho'⟩:=own_appended (ys:=[32]) hown' hor.byte (by simpa using snoc_byte (xs:=[]) (by simp) (32:Int) (by decide))
      have hws1:=hb1.size
      clear hown' hgrow'
      go_wp2_with fail
      refine (smallLetter_any _ _ (by omega) (by omega)).mono ?_
      rintro e w2 ⟨rfl,rfl⟩
      rw [← HX.out]
      go_wp2_with (at_builtin; refine wpList_append_own _ rfl _ _ 26 rfl w.heap.size 5 i0 (.int .u8 0) 1 1 Tryz.underlying26 hi hz0 hz1 hz2 rfl (by decide) _ _ _ rfl (ho'.row.alloc _) ⟨w1.heap.size,0,none⟩ 1 1 [_] rfl rfl (cell_one_new _ _ _) (by intro u hu; simp at hu; subst hu; rfl) (by unfold maxLen; omega) (by omega) (by simp; omega) ?_; intro v' w2 hown' hgrow' _)
      have hb2:Below w.heap.size w w2:=below_appended (hb1.alloc hws1 _) (by simp; omega) (ho'.row.alloc _) hgrow'
      obtain ⟨a2,cap2,rfl,ho2⟩:=own_appended (ys:=[low (cAt s k)]) hown' ho'.byte (by simpa using snoc_byte (xs:=[]) (by simp) _ hlb)
      go_roundw
      case rel=>exact ⟨k+1,len+1+1,cap2,a2,false,by omega,by go_num,rfl,(by show _=_; rw [HF2.out]),rfl,by omega,by rw [HF2.out]; exact ho2,hb2⟩
      case measure=>simp [intOf]; omega
     ·obtain rfl:len=0:=by omega
      have HF2:Hid (fo s (k+1)=((fo s k).1++[low (cAt s k)],false)):=by
       show _=_
       rw [HF,if_neg (fun h=>h.2 (List.eq_nil_of_length_eq_zero HLen.out)),List.append_nil]
      clear h32 hx HF HG
      go_wp2_with fail
      refine (smallLetter_any _ _ (by omega) (by omega)).mono ?_
      rintro e w1 ⟨rfl,rfl⟩
      rw [← HX.out]
      go_wp2_with (at_builtin; refine wpList_append_own _ rfl _ _ 26 rfl w.heap.size 5 i0 (.int .u8 0) 1 1 Tryz.underlying26 hi hz0 hz1 hz2 rfl (by decide) _ _ _ rfl (hor.row.alloc _) ⟨wr.heap.size,0,none⟩ 1 1 [_] rfl rfl (cell_one_new _ _ _) (by intro u hu; simp at hu; subst hu; rfl) (by unfold maxLen; omega) (by omega) (by simp; omega) ?_; intro v' w1 hown' hgrow' _)
      have hb1:Below w.heap.size w w1:=below_appended (hbr.alloc hws _) (by simp; omega) (hor.row.alloc _) hgrow'
      obtain ⟨a',cap',rfl,ho'⟩:=own_appended (ys:=[low (cAt s k)]) hown' hor.byte (by simpa using snoc_byte (xs:=[]) (by simp) _ hlb)
      go_roundw
      case rel=>exact ⟨k+1,0+1,cap',a',false,by omega,by go_num,rfl,(by show _=_; rw [HF2.out]),rfl,by omega,by rw [HF2.out]; exact ho',hb1⟩
      case measure=>simp [intOf]; omega
  ·obtain rfl:k=s.size:=by omega
   have hcv:=convert_own hor
   clear HG
   go_wp2
   go_ret
   exact ⟨rfl,hbr⟩
theorem specFold_any (s:ByteArray)(w:World)(hs:s.size≤1048576) :
  Calls Tryz.prog 118 #[.string s] w fun e w'=>e=.returned (.string (strOfNums (foldL s)))∧Below w.heap.size w w':=by
 obtain ⟨i0,hi,hz0,hz1,hz2⟩:=info_parts Tryz.info5
 have hoe:=own_new_empty w (Nat.le_refl _)
 have hbe:Below w.heap.size w (w.alloc (.cells #[] 5)):=(Below.refl _ _).alloc (Nat.le_refl _) _
 go_enter Tryz.func118,Tryz.ntmps118
 go_wp2
 go_loopw [3,4] (fun o i wr=>∃ (k len cp:Nat) (ao:Option Addr),k≤s.size∧i=.int .i64 k∧o=.slice ao len cp∧len≤2 * k+1∧Own w.heap.size wr ao len cp (fs (fo s k))∧Below w.heap.size w wr) (fun _ i _=>s.size - (intOf i).toNat)
 case atStart=>exact ⟨0,0,0,_,Nat.zero_le _,rfl,rfl,Nat.zero_le _,hoe,hbe⟩
 case round =>
  obtain ⟨k,len,cp,ao,hk,rfl,rfl,hle,hor,hbr⟩:=hrel
  have hws:w.heap.size≤wr.heap.size:=hbr.size
  have HLen:Hid ((fs (fo s k)).length=len):=hor.length
  clear hoe hbe
  by_cases hlt:k<s.size
  ·have hbx:=s[k].toNat_lt
   have hx:=cAt_get s k hlt
   have hlb:=low_byte (cAt s k) (by omega) (by omega)
   by_cases h32:(s[k].toNat:Int)=32
   ·have h32':cAt s k=32:=by rw [hx]; exact h32
    have hge:(s[k].toNat:Int)<65:=by omega
    have z:((s[k].toNat:Int) == 32)=true:=beq_iff_eq.2 h32
    rcases Nat.eq_zero_or_pos len with h0 | h0
    ·subst h0
     have HF:Hid (fs (fo s (k+1))=fs (fo s k)):=by
      have e:=List.eq_nil_of_length_eq_zero HLen.out
      show _=_
      rw [fs_skip0 s k h32' e,e]
     clear h32 hx hlb h32'
     go_wp2
     go_roundw
     case rel=>exact ⟨k+1,0,cp,ao,by omega,by go_num,rfl,by omega,by rw [HF.out]; exact hor,hbr⟩
     case measure=>simp [intOf]; omega
    ·have hne:fs (fo s k)≠[]:=fun h=>by have:=HLen.out; rw [h] at this; simp at this; omega
     obtain ⟨b,off,rfl,hlb2,hc⟩:=hor.toRow.get (len - 1) (by omega)
     have hL:(fs (fo s k)).getD (len - 1) 0=lastI (fs (fo s k)):=by unfold lastI; rw [HLen.out]
     rw [hL] at hc
     have e1:((len:Int) - 1).toNat=len - 1:=by omega
     have i1:(len:Int) - 1<(len:Int):=by omega
     have i2:(0:Int)≤(len:Int) - 1:=by omega
     have n0:((len:Int) == 0)=false:=by simp; omega
     obtain ⟨m,rfl⟩:∃ m,len=m+1:=⟨len - 1,by omega⟩
     have e2:((m+1:Nat):Int) - 1=(m:Int):=by omega
     rw [show m+1 - 1=m from rfl] at hc
     by_cases hl:lastI (fs (fo s k))=32
     ·have HF:Hid (fs (fo s (k+1))=fs (fo s k)):=fs_skip1 s k h32' hne hl
      rw [hl] at hc
      clear h32 hx hlb h32' hl hL
      go_wp2
      go_roundw
      case rel=>exact ⟨k+1,m+1,cp,_,by omega,by go_num,rfl,by omega,by rw [HF.out]; exact hor,hbr⟩
      case measure=>simp [intOf]; omega
     ·have HF:Hid (fs (fo s (k+1))=fs (fo s k)++[32]):=fs_add s k h32' hne hl
      have z2:(lastI (fs (fo s k)) == 32)=false:=beq_false_of_ne hl
      have HZ:Hid ((s[k].toNat:Int)=32):=h32
      clear h32 hx hlb h32' hl hL
      go_wp2_with (at_builtin; refine wpList_append_own _ rfl _ _ 26 rfl w.heap.size 5 i0 (.int .u8 0) 1 1 Tryz.underlying26 hi hz0 hz1 hz2 rfl (by decide) _ _ _ rfl (hor.row.alloc _) ⟨wr.heap.size,0,none⟩ 1 1 [_] rfl rfl (cell_one_new _ _ _) (by intro u hu; simp at hu; subst hu; rfl) (by unfold maxLen; omega) (by omega) (by simp; omega) ?_; intro v' w1 hown' hgrow' _)
      have hb1:Below w.heap.size w w1:=below_appended (hbr.alloc hws _) (by simp; omega) (hor.row.alloc _) hgrow'
      rw [HZ.out] at hown'
      obtain ⟨a',cap',rfl,ho'⟩:=own_appended (ys:=[32]) hown' hor.byte (by simpa using snoc_byte (xs:=[]) (by simp) (32:Int) (by decide))
      go_roundw
      case rel=>exact ⟨k+1,m+1+1,cap',a',by omega,by go_num,rfl,by have:=fs_len s (k+1); rw [← ho'.length,← HF.out]; exact this,by rw [HF.out]; exact ho',hb1⟩
      case measure=>simp [intOf]; omega
   ·have HF:Hid (fs (fo s (k+1))=fs (fo s k)++[low (cAt s k)]):=fs_other s k (by rw [hx]; exact h32)
    have HX:Hid (cAt s k=(s[k].toNat:Int)):=hx
    have h3:(65≤(s[k].toNat:Int)∧(s[k].toNat:Int)≤90)∨(s[k].toNat:Int)<65∨90<(s[k].toNat:Int):=by omega
    rcases h3 with ⟨ha,hb⟩ | h3
    ·have z:((s[k].toNat:Int) - 65+97 == 32)=false:=beq_false_of_ne (by omega)
     have HL:Hid ((s[k].toNat:Int) - 65+97=low (cAt s k)):=by show _=_; rw [HX.out]; unfold low; rw [if_pos ⟨ha,hb⟩]; omega
     clear h32 hx
     go_wp2_with (at_builtin; refine wpList_append_own _ rfl _ _ 26 rfl w.heap.size 5 i0 (.int .u8 0) 1 1 Tryz.underlying26 hi hz0 hz1 hz2 rfl (by decide) _ _ _ rfl (hor.row.alloc _) ⟨wr.heap.size,0,none⟩ 1 1 [_] rfl rfl (cell_one_new _ _ _) (by intro u hu; simp at hu; subst hu; rfl) (by unfold maxLen; omega) (by omega) (by simp; omega) ?_; intro v' w1 hown' hgrow' _)
     have hb1:Below w.heap.size w w1:=below_appended (hbr.alloc hws _) (by simp; omega) (hor.row.alloc _) hgrow'
     rw [HL.out] at hown'
     obtain ⟨a',cap',rfl,ho'⟩:=own_appended (ys:=[low (cAt s k)]) hown' hor.byte (by simpa using snoc_byte (xs:=[]) (by simp) _ hlb)
     go_roundw
     case rel=>exact ⟨k+1,len+1,cap',a',by omega,by go_num,rfl,by have:=fs_len s (k+1); rw [← ho'.length,← HF.out]; exact this,by rw [HF.out]; exact ho',hb1⟩
     case measure=>simp [intOf]; omega
    ·have z:((s[k].toNat:Int) == 32)=false:=beq_false_of_ne h32
     have HL:Hid ((s[k].toNat:Int)=low (cAt s k)):=by show _=_; rw [HX.out]; unfold low; rw [if_neg (by omega)]
     clear h32 hx
     rcases h3 with h3 | h3
     all_goals
      go_wp2_with (at_builtin; refine wpList_append_own _ rfl _ _ 26 rfl w.heap.size 5 i0 (.int .u8 0) 1 1 Tryz.underlying26 hi hz0 hz1 hz2 rfl (by decide) _ _ _ rfl (hor.row.alloc _) ⟨wr.heap.size,0,none⟩ 1 1 [_] rfl rfl (cell_one_new _ _ _) (by intro u hu; simp at hu; subst hu; rfl) (by unfold maxLen; omega) (by omega) (by simp; omega) ?_; intro v' w1 hown' hgrow' _)
      have hb1:Below w.heap.size w w1:=below_appended (hbr.alloc hws _) (by simp; omega) (hor.row.alloc _) hgrow'
      rw [HL.out] at hown'
      obtain ⟨a',cap',rfl,ho'⟩:=own_appended (ys:=[low (cAt s k)]) hown' hor.byte (by simpa using snoc_byte (xs:=[]) (by simp) _ hlb)
      go_roundw
      case rel=>exact ⟨k+1,len+1,cap',a',by omega,by go_num,rfl,by have:=fs_len s (k+1); rw [← ho'.length,← HF.out]; exact this,by rw [HF.out]; exact ho',hb1⟩
      case measure=>simp [intOf]; omega
  ·obtain rfl:k=s.size:=by omega
   rcases Nat.eq_zero_or_pos len with h0 | h0
   ·subst h0
    have HF:Hid (foldL s=fs (fo s s.size)):=by
     have e:=List.eq_nil_of_length_eq_zero HLen.out
     show _=_
     rw [e]
     exact fs_nil _ e
    have hcv:=convert_own hor
    go_wp2
    go_ret
    exact ⟨by rw [HF.out]; rfl,hbr⟩
   ·have hne:fs (fo s s.size)≠[]:=fun h=>by have:=HLen.out; rw [h] at this; simp at this; omega
    obtain ⟨b,off,hab,hlb2,hc⟩:=hor.toRow.get (len - 1) (by omega)
    have hL:(fs (fo s s.size)).getD (len - 1) 0=lastI (fs (fo s s.size)):=by unfold lastI; rw [HLen.out]
    rw [hL] at hc
    obtain ⟨m,rfl⟩:∃ m,len=m+1:=⟨len - 1,by omega⟩
    rw [show m+1 - 1=m from rfl] at hc
    have e2:((m+1:Nat):Int) - 1=(m:Int):=by omega
    have hcap:m+1≤cp:=hor.le_cap
    subst hab
    rcases fs_cases s s.size hne with ⟨hl,e,hn⟩ | ⟨hl,e,hn⟩
    ·have HF:Hid ((fs (fo s s.size)).take m=foldL s):=by
      have h2:=HLen.out
      show _=_
      rw [e] at h2 ⊢
      simp at h2
      rw [← h2,List.take_left']
      ·rfl
      ·rfl
     have hcv:=convert_row (cap:=cp) (hor.toRow.take m (by omega))
     rw [HF.out] at hcv
     rw [hl] at hc
     clear hL hl e
     go_wp2
     go_ret
     exact ⟨rfl,hbr⟩
    ·have HF:Hid (foldL s=fs (fo s s.size)):=e.symm
     have z2:(lastI (fs (fo s s.size)) == 32)=false:=beq_false_of_ne hl
     have hcv:=convert_own hor
     clear hL hl e
     go_wp2
     go_ret
     exact ⟨by rw [HF.out]; rfl,hbr⟩
end Go.Proofs.YtnmplldhdfingaaGreatDoor
