import Derived.Laws.Strings
import Derived.Deep.AppendLies
import Derived.Deep.RegionLaw
import Derived.Laws.AppendOwnNone
import Derived.Laws.CopyOwn
import Derived.Test.YtmdfbnlgfhjnoaaGreatDoorFC01
set_option maxRecDepth 10000
set_option maxHeartbeats 8000000
set_option linter.unusedVariables false
namespace Go.Proofs.YtmdfbnlgfhjnoaaGreatDoor
open Go.RowKit
def wordB (c:Int):Prop:=(97≤c∧c≤122)∨(48≤c∧c≤57)
def labB (c:Int):Prop:=wordB c∨c=45
def allB (P:Int→Prop)(s:ByteArray)(k:Nat):Prop:=∀ j,j<k→P (cAt s j)
def labP (s:ByteArray):Prop:=(1≤s.size∧s.size≤20)∧(cAt s 0≠45∧cAt s (s.size - 1)≠45)∧allB labB s s.size
theorem allB_succ {P:Int→Prop}{s:ByteArray}{k:Nat}(h:allB P s k)(h1:P (cAt s k)):allB P s (k+1):=fun j hj=>by
 by_cases e:j=k
 ·rw [e]; exact h1
 ·exact h j (by omega)
theorem isWordByte_any (x:Int)(w:World):Calls Tryz.prog 216 #[.int .u8 x] w (SaysW (wordB x) w):=by
 have hc:(97≤x∧x≤122)∨(97≤x∧122<x∧48≤x∧57<x)∨(x<97∧48≤x∧x≤57)∨(x<97∧48≤x∧57<x)∨(x<97∧x<48):=by omega
 rcases hc with ⟨h1,h2⟩ | ⟨h1,h2,h3,h4⟩ | ⟨h1,h2,h3⟩ | ⟨h1,h2,h3⟩ | ⟨h1,h2⟩
 ·have HN:Hid (wordB x):=.inl ⟨h1,h2⟩
  go_enter Tryz.func216,Tryz.ntmps216
  go_wp2
  go_ret
  exact saysW_t HN.out
 ·have HN:Hid (¬ wordB x):=fun h=>by unfold wordB at h; omega
  have z1:decide (x≤122)=false:=decide_eq_false (by omega)
  have z2:decide (x≤57)=false:=decide_eq_false (by omega)
  go_enter Tryz.func216,Tryz.ntmps216
  go_wp2
  go_ret
  exact saysW_f HN.out
 ·have HN:Hid (wordB x):=.inr ⟨h2,h3⟩
  go_enter Tryz.func216,Tryz.ntmps216
  go_wp2
  go_ret
  exact saysW_t HN.out
 ·have HN:Hid (¬ wordB x):=fun h=>by unfold wordB at h; omega
  have z2:decide (x≤57)=false:=decide_eq_false (by omega)
  go_enter Tryz.func216,Tryz.ntmps216
  go_wp2
  go_ret
  exact saysW_f HN.out
 ·have HN:Hid (¬ wordB x):=fun h=>by unfold wordB at h; omega
  go_enter Tryz.func216,Tryz.ntmps216
  go_wp2
  go_ret
  exact saysW_f HN.out
theorem isLabelByte_any (x:Int)(w:World):Calls Tryz.prog 232 #[.int .u8 x] w (SaysW (labB x) w):=by
 go_enter Tryz.func232,Tryz.ntmps232
 go_wp2_with fail
 refine (isWordByte_any x _).mono ?_
 rintro e w1 ⟨b,rfl,HV,rfl⟩
 cases b with
 | true =>
  have HN:Hid (labB x):=.inl (HV.out.1 rfl)
  clear HV
  go_wp2
  go_ret
  exact saysW_t HN.out
 | false =>
  by_cases h:x=45
  ·have HN:Hid (labB x):=.inr h
   have z:(x == 45)=true:=beq_iff_eq.2 h
   clear HV h
   go_wp2
   go_ret
   exact saysW_t HN.out
  ·have HN:Hid (¬ labB x):=fun q=>by
    rcases q with q | q
    ·exact Bool.false_ne_true (HV.out.2 q)
    ·exact h q
   have z:(x == 45)=false:=beq_false_of_ne h
   clear HV h
   go_wp2
   go_ret
   exact saysW_f HN.out
theorem everyLabel_any (s:ByteArray)(w:World)(hs:s.size≤1048576) :
  Calls Tryz.prog 186 #[.string s,.func (Fn.func 232) #[] #[]] w (SaysW (allB labB s s.size) w):=by
 go_enter Tryz.func186,Tryz.ntmps186
 go_wp2
 go_loopw [5] (fun i wr=>∃ k:Nat,k≤s.size∧i=.int .i64 k∧Hid (allB labB s k)∧w=wr) (fun i _=>s.size - (intOf i).toNat)
 case atStart=>exact ⟨0,Nat.zero_le _,rfl,(fun j hj=>absurd hj (Nat.not_lt_zero _)),rfl⟩
 case round =>
  obtain ⟨k,hk,rfl,HP,rfl⟩:=hrel
  by_cases hlt:k<s.size
  ·have HX:Hid (cAt s k=(s[k].toNat:Int)):=cAt_get s k hlt
   go_wp2_with fail
   refine (isLabelByte_any _ _).mono ?_
   rintro e w1 ⟨b,rfl,HV,rfl⟩
   cases b with
   | false =>
    have HN:Hid (¬ allB labB s s.size):=fun h=>Bool.false_ne_true (HV.out.2 (by rw [← HX.out]; exact h k hlt))
    clear HV HP
    go_wp2
    go_ret
    exact saysW_f HN.out
   | true =>
    have HN:Hid (allB labB s (k+1)):=allB_succ HP.out (by rw [HX.out]; exact HV.out.1 rfl)
    clear HP HV
    go_wp2
    go_roundw
    case rel=>exact ⟨k+1,by omega,by go_num,HN,by trivial⟩
    case measure=>simp [intOf]; omega
  ·obtain rfl:k=s.size:=by omega
   go_wp2
   go_ret
   exact saysW_t HP.out
theorem wordLabel_any (s:ByteArray)(w:World)(hs:s.size≤1048576) :
  Calls Tryz.prog 215 #[.string s,.int .i64 20,.func (Fn.func 232) #[] #[]] w (SaysW ((1≤s.size∧s.size≤20)∧allB labB s s.size) w):=by
 obtain ⟨P,hP⟩:∃ P:Prop,P=((1≤s.size∧s.size≤20)∧allB labB s s.size):=⟨_,rfl⟩
 rw [← hP]
 have HP:Hid (P=((1≤s.size∧s.size≤20)∧allB labB s s.size)):=hP
 clear hP
 rcases Nat.eq_zero_or_pos s.size with h0 | h0
 ·have HN:Hid (¬ P):=fun h=>by rw [HP.out] at h; omega
  have z:s.toList.isEmpty=true:=by
   rw [ByteArray.toList_eq]
   have:s.data.toList = []:=List.eq_nil_of_length_eq_zero (by simpa using h0)
   rw [this]
   rfl
  clear h0
  go_enter Tryz.func215,Tryz.ntmps215
  go_wp2
  go_ret
  exact saysW_f HN.out
 ·have z:s.toList.isEmpty=false:=by
   rw [ByteArray.toList_eq]
   cases hl:s.data.toList with
   | nil =>
        have:s.data.toList.length=0:=by rw [hl]; rfl
        simp at this
        have h2:s.size=0:=by rw [this]; rfl
        omega
   | cons _ _=>rfl
  by_cases h20:(s.size:Int)≤20
  ·go_enter Tryz.func215,Tryz.ntmps215
   go_wp2_with fail
   refine (everyLabel_any s _ hs).mono ?_
   rintro e w1 ⟨b,rfl,HV,rfl⟩
   cases b with
   | true =>
    have HN:Hid P:=by show P; rw [HP.out]; exact ⟨⟨by omega,by omega⟩,HV.out.1 rfl⟩
    clear HV
    go_wp2
    go_ret
    exact saysW_t HN.out
   | false =>
    have HN:Hid (¬ P):=fun h=>by rw [HP.out] at h; exact Bool.false_ne_true (HV.out.2 h.2)
    clear HV
    go_wp2
    go_ret
    exact saysW_f HN.out
  ·have HN:Hid (¬ P):=fun h=>by rw [HP.out] at h; omega
   go_enter Tryz.func215,Tryz.ntmps215
   go_wp2
   go_ret
   exact saysW_f HN.out
open Go.RowKit
theorem labelOk_any (s:ByteArray)(w:World)(hs:s.size≤1048576):Calls Tryz.prog 223 #[.string s] w (SaysW (labP s) w):=by
 go_enter Tryz.func223,Tryz.ntmps223
 go_wp2_with fail
 refine (wordLabel_any s _ hs).mono ?_
 rintro e w1 ⟨b,rfl,HV,rfl⟩
 cases b with
 | false =>
  have HN:Hid (¬ labP s):=fun h=>Bool.false_ne_true (HV.out.2 ⟨h.1,h.2.2⟩)
  clear HV
  go_wp2
  go_ret
  exact saysW_f HN.out
 | true =>
  have hV:=HV.out.1 rfl
  have HO:Hid ((1≤s.size∧s.size≤20)∧allB labB s s.size):=hV
  obtain ⟨⟨h1,h2⟩,_⟩:=hV
  obtain ⟨m,hm⟩:∃ m:Nat,s.size=m+1:=⟨s.size - 1,by omega⟩
  have h0:0<s.size:=by omega
  have hl:m<s.size:=by omega
  have x0:=cAt_get s 0 h0
  have x1:=cAt_get s m hl
  have HM:Hid (s.size - 1=m):=by show _=_; omega
  have e1:(s.size:Int) - 1=(m:Int):=by omega
  clear HV
  by_cases c0:(s[0].toNat:Int)=45
  ·have HN:Hid (¬ labP s):=fun h=>h.2.1.1 (by rw [x0]; exact c0)
   have z0:((s[0].toNat:Int) != 45)=false:=by simp [c0]
   clear c0 x0 x1 hm
   go_wp2
   go_ret
   exact saysW_f HN.out
  ·have z0:((s[0].toNat:Int) != 45)=true:=bne_iff_ne.2 c0
   by_cases c1:(s[m].toNat:Int)=45
   ·have HN:Hid (¬ labP s):=fun h=>h.2.1.2 (by rw [HM.out,x1]; exact c1)
    have z1:((s[m].toNat:Int) != 45)=false:=by simp [c1]
    clear c0 c1 x0 x1 hm
    go_wp2
    go_ret
    exact saysW_f HN.out
   ·have HN:Hid (labP s):=⟨HO.out.1,⟨by rw [x0]; exact c0,by rw [HM.out,x1]; exact c1⟩,HO.out.2⟩
    have z1:((s[m].toNat:Int) != 45)=true:=bne_iff_ne.2 c1
    clear c0 c1 x0 x1 hm
    go_wp2
    go_ret
    exact saysW_t HN.out
open Go.RowKit
theorem cell_one_newS (w:World)(x:Value)(t:TypeId):∀ j u,[x][j]? = some u→(w.alloc (.cells #[x] t)).cell? ((⟨w.heap.size,0,none⟩:Addr).add j)=some u:=by
 intro j u h
 rw [Addr.add_lit,cell_of_row _ w.heap.size (0+j) _ t (0,0) (heap_alloc_new w _)]
 simpa using h
theorem ownsS_slice {B:Nat}{w:World}{v:Value}{n:Nat}{xs:List Value}(h:w.ownsRow B 9 1 v n xs):∃ a cap,v=.slice a n cap:=by
 rcases h.2 with ⟨rfl,rfl⟩ | ⟨g,cap,cur,rfl,_⟩
 ·exact ⟨_,_,rfl⟩
 ·exact ⟨_,_,rfl⟩
theorem below_appS {B:Nat}{w0 w w1:World}{v:Value}{n:Nat}{xs:List Value}(hb:Below B w0 w)(hB:B≤w.heap.size)(h:w.ownsRow B 9 1 v n xs)(hg:w.grownBy w1 v.ownBlock):Below B w0 w1 :=
 hb.grown hg hB (fun k hk=>(h.lt k hk).1)
theorem Tryz.info9:(Tryz.prog.info? 9).map (fun i=>(i.zero,i.size,i.bytes))=some (some (.string ByteArray.empty),1,16):=by kernel_rfl
structure Strs (B:Nat)(w:World)(a:Option Addr)(n cap:Nat)(L:List ByteArray):Prop where
 row:w.ownsRow B 9 1 (.slice a n cap) n (L.map Value.string)
theorem Strs.len {B:Nat}{w:World}{a:Option Addr}{n cap:Nat}{L:List ByteArray}(h:Strs B w a n cap L):L.length=n:=by simpa using h.row.1
theorem Strs.caps {B:Nat}{w:World}{a:Option Addr}{n cap:Nat}{L:List ByteArray}(h:Strs B w a n cap L):n≤cap∧cap≤9223372036854775807:=by
 rcases h.row.2 with ⟨hv,h0⟩ | ⟨g,cap',cur,hv,_,_,h1,h2,_⟩
 ·simp only [Value.slice.injEq] at hv
  omega
 ·simp only [Value.slice.injEq] at hv
  unfold maxLen at h2
  omega
theorem Strs.get {B:Nat}{w:World}{a:Option Addr}{n cap:Nat}{L:List ByteArray}(h:Strs B w a n cap L)(hn:0<n):∃ g,a=some ⟨g,0,none⟩∧g<w.heap.size∧∀ k,k<n→w.cell? ⟨g,k,none⟩=some (.string (L.getD k ByteArray.empty)):=by
 have hl:=h.len
 rcases h.row.2 with ⟨_,h0⟩ | ⟨g,cap',cur,hv,hb,hg,r⟩
 ·omega
 ·simp only [Value.slice.injEq] at hv
  obtain ⟨rfl,_,rfl⟩:=hv
  refine ⟨g,rfl,(Array.getElem?_eq_some_iff.1 hg).1,fun k hk=>?_⟩
  rw [World.ownsRow.cellAt h.row k (by omega)]
  simp [show k<L.length by omega]
open Go.RowKit
theorem l1In_says (x lo hi:Int)(w:World):Calls Tryz.prog 74 #[.int .i64 x,.int .i64 lo,.int .i64 hi] w (SaysW (lo≤x∧x≤hi) w):=by
 have hc:(lo≤x∧x≤hi)∨(lo≤x∧hi<x)∨x<lo:=by omega
 rcases hc with ⟨h1,h2⟩ | ⟨h1,h2⟩ | h1
 ·have HN:Hid (lo≤x∧x≤hi):=⟨h1,h2⟩
  have z1:decide (lo≤x)=true:=decide_eq_true h1
  have z2:decide (x≤hi)=true:=decide_eq_true h2
  go_enter Tryz.func74,Tryz.ntmps74
  go_wp2
  go_ret
  exact saysW_t HN.out
 ·have HN:Hid (¬ (lo≤x∧x≤hi)):=fun h=>by omega
  have z1:decide (lo≤x)=true:=decide_eq_true h1
  have z2:decide (x≤hi)=false:=decide_eq_false (by omega)
  go_enter Tryz.func74,Tryz.ntmps74
  go_wp2
  go_ret
  exact saysW_f HN.out
 ·have HN:Hid (¬ (lo≤x∧x≤hi)):=fun h=>by omega
  have z1:decide (lo≤x)=false:=decide_eq_false (by omega)
  go_enter Tryz.func74,Tryz.ntmps74
  go_wp2
  go_ret
  exact saysW_f HN.out
theorem inBounds_says (x lo hi:Int)(w:World):Calls Tryz.prog 94 #[.int .i64 x,.int .i64 lo,.int .i64 hi] w (SaysW (lo≤x∧x≤hi) w):=by
 have hc:(lo≤x∧x≤hi)∨(lo≤x∧hi<x)∨x<lo:=by omega
 rcases hc with ⟨h1,h2⟩ | ⟨h1,h2⟩ | h1
 ·have HN:Hid (lo≤x∧x≤hi):=⟨h1,h2⟩
  have z1:decide (lo≤x)=true:=decide_eq_true h1
  have z2:decide (x≤hi)=true:=decide_eq_true h2
  go_enter Tryz.func94,Tryz.ntmps94
  go_wp2
  go_ret
  exact saysW_t HN.out
 ·have HN:Hid (¬ (lo≤x∧x≤hi)):=fun h=>by omega
  have z1:decide (lo≤x)=true:=decide_eq_true h1
  have z2:decide (x≤hi)=false:=decide_eq_false (by omega)
  go_enter Tryz.func94,Tryz.ntmps94
  go_wp2
  go_ret
  exact saysW_f HN.out
 ·have HN:Hid (¬ (lo≤x∧x≤hi)):=fun h=>by omega
  have z1:decide (lo≤x)=false:=decide_eq_false (by omega)
  go_enter Tryz.func94,Tryz.ntmps94
  go_wp2
  go_ret
  exact saysW_f HN.out
open Go.RowKit
structure Cnt (n c:Nat):Prop where
 pos:1≤c
 top:n<128 ^ c
 low:c=1∨128 ^ (c - 1)≤n
theorem Cnt.unique {n c d:Nat}(h:Cnt n c)(k:Cnt n d):c=d:=by
 rcases Nat.lt_trichotomy c d with hlt | he | hlt
 ·rcases k.low with h1 | h1
  ·have:=h.pos; omega
  ·have:128 ^ c≤128 ^ (d - 1):=Nat.pow_le_pow_right (by decide) (by omega)
   have:=h.top; omega
 ·exact he
 ·rcases h.low with h1 | h1
  ·have:=k.pos; omega
  ·have:128 ^ d≤128 ^ (c - 1):=Nat.pow_le_pow_right (by decide) (by omega)
   have:=k.top; omega
def cnt (n:Nat):Nat:=1+Nat.log2 n / 7
theorem pow128 (c:Nat):128 ^ c=2 ^ (7 * c):=by rw [Nat.pow_mul]
theorem cnt_ok (n:Nat):Cnt n (cnt n):=by
 by_cases h0:n=0
 ·subst h0; exact ⟨by decide,by decide,.inl (by decide)⟩
 ·refine ⟨by unfold cnt; omega,?_,?_⟩
  ·rw [pow128]; exact (Nat.log2_lt h0).1 (by unfold cnt; omega)
  ·by_cases h1:Nat.log2 n / 7=0
   ·left; unfold cnt; omega
   ·right; rw [pow128]; exact (Nat.le_log2 h0).1 (by unfold cnt; omega)
theorem cnt_of {n c:Nat}(h:Cnt n c):c=cnt n:=h.unique (cnt_ok n)
theorem cnt_le (n:Nat)(h:n<9223372036854775808):cnt n≤9:=by
 by_cases h0:n=0
 ·subst h0; decide
 ·have:=(Nat.log2_lt h0 (k:=63)).2 h
  unfold cnt; omega
def grp (n c j:Nat):Int:=((n / 128 ^ (c - 1 - j) % 128:Nat):Int)+if j+1=c then 0 else 128
def putL (n c:Nat):List Int:=(List.range c).map (grp n c)
def putN (n:Nat):List Int:=putL n (cnt n)
theorem putL_len (n c:Nat):(putL n c).length=c:=by simp [putL]
theorem grp_byte (n c j:Nat):0≤grp n c j∧grp n c j≤255:=by
 unfold grp
 have:=Nat.mod_lt (n / 128 ^ (c - 1 - j)) (show 0<128 by decide)
 split <;> omega
theorem putL_take (n c j:Nat)(h:j<c):(putL n c).take (j+1)=(putL n c).take j++[grp n c j]:=by
 rw [List.take_succ_eq_append_getElem (by rw [putL_len]; exact h)]
 simp [putL]
theorem own_empty (w:World):Own w.heap.size (w.alloc (.cells #[] 5)) (some ⟨w.heap.size,0,none⟩) 0 0 [] :=
 ⟨World.ownsRow_lit w #[] 0 (Nat.le_refl _) (Nat.zero_le _) rfl,by simp⟩
theorem own_none (B:Nat)(w:World):Own B w none 0 0 []:=⟨World.ownsRow_nil _ _ _ _,by simp⟩
theorem low7 (n q:Nat):bits .and .i64 ((n:Int) / 2 ^ (7 * q)) 127 % 256=((n / 128 ^ q % 128:Nat):Int):=by
 rw [i64_and127,pow128]
 have e:(n:Int) / 2 ^ (7 * q)=((n / 2 ^ (7 * q):Nat):Int):=by simp
 rw [e]
 omega
theorem or128 (m:Nat)(h:m<128):bits .or .u8 (m:Int) 128=(m:Int)+128:=by
 have:=u8_or_nat m 128 (by omega) (by decide)
 rw [show ((128:Nat):Int)=128 from rfl] at this
 rw [this,Nat.or_comm,nat_join 7 128 m (by decide) (by simpa using h)]
 omega
theorem grp_hi (n c q:Nat)(h:0<q)(hq:q+1≤c):bits .or .u8 (bits .and .i64 ((n:Int) / 2 ^ (7 * q)) 127 % 256) 128=grp n c (c - (q+1)):=by
 rw [low7,or128 _ (Nat.mod_lt _ (by decide))]
 unfold grp
 rw [if_neg (by omega),show c - 1 - (c - (q+1))=q by omega]
theorem grp_lo (n c:Nat)(hq:1≤c):bits .and .i64 (n:Int) 127 % 256=grp n c (c - (0+1)):=by
 have e:=low7 n 0
 rw [show (n:Int) / 2 ^ (7 * 0)=n by simp,show n / 128 ^ 0=n by simp] at e
 rw [e]
 unfold grp
 rw [if_pos (by omega),show c - 1 - (c - (0+1))=0 by omega]
 simp
theorem putL_more (n c q:Nat)(h:q+1≤c):(putL n c).take (c - (q+1))++[grp n c (c - (q+1))]=(putL n c).take (c - q):=by
 rw [show c - q=c - (q+1)+1 by omega,putL_take n c _ (by omega)]
theorem specPutNum_neg (n:Int)(w:World)(h:n<0) :
  Calls Tryz.prog 135 #[.int .i64 n] w fun e w'=>∃ a,e=.returned (.slice a 0 0)∧Own w.heap.size w' a 0 0 []∧Below w.heap.size w w':=by
 go_enter Tryz.func135,Tryz.ntmps135
 go_wp2
 go_ret
 exact ⟨_,rfl,own_empty w,(Below.refl _ _).alloc (Nat.le_refl _) _⟩
theorem div_pos_le {n c:Nat}(h:0<n / 128 ^ c):128 ^ c≤n:=by
 rcases Nat.lt_or_ge n (128 ^ c) with h1 | h1
 ·rw [Nat.div_eq_of_lt h1] at h; omega
 ·exact h1
theorem lt_of_div_zero {n c:Nat}(h:n / 128 ^ c=0):n<128 ^ c:=by
 rcases Nat.div_eq_zero_iff.1 h with h1 | h1
 ·have:0<128 ^ c:=Nat.pow_pos (by decide); omega
 ·exact h1
theorem c_le {n c:Nat}(h:n<9223372036854775808)(hp:128 ^ c≤n):c≤8:=by
 rcases Nat.lt_or_ge 8 c with h1 | h1
 ·have:128 ^ 9≤128 ^ c:=Nat.pow_le_pow_right (by decide) h1
  have h2:(128:Nat) ^ 9=9223372036854775808:=by decide
  omega
 ·exact h1
theorem div_next (n c:Nat):n / 128 ^ c / 128=n / 128 ^ (c+1):=by rw [Nat.div_div_eq_div_mul,Nat.pow_succ]
theorem specPutNum_pos (n:Nat)(w:World)(h:n<9223372036854775808) :
  Calls Tryz.prog 135 #[.int .i64 n] w fun e w'=>∃ a cap,e=.returned (.slice a (putN n).length cap)∧Own w.heap.size w' a (putN n).length cap (putN n)∧Below w.heap.size w w':=by
 obtain ⟨i0,hi,hz0,hz1,hz2⟩:=info_parts Tryz.info5
 have h':(n:Int)≤9223372036854775807:=by omega
 have h0:0≤(n:Int):=by omega
 have hoe:=own_empty w
 have hbe:Below w.heap.size w (w.alloc (.cells #[] 5)):=(Below.refl _ _).alloc (Nat.le_refl _) _
 go_enter Tryz.func135,Tryz.ntmps135
 go_wp2
 go_loop [4,5] (fun g x=>∃ c y:Nat,1≤c∧c≤9∧g=.int .i64 c∧x=.int .i64 y∧y=n / 128 ^ c∧(c=1∨128 ^ (c - 1)≤n)) (fun g _=>10 - (intOf g).toNat)
 case atStart=>exact ⟨1,n / 128,by omega,by omega,rfl,rfl,rfl,.inl rfl⟩
 case round =>
  obtain ⟨c,y,hc1,hc10,rfl,rfl,hy,hlow⟩:=hrel
  have HY:Hid (y=n / 128 ^ c):=hy
  have HLow:Hid (c=1∨128 ^ (c - 1)≤n):=hlow
  clear hy hlow
  by_cases hp:0<y
  ·go_wp2
   go_round
   case rel =>
    have h128:128 ^ c≤n:=div_pos_le (by rw [← HY.out]; exact hp)
    have:=c_le h h128
    exact ⟨c+1,y / 128,by omega,by omega,by go_num,by go_num,by rw [HY.out,div_next],.inr h128⟩
   case measure=>simp [intOf]; omega
  ·have hcn:c=cnt n:=cnt_of ⟨hc1,lt_of_div_zero (by rw [← HY.out]; omega),HLow.out⟩
   have HC:Hid (c=cnt n):=hcn
   clear hcn
   go_wp2
   go_loopw [3,6] (fun o i wr=>∃ (a:Option Addr) (q len cap:Nat),q≤c∧len=c - q∧i=.int .i64 ((q:Int) - 1)∧o=.slice a len cap∧Own w.heap.size wr a len cap ((putL n c).take (c - q))∧Below w.heap.size w wr) (fun _ i _=>((intOf i)+1).toNat)
   case atStart=>exact ⟨_,c,0,0,Nat.le_refl _,by omega,rfl,rfl,by rw [Nat.sub_self]; exact hoe,hbe⟩
   case round =>
    obtain ⟨a,q,len,cap,hq,hle,rfl,rfl,hor,hbr⟩:=hrel
    have HLe:Hid (len=c - q):=hle
    clear hle
    rcases q with _ | q
    ·go_wp2
     go_ret
     have hlen:(putN n).length=len:=by rw [HLe.out,putN,putL_len,← HC.out]; omega
     rw [hlen]
     exact ⟨_,_,rfl,by rw [Nat.sub_zero,List.take_of_length_le (by rw [putL_len]; exact Nat.le_refl _)] at hor; rw [putN,← HC.out]; exact hor,hbr⟩
    ·have e1:((q+1:Nat):Int) - 1=(q:Int):=by omega
     rw [e1]
     clear e1
     have hl9:len≤9:=by have:=HLe.out; omega
     have hws:w.heap.size≤wr.heap.size:=hbr.size
     by_cases hq0:0<q
     ·go_wp2_with (at_builtin; go_loud (refine wpList_append_own _ rfl _ _ 32 rfl w.heap.size 5 i0 (.int .u8 0) 1 1 Tryz.underlying32 hi hz0 hz1 hz2 rfl (by decide) _ _ _ rfl (hor.row.alloc _) ⟨wr.heap.size,0,none⟩ 1 1 [_] rfl rfl (cell_one_new _ _ _) (by intro u hu; simp at hu; subst hu; rfl) (by unfold maxLen; omega) (by omega) (by simp; omega) ?_); intro v' w1 hown' hgrow' _)
      have hb1:Below w.heap.size w w1:=below_appended (hbr.alloc hws _) (by simp; omega) (hor.row.alloc _) hgrow'
      rw [grp_hi n c q hq0 hq] at hown'
      obtain ⟨a',cap',rfl,ho⟩:=own_appended (ys:=[grp n c (c - (q+1))]) hown' hor.byte (by simpa using snoc_byte (xs:=[]) (by simp) _ (grp_byte n c (c - (q+1))))
      rw [putL_more n c q hq] at ho
      go_roundw
      case rel=>exact ⟨a',q,len+1,cap',by omega,by have:=HLe.out; omega,rfl,rfl,ho,hb1⟩
      case measure=>simp [intOf]
     ·obtain rfl:q=0:=by omega
      go_wp2_with (at_builtin; refine wpList_append_own _ rfl _ _ 32 rfl w.heap.size 5 i0 (.int .u8 0) 1 1 Tryz.underlying32 hi hz0 hz1 hz2 rfl (by decide) _ _ _ rfl (hor.row.alloc _) ⟨wr.heap.size,0,none⟩ 1 1 [_] rfl rfl (cell_one_new _ _ _) (by intro u hu; simp at hu; subst hu; rfl) (by unfold maxLen; omega) (by omega) (by simp; omega) ?_; intro v' w1 hown' hgrow' _)
      have hb1:Below w.heap.size w w1:=below_appended (hbr.alloc hws _) (by simp; omega) (hor.row.alloc _) hgrow'
      rw [grp_lo n c hq] at hown'
      obtain ⟨a',cap',rfl,ho⟩:=own_appended (ys:=[grp n c (c - (0+1))]) hown' hor.byte (by simpa using snoc_byte (xs:=[]) (by simp) _ (grp_byte n c (c - (0+1))))
      rw [putL_more n c 0 hq] at ho
      go_roundw
      case rel=>exact ⟨a',0,len+1,cap',by omega,by have:=HLe.out; omega,rfl,rfl,ho,hb1⟩
      case measure=>simp [intOf]
def backL (n c q:Nat):List Int:=List.replicate q 0++((List.range (c - q)).map fun j=>((n / 128 ^ (c - 1 - (q+j)) % 128:Nat):Int)+128)
theorem backL_start (n c:Nat):backL n c c=List.replicate c 0:=by simp [backL]
theorem backL_len (n c q:Nat)(h:q≤c):(backL n c q).length=c:=by simp [backL]; omega
theorem backL_set (n c q:Nat)(h:q+1≤c):(backL n c (q+1)).set q (((n / 128 ^ (c - 1 - q) % 128:Nat):Int)+128)=backL n c q:=by
 unfold backL
 rw [List.replicate_succ',List.append_assoc]
 show (List.replicate q (0:Int)++(0:Int)::_).set q _=_
 rw [set_append_mid _ _ _ _ _ (by simp)]
 rw [show c - q=c - (q+1)+1 by omega,List.range_succ_eq_map,List.map_cons,List.map_map]
 congr 1
 congr 1
 refine List.map_congr_left fun j _=>?_
 simp only [Function.comp]
 rw [show q+1+j=q+j.succ by omega]
theorem backL_last (n c:Nat)(h:1≤c):(backL n c 0).getD (c - 1) 0=((n % 128:Nat):Int)+128:=by
 simp [backL,show c - 1<c by omega]
theorem backL_done (n c:Nat)(h:1≤c):(backL n c 0).set (c - 1) ((n % 128:Nat):Int)=putL n c:=by
 unfold backL putL
 apply List.ext_getElem
 ·simp
 ·intro j h1 h2
  simp at h1 h2
  simp [List.getElem_set,grp]
  by_cases hj:c - 1=j
  ·subst hj
   rw [if_pos rfl,if_pos (by omega)]; simp
  ·rw [if_neg hj,if_neg (by omega)]
theorem implPutNum_neg (n:Int)(w:World)(h:n<0) :
  Calls Tryz.prog 181 #[.int .i64 n] w fun e w'=>∃ a,e=.returned (.slice a 0 0)∧Own w.heap.size w' a 0 0 []∧Below w.heap.size w w':=by
 go_enter Tryz.func181,Tryz.ntmps181
 go_wp2
 go_ret
 exact ⟨_,rfl,own_none _ w,Below.refl _ _⟩
theorem implPutNum_pos (n:Nat)(w:World)(h:n<9223372036854775808) :
  Calls Tryz.prog 181 #[.int .i64 n] w fun e w'=>∃ a cap,e=.returned (.slice a (putN n).length cap)∧Own w.heap.size w' a (putN n).length cap (putN n)∧Below w.heap.size w w':=by
 obtain ⟨i0,hi,hz0,hz1,hz2⟩:=info_parts Tryz.info5
 have h':(n:Int)≤9223372036854775807:=by omega
 have h0:0≤(n:Int):=by omega
 go_enter Tryz.func181,Tryz.ntmps181
 go_wp2
 go_loop [3,4] (fun g x=>∃ c y:Nat,1≤c∧c≤9∧g=.int .i64 c∧x=.int .i64 y∧y=n / 128 ^ c∧(c=1∨128 ^ (c - 1)≤n)) (fun g _=>10 - (intOf g).toNat)
 case atStart=>exact ⟨1,n / 128,by omega,by omega,rfl,rfl,rfl,.inl rfl⟩
 case round =>
  obtain ⟨c,y,hc1,hc10,rfl,rfl,hy,hlow⟩:=hrel
  have HY:Hid (y=n / 128 ^ c):=hy
  have HLow:Hid (c=1∨128 ^ (c - 1)≤n):=hlow
  clear hy hlow
  by_cases hp:0<y
  ·go_wp2
   go_round
   case rel =>
    have h128:128 ^ c≤n:=div_pos_le (by rw [← HY.out]; exact hp)
    have:=c_le h h128
    exact ⟨c+1,y / 128,by omega,by omega,by go_num,by go_num,by rw [HY.out,div_next],.inr h128⟩
   case measure=>simp [intOf]; omega
  ·have hcn:c=cnt n:=cnt_of ⟨hc1,lt_of_div_zero (by rw [← HY.out]; omega),HLow.out⟩
   have HC:Hid (c=cnt n):=hcn
   clear hcn
   go_wp2_with (at_make; refine wpList_make_full _ rfl _ _ 32 rfl w.heap.size 5 i0 (.int .u8 0) 1 Tryz.underlying32 hi hz0 hz1 _ _ _ _ c rfl rfl rfl rfl (by rw [hz2]; omega) (by unfold maxLen; omega) (by exact Nat.le_refl _) ?_; intro w1 hown hgrow)
   have ho:=own_made hown
   have hbl:Below w.heap.size w w1:=(Below.refl _ _).grown hgrow (Nat.le_refl _) (by simp)
   clear hown hgrow hi hz0 hz1 hz2
   go_loopw [0,6] (fun x i wr=>∃ q y:Nat,q≤c∧i=.int .i64 ((q:Int) - 1)∧x=.int .i64 y∧y=n / 128 ^ (c - q)∧Own w.heap.size wr (some ⟨w.heap.size,0,none⟩) c c (backL n c q)∧Below w.heap.size w wr) (fun _ i _=>((intOf i)+1).toNat)
   case atStart=>exact ⟨c,n,Nat.le_refl _,rfl,rfl,by simp,by rw [backL_start]; exact ho,hbl⟩
   case round =>
    obtain ⟨q,y,hq,rfl,rfl,hy,hor,hbr⟩:=hrel
    have HY2:Hid (y=n / 128 ^ (c - q)):=hy
    clear hy
    have hy9:(y:Int)≤9223372036854775807:=by have:=Nat.div_le_self n (128 ^ (c - q)); have:=HY2.out; omega
    rcases q with _ | q
    ·have hfr:wr.frozen? ⟨w.heap.size,c - 1,none⟩=false:=hor.row.frozenAt _
     have hcl:wr.cell? ⟨w.heap.size,c - 1,none⟩=some (.int .u8 (((n % 128:Nat):Int)+128)):=by
      rw [hor.row.cellAt _ (by omega),← backL_last n c hc1]
      simp [backL_len n c 0 (Nat.zero_le _),show c - 1<c by omega]
     have hs:=hor.store (c - 1) ((n:Int) % 128) (by omega)
     rw [show (n:Int) % 128=((n % 128:Nat):Int) by omega,backL_done n c hc1] at hs
     rw [show ((n % 128:Nat):Int)=(n:Int) % 128 by omega] at hs
     have HS:Hid (Own w.heap.size (wr.setCell ⟨w.heap.size,c - 1,none⟩ (.int .u8 ((n:Int) % 128))) (some ⟨w.heap.size,0,none⟩) c c (putL n c)):=hs
     clear hs
     go_wp2
     go_ret
     have hlen:(putN n).length=c:=by rw [putN,putL_len,← HC.out]
     rw [hlen]
     exact ⟨_,_,rfl,by rw [putN,← HC.out]; exact HS.out,hbr.setCell (Nat.le_refl _) _⟩
    ·have e1:((q+1:Nat):Int) - 1=(q:Int):=by omega
     rw [e1]
     clear e1
     have hfr:wr.frozen? ⟨w.heap.size,q,none⟩=false:=hor.row.frozenAt q
     obtain ⟨z,hz⟩:∃ z,wr.cell? ⟨w.heap.size,q,none⟩=some z:=⟨_,(hor.row.cellAt q (by omega)).trans (List.getElem?_eq_getElem (by simp [backL_len n c (q+1) hq]; omega))⟩
     have hv:bits .or .u8 (bits .and .i64 (y:Int) 127 % 256) 128=((n / 128 ^ (c - 1 - q) % 128:Nat):Int)+128:=by
      have e:=low7 y 0
      rw [show (y:Int) / 2 ^ (7 * 0)=y by simp,show y / 128 ^ 0=y by simp] at e
      rw [e,or128 _ (Nat.mod_lt _ (by decide)),HY2.out,show c - (q+1)=c - 1 - q by omega]
     have HV:Hid (bits .or .u8 (bits .and .i64 (y:Int) 127 % 256) 128=((n / 128 ^ (c - 1 - q) % 128:Nat):Int)+128):=hv
     clear hv
     have hs:=hor.store q (((n / 128 ^ (c - 1 - q) % 128:Nat):Int)+128) (by omega)
     rw [backL_set n c q hq,← HV.out] at hs
     have HS:Hid (Own w.heap.size (wr.setCell ⟨w.heap.size,q,none⟩ (.int .u8 (bits .or .u8 (bits .and .i64 (y:Int) 127 % 256) 128))) (some ⟨w.heap.size,0,none⟩) c c (backL n c q)):=hs
     clear hs
     go_wp2
     go_roundw
     case rel=>exact ⟨q,y / 128,by omega,rfl,by go_num,by rw [HY2.out,div_next,show c - (q+1)+1=c - q by omega],HS.out,hbr.setCell (Nat.le_refl _) _⟩
     case measure=>simp [intOf]
def putI (n:Int):List Int:=if n<0 then [] else putN n.toNat
theorem putI_len (n:Int)(h:n≤9223372036854775807):(putI n).length≤9:=by
 unfold putI
 split
 ·simp
 ·rw [putN,putL_len]; exact cnt_le _ (by omega)
theorem specPutNum_any (n:Int)(w:World)(h:n≤9223372036854775807) :
  Calls Tryz.prog 135 #[.int .i64 n] w fun e w'=>∃ a cap,e=.returned (.slice a (putI n).length cap)∧Own w.heap.size w' a (putI n).length cap (putI n)∧Below w.heap.size w w':=by
 by_cases hn:n<0
 ·refine (specPutNum_neg n w hn).mono ?_
  rintro e w' ⟨a,rfl,ho,hb⟩
  simp only [putI,if_pos hn]
  exact ⟨a,0,rfl,ho,hb⟩
 ·obtain ⟨m,rfl⟩:=Int.eq_ofNat_of_zero_le (show 0≤n by omega)
  simp only [putI,if_neg hn,Int.toNat_natCast]
  exact specPutNum_pos m w (by omega)
theorem implPutNum_any (n:Int)(w:World)(h:n≤9223372036854775807) :
  Calls Tryz.prog 181 #[.int .i64 n] w fun e w'=>∃ a cap,e=.returned (.slice a (putI n).length cap)∧Own w.heap.size w' a (putI n).length cap (putI n)∧Below w.heap.size w w':=by
 by_cases hn:n<0
 ·refine (implPutNum_neg n w hn).mono ?_
  rintro e w' ⟨a,rfl,ho,hb⟩
  simp only [putI,if_pos hn]
  exact ⟨a,0,rfl,ho,hb⟩
 ·obtain ⟨m,rfl⟩:=Int.eq_ofNat_of_zero_le (show 0≤n by omega)
  simp only [putI,if_neg hn,Int.toNat_natCast]
  exact implPutNum_pos m w (by omega)
open Go.RowKit
theorem row_cells {w:World}{ad:Addr}{m:Nat}{ys:List Int}(h:Row w (some ad) m ys):∀ j u,(ys.map (Value.int .u8))[j]? = some u→w.cell? (ad.add j)=some u:=by
 intro j u hj
 have hjl:j<ys.length:=by
  have:=(List.getElem?_eq_some_iff.1 hj).1
  simpa using this
 obtain ⟨b,off,ha,_,hc⟩:=h.get j (by rw [← h.len]; exact hjl)
 simp only [Option.some.injEq] at ha
 subst ha
 rw [Addr.add_lit,hc]
 simp [hjl] at hj
 simp [hjl,hj]
theorem row_none {w:World}{m:Nat}{ys:List Int}(h:Row w none m ys):m=0∧ys = []:=by
 rcases Nat.eq_zero_or_pos m with h0 | h0
 ·exact ⟨h0,List.eq_nil_of_length_eq_zero (by rw [h.len]; exact h0)⟩
 ·obtain ⟨b,off,ha,_⟩:=h.get 0 h0
  simp at ha
theorem wpList_append_row {P:Program}(w:World){ops:Array Oper}{rest:List Oper}{o:Oper}{a:Act}{Q:Exit→Act→World→Prop}
  (hg:o.guard=none) (s x:Operand) (t:TypeId) (hop:o.op=Op.call { callee:=Callee.builtin Builtin.append,args:=#[s,x],argTypes:=#[t,t] })
  (base:Nat) (i:TypeInfo) (h1:P.underlying t=some (.slice 5)) (h2:P.info? 5=some i) (h3:i.zero=some (.int .u8 0)) (h4:i.size=1) (h5:i.bytes=1)
  (v:Value) (n:Nat) (xs:List Value) (hs:a.eval s=v) (hown:w.ownsRow base 5 1 v n xs)
  (ao:Option Addr) (m c:Nat) (ys:List Int) (hx:a.eval x=.slice ao m c) (hrow:Row w ao m ys) (hnil:ao=none→c=0)
  (b1:n+m≤140737488355328) (b3:base≤w.heap.size)
  (hK:∀ v' w',w'.ownsRow base 5 1 v' (n+m) (xs++ys.map (Value.int .u8))→w.grownBy w' v.ownBlock→wpList P ops Q rest (a.put o.dst v') w') :
  wpList P ops Q (o::rest) a w:=by
 cases ao with
 | some ad =>
  refine wpList_append_own w hg s x t hop base 5 i (.int .u8 0) 1 1 h1 h2 h3 h4 h5 rfl (by decide) v n xs hs hown ad m c (ys.map (Value.int .u8)) hx (by rw [List.length_map,hrow.len,Nat.mul_one]) (row_cells hrow) (ints_oneCell _ _) (by unfold maxLen; omega) (by omega) b3 ?_
  intro v' w' r1 r2 _
  exact hK v' w' r1 r2
 | none =>
  obtain ⟨rfl,rfl⟩:=row_none hrow
  obtain rfl:=hnil rfl
  refine wpList_append_own_none hg s x t hop base 5 i 1 h1 h2 v n xs hs hown hx ?_
  exact hK v w (by simpa using hown) (World.grownBy.refl _ _)
end Go.Proofs.YtmdfbnlgfhjnoaaGreatDoor
