import Derived.Laws.Rows
import Derived.Below
import Derived.Test.YtnmplldhdfingaaGreatDoorFG01
set_option maxRecDepth 10000
set_option maxHeartbeats 8000000
set_option linter.unusedVariables false
namespace Go.Proofs.YtnmplldhdfingaaGreatDoor
open Go Go.RowKit
theorem qk {w:World}{g j t:Nat}{c:Array Value}{v:Value}(h:w.heap[g]? = some (.cells c t (0,0)))(e:c[j]? = some v):w.cell? ⟨g,j,none⟩=some v:=(cell_of_row w g j c t (0,0) h).trans e
open Go.RowKit
structure Cnt (n c:Nat):Prop where
 pos:1≤c
 top:n<128 ^ c
 low:c=1∨128 ^ (c - 1)≤n
theorem Cnt.unique {n c d:Nat}(h:Cnt n c)(k:Cnt n d):c=d:=by
 rcases Nat.lt_trichotomy c d with hlt | he | hlt
 ·rcases k.low with h1 | h1
  ·have:=h.pos; omega
  ·have:128 ^ c≤128 ^ (d - 1):=Nat.pow_le_pow_right (by decide) (by omega)
   have:=h.top; omega
 ·exact he
 ·rcases h.low with h1 | h1
  ·have:=k.pos; omega
  ·have:128 ^ d≤128 ^ (c - 1):=Nat.pow_le_pow_right (by decide) (by omega)
   have:=k.top; omega
def cnt (n:Nat):Nat:=1+Nat.log2 n / 7
theorem pow128 (c:Nat):128 ^ c=2 ^ (7 * c):=by rw [Nat.pow_mul]
theorem cnt_ok (n:Nat):Cnt n (cnt n):=by
 by_cases h0:n=0
 ·subst h0; exact ⟨by decide,by decide,.inl (by decide)⟩
 ·refine ⟨by unfold cnt; omega,?_,?_⟩
  ·rw [pow128]; exact (Nat.log2_lt h0).1 (by unfold cnt; omega)
  ·by_cases h1:Nat.log2 n / 7=0
   ·left; unfold cnt; omega
   ·right; rw [pow128]; exact (Nat.le_log2 h0).1 (by unfold cnt; omega)
theorem cnt_of {n c:Nat}(h:Cnt n c):c=cnt n:=h.unique (cnt_ok n)
theorem cnt_le (n:Nat)(h:n<9223372036854775808):cnt n≤9:=by
 by_cases h0:n=0
 ·subst h0; decide
 ·have:=(Nat.log2_lt h0 (k:=63)).2 h
  unfold cnt; omega
def grp (n c j:Nat):Int:=((n / 128 ^ (c - 1 - j) % 128:Nat):Int)+if j+1=c then 0 else 128
def putL (n c:Nat):List Int:=(List.range c).map (grp n c)
def putN (n:Nat):List Int:=putL n (cnt n)
theorem putL_len (n c:Nat):(putL n c).length=c:=by simp [putL]
theorem grp_byte (n c j:Nat):0≤grp n c j∧grp n c j≤255:=by
 unfold grp
 have:=Nat.mod_lt (n / 128 ^ (c - 1 - j)) (show 0<128 by decide)
 split <;> omega
theorem putL_take (n c j:Nat)(h:j<c):(putL n c).take (j+1)=(putL n c).take j++[grp n c j]:=by
 rw [List.take_succ_eq_append_getElem (by rw [putL_len]; exact h)]
 simp [putL]
theorem own_empty (w:World):Own w.heap.size (w.alloc (.cells #[] 5)) (some ⟨w.heap.size,0,none⟩) 0 0 [] :=
 ⟨World.ownsRow_lit w #[] 0 (Nat.le_refl _) (Nat.zero_le _) rfl,by simp⟩
theorem own_none (B:Nat)(w:World):Own B w none 0 0 []:=⟨World.ownsRow_nil _ _ _ _,by simp⟩
theorem low7 (n q:Nat):bits .and .i64 ((n:Int) / 2 ^ (7 * q)) 127 % 256=((n / 128 ^ q % 128:Nat):Int):=by
 rw [i64_and127,pow128]
 have e:(n:Int) / 2 ^ (7 * q)=((n / 2 ^ (7 * q):Nat):Int):=by simp
 rw [e]
 omega
theorem or128 (m:Nat)(h:m<128):bits .or .u8 (m:Int) 128=(m:Int)+128:=by
 have:=u8_or_nat m 128 (by omega) (by decide)
 rw [show ((128:Nat):Int)=128 from rfl] at this
 rw [this,Nat.or_comm,nat_join 7 128 m (by decide) (by simpa using h)]
 omega
theorem grp_hi (n c q:Nat)(h:0<q)(hq:q+1≤c):bits .or .u8 (bits .and .i64 ((n:Int) / 2 ^ (7 * q)) 127 % 256) 128=grp n c (c - (q+1)):=by
 rw [low7,or128 _ (Nat.mod_lt _ (by decide))]
 unfold grp
 rw [if_neg (by omega),show c - 1 - (c - (q+1))=q by omega]
theorem grp_lo (n c:Nat)(hq:1≤c):bits .and .i64 (n:Int) 127 % 256=grp n c (c - (0+1)):=by
 have e:=low7 n 0
 rw [show (n:Int) / 2 ^ (7 * 0)=n by simp,show n / 128 ^ 0=n by simp] at e
 rw [e]
 unfold grp
 rw [if_pos (by omega),show c - 1 - (c - (0+1))=0 by omega]
 simp
theorem putL_more (n c q:Nat)(h:q+1≤c):(putL n c).take (c - (q+1))++[grp n c (c - (q+1))]=(putL n c).take (c - q):=by
 rw [show c - q=c - (q+1)+1 by omega,putL_take n c _ (by omega)]
theorem specPutNum_neg (n:Int)(w:World)(h:n<0) :
  Calls Tryz.prog 46 #[.int .i64 n] w fun e w'=>∃ a,e=.returned (.slice a 0 0)∧Own w.heap.size w' a 0 0 []∧Below w.heap.size w w':=by
 go_enter Tryz.func46,Tryz.ntmps46
 go_wp2
 go_ret
 exact ⟨_,rfl,own_empty w,(Below.refl _ _).alloc (Nat.le_refl _) _⟩
theorem div_pos_le {n c:Nat}(h:0<n / 128 ^ c):128 ^ c≤n:=by
 rcases Nat.lt_or_ge n (128 ^ c) with h1 | h1
 ·rw [Nat.div_eq_of_lt h1] at h; omega
 ·exact h1
theorem lt_of_div_zero {n c:Nat}(h:n / 128 ^ c=0):n<128 ^ c:=by
 rcases Nat.div_eq_zero_iff.1 h with h1 | h1
 ·have:0<128 ^ c:=Nat.pow_pos (by decide); omega
 ·exact h1
theorem c_le {n c:Nat}(h:n<9223372036854775808)(hp:128 ^ c≤n):c≤8:=by
 rcases Nat.lt_or_ge 8 c with h1 | h1
 ·have:128 ^ 9≤128 ^ c:=Nat.pow_le_pow_right (by decide) h1
  have h2:(128:Nat) ^ 9=9223372036854775808:=by decide
  omega
 ·exact h1
theorem div_next (n c:Nat):n / 128 ^ c / 128=n / 128 ^ (c+1):=by rw [Nat.div_div_eq_div_mul,Nat.pow_succ]
theorem specPutNum_pos (n:Nat)(w:World)(h:n<9223372036854775808) :
  Calls Tryz.prog 46 #[.int .i64 n] w fun e w'=>∃ a cap,e=.returned (.slice a (putN n).length cap)∧Own w.heap.size w' a (putN n).length cap (putN n)∧Below w.heap.size w w':=by
 obtain ⟨i0,hi,hz0,hz1,hz2⟩:=info_parts Tryz.info5
 have h':(n:Int)≤9223372036854775807:=by omega
 have h0:0≤(n:Int):=by omega
 have hoe:=own_empty w
 have hbe:Below w.heap.size w (w.alloc (.cells #[] 5)):=(Below.refl _ _).alloc (Nat.le_refl _) _
 go_enter Tryz.func46,Tryz.ntmps46
 go_wp2
 go_loop [4,5] (fun g x=>∃ c y:Nat,1≤c∧c≤9∧g=.int .i64 c∧x=.int .i64 y∧y=n / 128 ^ c∧(c=1∨128 ^ (c - 1)≤n)) (fun g _=>10 - (intOf g).toNat)
 case atStart=>exact ⟨1,n / 128,by omega,by omega,rfl,rfl,rfl,.inl rfl⟩
 case round =>
  obtain ⟨c,y,hc1,hc10,rfl,rfl,hy,hlow⟩:=hrel
  have HY:Hid (y=n / 128 ^ c):=hy
  have HLow:Hid (c=1∨128 ^ (c - 1)≤n):=hlow
  clear hy hlow
  by_cases hp:0<y
  ·go_wp2
   go_round
   case rel =>
    have h128:128 ^ c≤n:=div_pos_le (by rw [← HY.out]; exact hp)
    have:=c_le h h128
    exact ⟨c+1,y / 128,by omega,by omega,by go_num,by go_num,by rw [HY.out,div_next],.inr h128⟩
   case measure=>simp [intOf]; omega
  ·have hcn:c=cnt n:=cnt_of ⟨hc1,lt_of_div_zero (by rw [← HY.out]; omega),HLow.out⟩
   have HC:Hid (c=cnt n):=hcn
   clear hcn
   go_wp2
   go_loopw [3,6] (fun o i wr=>∃ (a:Option Addr) (q len cap:Nat),q≤c∧len=c - q∧i=.int .i64 ((q:Int) - 1)∧o=.slice a len cap∧Own w.heap.size wr a len cap ((putL n c).take (c - q))∧Below w.heap.size w wr) (fun _ i _=>((intOf i)+1).toNat)
   case atStart=>exact ⟨_,c,0,0,Nat.le_refl _,by omega,rfl,rfl,by rw [Nat.sub_self]; exact hoe,hbe⟩
   case round =>
    obtain ⟨a,q,len,cap,hq,hle,rfl,rfl,hor,hbr⟩:=hrel
    have HLe:Hid (len=c - q):=hle
    clear hle
    rcases q with _ | q
    ·go_wp2
     go_ret
     have hlen:(putN n).length=len:=by rw [HLe.out,putN,putL_len,← HC.out]; omega
     rw [hlen]
     exact ⟨_,_,rfl,by rw [Nat.sub_zero,List.take_of_length_le (by rw [putL_len]; exact Nat.le_refl _)] at hor; rw [putN,← HC.out]; exact hor,hbr⟩
    ·have e1:((q+1:Nat):Int) - 1=(q:Int):=by omega
     rw [e1]
     clear e1
     have hl9:len≤9:=by have:=HLe.out; omega
     have hws:w.heap.size≤wr.heap.size:=hbr.size
     by_cases hq0:0<q
     ·go_wp2_with (at_builtin; go_loud (refine wpList_append_own _ rfl _ _ 26 rfl w.heap.size 5 i0 (.int .u8 0) 1 1 Tryz.underlying26 hi hz0 hz1 hz2 rfl (by decide) _ _ _ rfl (hor.row.alloc _) ⟨wr.heap.size,0,none⟩ 1 1 [_] rfl rfl (cell_one_new _ _ _) (by intro u hu; simp at hu; subst hu; rfl) (by unfold maxLen; omega) (by omega) (by simp; omega) ?_); intro v' w1 hown' hgrow' _)
      have hb1:Below w.heap.size w w1:=below_appended (hbr.alloc hws _) (by simp; omega) (hor.row.alloc _) hgrow'
      rw [grp_hi n c q hq0 hq] at hown'
      obtain ⟨a',cap',rfl,ho⟩:=own_appended (ys:=[grp n c (c - (q+1))]) hown' hor.byte (by simpa using snoc_byte (xs:=[]) (by simp) _ (grp_byte n c (c - (q+1))))
      rw [putL_more n c q hq] at ho
      go_roundw
      case rel=>exact ⟨a',q,len+1,cap',by omega,by have:=HLe.out; omega,rfl,rfl,ho,hb1⟩
      case measure=>simp [intOf]
     ·obtain rfl:q=0:=by omega
      go_wp2_with (at_builtin; refine wpList_append_own _ rfl _ _ 26 rfl w.heap.size 5 i0 (.int .u8 0) 1 1 Tryz.underlying26 hi hz0 hz1 hz2 rfl (by decide) _ _ _ rfl (hor.row.alloc _) ⟨wr.heap.size,0,none⟩ 1 1 [_] rfl rfl (cell_one_new _ _ _) (by intro u hu; simp at hu; subst hu; rfl) (by unfold maxLen; omega) (by omega) (by simp; omega) ?_; intro v' w1 hown' hgrow' _)
      have hb1:Below w.heap.size w w1:=below_appended (hbr.alloc hws _) (by simp; omega) (hor.row.alloc _) hgrow'
      rw [grp_lo n c hq] at hown'
      obtain ⟨a',cap',rfl,ho⟩:=own_appended (ys:=[grp n c (c - (0+1))]) hown' hor.byte (by simpa using snoc_byte (xs:=[]) (by simp) _ (grp_byte n c (c - (0+1))))
      rw [putL_more n c 0 hq] at ho
      go_roundw
      case rel=>exact ⟨a',0,len+1,cap',by omega,by have:=HLe.out; omega,rfl,rfl,ho,hb1⟩
      case measure=>simp [intOf]
def backL (n c q:Nat):List Int:=List.replicate q 0++((List.range (c - q)).map fun j=>((n / 128 ^ (c - 1 - (q+j)) % 128:Nat):Int)+128)
theorem backL_start (n c:Nat):backL n c c=List.replicate c 0:=by simp [backL]
theorem backL_len (n c q:Nat)(h:q≤c):(backL n c q).length=c:=by simp [backL]; omega
theorem backL_set (n c q:Nat)(h:q+1≤c):(backL n c (q+1)).set q (((n / 128 ^ (c - 1 - q) % 128:Nat):Int)+128)=backL n c q:=by
 unfold backL
 rw [List.replicate_succ',List.append_assoc]
 show (List.replicate q (0:Int)++(0:Int)::_).set q _=_
 rw [set_append_mid _ _ _ _ _ (by simp)]
 rw [show c - q=c - (q+1)+1 by omega,List.range_succ_eq_map,List.map_cons,List.map_map]
 congr 1
 congr 1
 refine List.map_congr_left fun j _=>?_
 simp only [Function.comp]
 rw [show q+1+j=q+j.succ by omega]
theorem backL_last (n c:Nat)(h:1≤c):(backL n c 0).getD (c - 1) 0=((n % 128:Nat):Int)+128:=by
 simp [backL,show c - 1<c by omega]
theorem backL_done (n c:Nat)(h:1≤c):(backL n c 0).set (c - 1) ((n % 128:Nat):Int)=putL n c:=by
 unfold backL putL
 apply List.ext_getElem
 ·simp
 ·intro j h1 h2
  simp at h1 h2
  simp [List.getElem_set,grp]
  by_cases hj:c - 1=j
  ·subst hj
   rw [if_pos rfl,if_pos (by omega)]; simp
  ·rw [if_neg hj,if_neg (by omega)]
theorem implPutNum_neg (n:Int)(w:World)(h:n<0) :
  Calls Tryz.prog 129 #[.int .i64 n] w fun e w'=>∃ a,e=.returned (.slice a 0 0)∧Own w.heap.size w' a 0 0 []∧Below w.heap.size w w':=by
 go_enter Tryz.func129,Tryz.ntmps129
 go_wp2
 go_ret
 exact ⟨_,rfl,own_none _ w,Below.refl _ _⟩
theorem implPutNum_pos (n:Nat)(w:World)(h:n<9223372036854775808) :
  Calls Tryz.prog 129 #[.int .i64 n] w fun e w'=>∃ a cap,e=.returned (.slice a (putN n).length cap)∧Own w.heap.size w' a (putN n).length cap (putN n)∧Below w.heap.size w w':=by
 obtain ⟨i0,hi,hz0,hz1,hz2⟩:=info_parts Tryz.info5
 have h':(n:Int)≤9223372036854775807:=by omega
 have h0:0≤(n:Int):=by omega
 go_enter Tryz.func129,Tryz.ntmps129
 go_wp2
 go_loop [3,4] (fun g x=>∃ c y:Nat,1≤c∧c≤9∧g=.int .i64 c∧x=.int .i64 y∧y=n / 128 ^ c∧(c=1∨128 ^ (c - 1)≤n)) (fun g _=>10 - (intOf g).toNat)
 case atStart=>exact ⟨1,n / 128,by omega,by omega,rfl,rfl,rfl,.inl rfl⟩
 case round =>
  obtain ⟨c,y,hc1,hc10,rfl,rfl,hy,hlow⟩:=hrel
  have HY:Hid (y=n / 128 ^ c):=hy
  have HLow:Hid (c=1∨128 ^ (c - 1)≤n):=hlow
  clear hy hlow
  by_cases hp:0<y
  ·go_wp2
   go_round
   case rel =>
    have h128:128 ^ c≤n:=div_pos_le (by rw [← HY.out]; exact hp)
    have:=c_le h h128
    exact ⟨c+1,y / 128,by omega,by omega,by go_num,by go_num,by rw [HY.out,div_next],.inr h128⟩
   case measure=>simp [intOf]; omega
  ·have hcn:c=cnt n:=cnt_of ⟨hc1,lt_of_div_zero (by rw [← HY.out]; omega),HLow.out⟩
   have HC:Hid (c=cnt n):=hcn
   clear hcn
   go_wp2_with (at_make; refine wpList_make_full _ rfl _ _ 26 rfl w.heap.size 5 i0 (.int .u8 0) 1 Tryz.underlying26 hi hz0 hz1 _ _ _ _ c rfl rfl rfl rfl (by rw [hz2]; omega) (by unfold maxLen; omega) (by exact Nat.le_refl _) ?_; intro w1 hown hgrow)
   have ho:=own_made hown
   have hbl:Below w.heap.size w w1:=(Below.refl _ _).grown hgrow (Nat.le_refl _) (by simp)
   clear hown hgrow hi hz0 hz1 hz2
   go_loopw [0,6] (fun x i wr=>∃ q y:Nat,q≤c∧i=.int .i64 ((q:Int) - 1)∧x=.int .i64 y∧y=n / 128 ^ (c - q)∧Own w.heap.size wr (some ⟨w.heap.size,0,none⟩) c c (backL n c q)∧Below w.heap.size w wr) (fun _ i _=>((intOf i)+1).toNat)
   case atStart=>exact ⟨c,n,Nat.le_refl _,rfl,rfl,by simp,by rw [backL_start]; exact ho,hbl⟩
   case round =>
    obtain ⟨q,y,hq,rfl,rfl,hy,hor,hbr⟩:=hrel
    have HY2:Hid (y=n / 128 ^ (c - q)):=hy
    clear hy
    have hy9:(y:Int)≤9223372036854775807:=by have:=Nat.div_le_self n (128 ^ (c - q)); have:=HY2.out; omega
    rcases q with _ | q
    ·have hfr:wr.frozen? ⟨w.heap.size,c - 1,none⟩=false:=hor.row.frozenAt _
     have hcl:wr.cell? ⟨w.heap.size,c - 1,none⟩=some (.int .u8 (((n % 128:Nat):Int)+128)):=by
      rw [hor.row.cellAt _ (by omega),← backL_last n c hc1]
      simp [backL_len n c 0 (Nat.zero_le _),show c - 1<c by omega]
     have hs:=hor.store (c - 1) ((n:Int) % 128) (by omega)
     rw [show (n:Int) % 128=((n % 128:Nat):Int) by omega,backL_done n c hc1] at hs
     rw [show ((n % 128:Nat):Int)=(n:Int) % 128 by omega] at hs
     have HS:Hid (Own w.heap.size (wr.setCell ⟨w.heap.size,c - 1,none⟩ (.int .u8 ((n:Int) % 128))) (some ⟨w.heap.size,0,none⟩) c c (putL n c)):=hs
     clear hs
     go_wp2
     go_ret
     have hlen:(putN n).length=c:=by rw [putN,putL_len,← HC.out]
     rw [hlen]
     exact ⟨_,_,rfl,by rw [putN,← HC.out]; exact HS.out,hbr.setCell (Nat.le_refl _) _⟩
    ·have e1:((q+1:Nat):Int) - 1=(q:Int):=by omega
     rw [e1]
     clear e1
     have hfr:wr.frozen? ⟨w.heap.size,q,none⟩=false:=hor.row.frozenAt q
     obtain ⟨z,hz⟩:∃ z,wr.cell? ⟨w.heap.size,q,none⟩=some z:=⟨_,(hor.row.cellAt q (by omega)).trans (List.getElem?_eq_getElem (by simp [backL_len n c (q+1) hq]; omega))⟩
     have hv:bits .or .u8 (bits .and .i64 (y:Int) 127 % 256) 128=((n / 128 ^ (c - 1 - q) % 128:Nat):Int)+128:=by
      have e:=low7 y 0
      rw [show (y:Int) / 2 ^ (7 * 0)=y by simp,show y / 128 ^ 0=y by simp] at e
      rw [e,or128 _ (Nat.mod_lt _ (by decide)),HY2.out,show c - (q+1)=c - 1 - q by omega]
     have HV:Hid (bits .or .u8 (bits .and .i64 (y:Int) 127 % 256) 128=((n / 128 ^ (c - 1 - q) % 128:Nat):Int)+128):=hv
     clear hv
     have hs:=hor.store q (((n / 128 ^ (c - 1 - q) % 128:Nat):Int)+128) (by omega)
     rw [backL_set n c q hq,← HV.out] at hs
     have HS:Hid (Own w.heap.size (wr.setCell ⟨w.heap.size,q,none⟩ (.int .u8 (bits .or .u8 (bits .and .i64 (y:Int) 127 % 256) 128))) (some ⟨w.heap.size,0,none⟩) c c (backL n c q)):=hs
     clear hs
     go_wp2
     go_roundw
     case rel=>exact ⟨q,y / 128,by omega,rfl,by go_num,by rw [HY2.out,div_next,show c - (q+1)+1=c - q by omega],HS.out,hbr.setCell (Nat.le_refl _) _⟩
     case measure=>simp [intOf]
def putI (n:Int):List Int:=if n<0 then [] else putN n.toNat
theorem putI_len (n:Int)(h:n≤9223372036854775807):(putI n).length≤9:=by
 unfold putI
 split
 ·simp
 ·rw [putN,putL_len]; exact cnt_le _ (by omega)
theorem specPutNum_any (n:Int)(w:World)(h:n≤9223372036854775807) :
  Calls Tryz.prog 46 #[.int .i64 n] w fun e w'=>∃ a cap,e=.returned (.slice a (putI n).length cap)∧Own w.heap.size w' a (putI n).length cap (putI n)∧Below w.heap.size w w':=by
 by_cases hn:n<0
 ·refine (specPutNum_neg n w hn).mono ?_
  rintro e w' ⟨a,rfl,ho,hb⟩
  simp only [putI,if_pos hn]
  exact ⟨a,0,rfl,ho,hb⟩
 ·obtain ⟨m,rfl⟩:=Int.eq_ofNat_of_zero_le (show 0≤n by omega)
  simp only [putI,if_neg hn,Int.toNat_natCast]
  exact specPutNum_pos m w (by omega)
theorem implPutNum_any (n:Int)(w:World)(h:n≤9223372036854775807) :
  Calls Tryz.prog 129 #[.int .i64 n] w fun e w'=>∃ a cap,e=.returned (.slice a (putI n).length cap)∧Own w.heap.size w' a (putI n).length cap (putI n)∧Below w.heap.size w w':=by
 by_cases hn:n<0
 ·refine (implPutNum_neg n w hn).mono ?_
  rintro e w' ⟨a,rfl,ho,hb⟩
  simp only [putI,if_pos hn]
  exact ⟨a,0,rfl,ho,hb⟩
 ·obtain ⟨m,rfl⟩:=Int.eq_ofNat_of_zero_le (show 0≤n by omega)
  simp only [putI,if_neg hn,Int.toNat_natCast]
  exact implPutNum_pos m w (by omega)
open Go.RowKit
def mix (x:Int):Int:=IntKind.u64.wrap (IntKind.u64.wrap (x * 6364136223846793005)+1442695040888963407)
def stir (h b:Int):Int:=bits .xor .u64 (mix (bits .xor .u64 h b)) (mix (bits .xor .u64 h b) / 536870912)
theorem specStir_any (h b:Int)(w:World)(hb:0≤b)(hb':b≤255) :
  Calls Tryz.prog 134 #[.int .u64 h,.int .u8 b] w fun e w'=>e=.returned (.int .u64 (stir h b))∧w'=w:=by
 go_enter Tryz.func134,Tryz.ntmps134
 go_wp2
 go_ret
 exact ⟨rfl,rfl⟩
theorem implStir_any (h b:Int)(w:World)(hb:0≤b)(hb':b≤255) :
  Calls Tryz.prog 186 #[.int .u64 h,.int .u8 b] w fun e w'=>e=.returned (.int .u64 (stir h b))∧w'=w:=by
 go_enter Tryz.func186,Tryz.ntmps186
 go_wp2
 go_ret
 exact ⟨rfl,rfl⟩
def eight (n:Nat):List Int:=[(n:Int) / 72057594037927936 % 256,(n:Int) / 281474976710656 % 256,(n:Int) / 1099511627776 % 256,(n:Int) / 4294967296 % 256,(n:Int) / 16777216 % 256,(n:Int) / 65536 % 256,(n:Int) / 256 % 256,(n:Int) % 256]
theorem eight_byte (n:Nat):∀ k,0≤(eight n).getD k 0∧(eight n).getD k 0≤255:=by
 intro k
 match k with
 | 0 | 1 | 2 | 3 | 4 | 5 | 6 | 7=>simp [eight]; omega
 | k+8=>simp [eight]
theorem eight_mem (n:Nat):∀ x∈eight n,0≤x∧x≤255:=by
 intro x hx
 simp only [eight,List.mem_cons,List.not_mem_nil,or_false] at hx
 omega
theorem eight_div (n:Nat)(h:(n:Int)≤18446744073709551615) : [(n:Int) / 256 / 256 / 256 / 256 / 256 / 256 / 256,(n:Int) / 256 / 256 / 256 / 256 / 256 / 256 % 256,(n:Int) / 256 / 256 / 256 / 256 / 256 % 256,(n:Int) / 256 / 256 / 256 / 256 % 256,(n:Int) / 256 / 256 / 256 % 256,(n:Int) / 256 / 256 % 256,(n:Int) / 256 % 256,(n:Int) % 256]=eight n:=by
 simp only [eight,List.cons.injEq]
 refine ⟨by omega,by omega,by omega,by omega,by omega,by omega,trivial⟩
theorem eight_any (n:Nat)(w:World)(hn:(n:Int)≤18446744073709551615) :
  Calls Tryz.prog 132 #[.int .u64 n] w fun e w'=>∃ x0 x1 x2 x3 x4 x5 x6 x7:Int,e=.returned (.agg #[.int .u8 x0,.int .u8 x1,.int .u8 x2,.int .u8 x3,.int .u8 x4,.int .u8 x5,.int .u8 x6,.int .u8 x7])∧[x0,x1,x2,x3,x4,x5,x6,x7]=eight n∧Below w.heap.size w w':=by
 have hd:=eight_div n hn
 have HD:Hid (_=eight n):=hd
 clear hd
 go_enter Tryz.func132,Tryz.ntmps132
 go_wp2
 refine wp_loop_rounds 9 ?_
 iterate 9 (rw [rounds_succ]; go_wp2)
 refine bodyPost_ret (v:=.agg #[.int .u8 ((n:Int) / 256 / 256 / 256 / 256 / 256 / 256 / 256),.int .u8 ((n:Int) / 256 / 256 / 256 / 256 / 256 / 256 % 256),.int .u8 ((n:Int) / 256 / 256 / 256 / 256 / 256 % 256),.int .u8 ((n:Int) / 256 / 256 / 256 / 256 % 256),.int .u8 ((n:Int) / 256 / 256 / 256 % 256),.int .u8 ((n:Int) / 256 / 256 % 256),.int .u8 ((n:Int) / 256 % 256),.int .u8 ((n:Int) % 256)]) (by simp [results,Tryz.results132,go_sem]) rfl ?_
 exact ⟨_,_,_,_,_,_,_,_,rfl,HD.out,((Below.refl _ _).alloc (Nat.le_refl _) _).alloc (by simp) _⟩
def start:Int:=7809847782465536322
def stirs (h:Int)(l:List Int):Int:=l.foldl stir h
def hashL (bs:List Int):Int:=stirs (stirs start bs) (eight bs.length)
theorem stirs_next (h:Int)(bs:List Int)(k:Nat)(hk:k<bs.length):stirs h (bs.take (k+1))=stir (stirs h (bs.take k)) (bs.getD k 0):=by
 unfold stirs
 rw [List.take_succ_eq_append_getElem hk,List.foldl_append]
 simp [hk]
theorem specHash_any (a:Option Addr)(n cap:Nat)(bs:List Int)(w:World)(h:Row w a n bs)(hn:n≤1000000000000) :
  Calls Tryz.prog 120 #[.slice a n cap] w fun e w'=>e=.returned (.int .u64 (hashL bs))∧w'=w:=by
 have H0:Hid (Row w a n bs):=h
 have hby:=h.byte
 have HL:Hid (bs.length=n):=h.len
 clear h
 go_enter Tryz.func120,Tryz.ntmps120
 go_wp2
 go_loop [3,4] (fun t i=>∃ k:Nat,∃ hh:Int,k≤n∧i=.int .i64 k∧t=.int .u64 hh∧Hid (hh=stirs start (bs.take k))) (fun _ i=>n - (intOf i).toNat)
 case atStart=>exact ⟨0,_,Nat.zero_le _,rfl,rfl,rfl⟩
 case round =>
  obtain ⟨k,hh,hk,rfl,rfl,HH⟩:=hrel
  by_cases hlt:k<n
  ·obtain ⟨b,off,rfl,hb,hc⟩:=H0.out.get k hlt
   obtain ⟨x,hx⟩:∃ x,x=bs.getD k 0:=⟨_,rfl⟩
   have hxb:=hby k
   rw [← hx] at hc hxb
   obtain ⟨hx0,hx1⟩:=hxb
   have HX:Hid (x=bs.getD k 0):=hx
   clear hx
   go_wp2_with (go_at_call 134; refine (specStir_any _ _ _ hx0 hx1).mono ?_; rintro e w' ⟨rfl,rfl⟩)
   go_round
   case rel=>exact ⟨k+1,_,by omega,by go_num,rfl,by show _=_; rw [stirs_next start bs k (by have:=HL.out; omega),← HH.out,← HX.out]⟩
   case measure=>simp [intOf]; omega
  ·have hkn:k=n:=by omega
   subst hkn
   have HH2:Hid (hh=stirs start bs):=by have:=HH.out; rw [List.take_of_length_le (by have:=HL.out; omega)] at this; exact this
   clear HH
   have h8 : [(k:Int) / 72057594037927936,(k:Int) / 281474976710656,(k:Int) / 1099511627776,(k:Int) / 4294967296,(k:Int) / 16777216 % 256,(k:Int) / 65536 % 256,(k:Int) / 256 % 256,(k:Int) % 256]=eight k:=by
    simp only [eight,List.cons.injEq]
    refine ⟨by omega,by omega,by omega,by omega,trivial⟩
   have HE:Hid (_=eight k):=h8
   clear h8
   go_wp2
   refine wp_loop_rounds 9 ?_
   iterate 9 (rw [rounds_succ]; go_wp2_with (go_at_call 134; refine (specStir_any _ _ _ (by omega) (by omega)).mono ?_; rintro e w' ⟨rfl,rfl⟩))
   go_ret
   refine ⟨?_,rfl⟩
   unfold hashL
   rw [HL.out,← HE.out,← HH2.out]
   rfl
theorem index8 (x0 x1 x2 x3 x4 x5 x6 x7:Value)(w:World) :
  (Instr.index 171 (.agg #[x0,x1,x2,x3,x4,x5,x6,x7]) (.int .i64 0)).run Tryz.prog w=.ok x0 w∧(Instr.index 171 (.agg #[x0,x1,x2,x3,x4,x5,x6,x7]) (.int .i64 1)).run Tryz.prog w=.ok x1 w ∧
  (Instr.index 171 (.agg #[x0,x1,x2,x3,x4,x5,x6,x7]) (.int .i64 2)).run Tryz.prog w=.ok x2 w∧(Instr.index 171 (.agg #[x0,x1,x2,x3,x4,x5,x6,x7]) (.int .i64 3)).run Tryz.prog w=.ok x3 w ∧
  (Instr.index 171 (.agg #[x0,x1,x2,x3,x4,x5,x6,x7]) (.int .i64 4)).run Tryz.prog w=.ok x4 w∧(Instr.index 171 (.agg #[x0,x1,x2,x3,x4,x5,x6,x7]) (.int .i64 5)).run Tryz.prog w=.ok x5 w ∧
  (Instr.index 171 (.agg #[x0,x1,x2,x3,x4,x5,x6,x7]) (.int .i64 6)).run Tryz.prog w=.ok x6 w∧(Instr.index 171 (.agg #[x0,x1,x2,x3,x4,x5,x6,x7]) (.int .i64 7)).run Tryz.prog w=.ok x7 w:=by
 refine ⟨?_,?_,?_,?_,?_,?_,?_,?_⟩ <;> kernel_rfl
theorem implHash_any (a:Option Addr)(n cap:Nat)(bs:List Int)(w:World)(h:Row w a n bs)(hn:n≤1000000000000) :
  Calls Tryz.prog 184 #[.slice a n cap] w fun e w'=>e=.returned (.int .u64 (hashL bs))∧Below w.heap.size w w':=by
 have H0:Hid (Row w a n bs):=h
 have hby:=h.byte
 have HL:Hid (bs.length=n):=h.len
 clear h
 go_enter Tryz.func184,Tryz.ntmps184
 go_wp2
 go_loop [3,10] (fun t i=>∃ k:Nat,∃ hh:Int,k≤n∧i=.int .i64 k∧t=.int .u64 hh∧Hid (hh=stirs start (bs.take k))) (fun _ i=>n - (intOf i).toNat)
 case atStart=>exact ⟨0,_,Nat.zero_le _,rfl,rfl,rfl⟩
 case round =>
  obtain ⟨k,hh,hk,rfl,rfl,HH⟩:=hrel
  by_cases hlt:k<n
  ·obtain ⟨b,off,rfl,hb,hc⟩:=H0.out.get k hlt
   obtain ⟨x,hx⟩:∃ x,x=bs.getD k 0:=⟨_,rfl⟩
   have hxb:=hby k
   rw [← hx] at hc hxb
   obtain ⟨hx0,hx1⟩:=hxb
   have HX:Hid (x=bs.getD k 0):=hx
   clear hx
   go_wp2_with (go_at_call 186; refine (implStir_any _ _ _ hx0 hx1).mono ?_; rintro e w' ⟨rfl,rfl⟩)
   go_round
   case rel=>exact ⟨k+1,_,by omega,by go_num,rfl,by show _=_; rw [stirs_next start bs k (by have:=HL.out; omega),← HH.out,← HX.out]⟩
   case measure=>simp [intOf]; omega
  ·have hkn:k=n:=by omega
   subst hkn
   have HH2:Hid (hh=stirs start bs):=by have:=HH.out; rw [List.take_of_length_le (by have:=HL.out; omega)] at this; exact this
   clear HH
   go_wp2_with fail
   refine (eight_any k _ (by omega)).mono ?_
   rintro e w1 ⟨x0,x1,x2,x3,x4,x5,x6,x7,rfl,h8,hb1⟩
   have hm:=eight_mem k
   rw [← h8] at hm
   simp only [List.forall_mem_cons,List.not_mem_nil,false_implies,implies_true,and_true] at hm
   obtain ⟨⟨l0,u0⟩,⟨l1,u1⟩,⟨l2,u2⟩,⟨l3,u3⟩,⟨l4,u4⟩,⟨l5,u5⟩,⟨l6,u6⟩,⟨l7,u7⟩⟩:=hm
   have HE:Hid (_=eight k):=h8
   clear h8
   obtain ⟨i0,i1,i2,i3,i4,i5,i6,i7⟩:=index8 (.int .u8 x0) (.int .u8 x1) (.int .u8 x2) (.int .u8 x3) (.int .u8 x4) (.int .u8 x5) (.int .u8 x6) (.int .u8 x7) w1
   go_wp2
   refine wp_loop_rounds 9 ?_
   iterate 9 (rw [rounds_succ]; go_wp2_with (go_at_call 186; refine (implStir_any _ _ _ (by omega) (by omega)).mono ?_; rintro e w' ⟨rfl,rfl⟩))
   go_ret
   refine ⟨?_,hb1⟩
   unfold hashL
   rw [HL.out,← HE.out,← HH2.out]
   rfl
end Go.Proofs.YtnmplldhdfingaaGreatDoor
