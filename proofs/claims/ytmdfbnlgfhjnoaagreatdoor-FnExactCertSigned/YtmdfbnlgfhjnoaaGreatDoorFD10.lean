import Derived.Laws.AppendOwnNone
import Derived.Laws.CopyOwn
import Derived.Lib.SlBytesConst
import Derived.Laws.Closers25b
import Derived.Test.YtmdfbnlgfhjnoaaGreatDoorFD09
import Derived.Test.YtmdfbnlgfhjnoaaGreatDoorFD08
set_option maxRecDepth 10000
set_option maxHeartbeats 8000000
set_option linter.unusedVariables false
namespace Go.Proofs.YtmdfbnlgfhjnoaaGreatDoor
open Go.RowKit
theorem row_cells {w:World}{ad:Addr}{m:Nat}{ys:List Int}(h:Row w (some ad) m ys):∀ j u,(ys.map (Value.int .u8))[j]? = some u→w.cell? (ad.add j)=some u:=by
 intro j u hj
 have hjl:j<ys.length:=by
  have:=(List.getElem?_eq_some_iff.1 hj).1
  simpa using this
 obtain ⟨b,off,ha,_,hc⟩:=h.get j (by rw [← h.len]; exact hjl)
 simp only [Option.some.injEq] at ha
 subst ha
 rw [Addr.add_lit,hc]
 simp [hjl] at hj
 simp [hjl,hj]
theorem row_none {w:World}{m:Nat}{ys:List Int}(h:Row w none m ys):m=0∧ys = []:=by
 rcases Nat.eq_zero_or_pos m with h0 | h0
 ·exact ⟨h0,List.eq_nil_of_length_eq_zero (by rw [h.len]; exact h0)⟩
 ·obtain ⟨b,off,ha,_⟩:=h.get 0 h0
  simp at ha
theorem wpList_append_row {P:Program}(w:World){ops:Array Oper}{rest:List Oper}{o:Oper}{a:Act}{Q:Exit→Act→World→Prop}
  (hg:o.guard=none) (s x:Operand) (t:TypeId) (hop:o.op=Op.call { callee:=Callee.builtin Builtin.append,args:=#[s,x],argTypes:=#[t,t] })
  (base:Nat) (i:TypeInfo) (h1:P.underlying t=some (.slice 5)) (h2:P.info? 5=some i) (h3:i.zero=some (.int .u8 0)) (h4:i.size=1) (h5:i.bytes=1)
  (v:Value) (n:Nat) (xs:List Value) (hs:a.eval s=v) (hown:w.ownsRow base 5 1 v n xs)
  (ao:Option Addr) (m c:Nat) (ys:List Int) (hx:a.eval x=.slice ao m c) (hrow:Row w ao m ys) (hnil:ao=none→c=0)
  (b1:n+m≤140737488355328) (b3:base≤w.heap.size)
  (hK:∀ v' w',w'.ownsRow base 5 1 v' (n+m) (xs++ys.map (Value.int .u8))→w.grownBy w' v.ownBlock→wpList P ops Q rest (a.put o.dst v') w') :
  wpList P ops Q (o::rest) a w:=by
 cases ao with
 | some ad =>
  refine wpList_append_own w hg s x t hop base 5 i (.int .u8 0) 1 1 h1 h2 h3 h4 h5 rfl (by decide) v n xs hs hown ad m c (ys.map (Value.int .u8)) hx (by rw [List.length_map,hrow.len,Nat.mul_one]) (row_cells hrow) (ints_oneCell _ _) (by unfold maxLen; omega) (by omega) b3 ?_
  intro v' w' r1 r2 _
  exact hK v' w' r1 r2
 | none =>
  obtain ⟨rfl,rfl⟩:=row_none hrow
  obtain rfl:=hnil rfl
  refine wpList_append_own_none hg s x t hop base 5 i 1 h1 h2 v n xs hs hown hx ?_
  exact hK v w (by simpa using hown) (World.grownBy.refl _ _)
open Go.RowKit
structure Rows2 (w:World)(a:Option Addr)(n:Nat)(bss:List (List Int)):Prop where
 len:bss.length=n
 get:∀ k,k<n→∃ b off,a=some ⟨b,off,none⟩∧b<w.heap.size∧∃ ak nk ck,w.cell? ⟨b,off+k,none⟩=some (.slice ak nk ck)∧Row w ak nk (bss.getD k [])∧(ak=none→ck=0)
def total (bss:List (List Int)):Nat:=(bss.map List.length).sum
def encParts (bss:List (List Int)):List Int:=bss.flatMap fun p=>putN p.length++p
def partsL (bss:List (List Int)):List Int:=putN bss.length++encParts bss
theorem encParts_nil:encParts [] = []:=rfl
theorem encParts_append (a b:List (List Int)):encParts (a++b)=encParts a++encParts b:=by simp [encParts,List.flatMap_append]
theorem encParts_next (bss:List (List Int))(k:Nat)(h:k<bss.length):encParts (bss.take (k+1))=encParts (bss.take k)++(putN (bss.getD k []).length++bss.getD k []):=by
 have e:bss.getD k []=bss[k]:=by simp [h]
 rw [List.take_succ_eq_append_getElem h,encParts_append,e]
 simp [encParts]
theorem total_take (bss:List (List Int))(k:Nat):total (bss.take k)≤total bss:=by
 have:total bss=total (bss.take k)+total (bss.drop k):=by
  unfold total
  rw [← List.sum_append,← List.map_append,List.take_append_drop]
 omega
theorem total_split (bss:List (List Int))(k:Nat)(h:k<bss.length):total (bss.take (k+1))=total (bss.take k)+(bss.getD k []).length:=by
 have e:bss.getD k []=bss[k]:=by simp [h]
 rw [List.take_succ_eq_append_getElem h,e]
 unfold total
 rw [List.map_append,List.sum_append]
 rfl
theorem part_le (bss:List (List Int))(k:Nat)(h:k<bss.length){t:Nat}(ht:total bss≤t):(bss.getD k []).length≤t:=by
 have h1:=total_split bss k h
 have h2:=total_take bss (k+1)
 omega
theorem encParts_len1 (bss:List (List Int))(h:∀ p∈bss,p.length<9223372036854775808):(encParts bss).length≤9 * bss.length+total bss:=by
 induction bss with
 | nil=>simp [encParts,total]
 | cons p r ih =>
  have h1:=ih (fun x hx=>h x (List.mem_cons_of_mem _ hx))
  have h2:(putN p.length).length≤9:=by rw [putN,putL_len]; exact cnt_le _ (h p List.mem_cons_self)
  have e:encParts (p::r)=putN p.length++p++encParts r:=rfl
  have e2:total (p::r)=p.length+total r:=by simp [total]
  rw [e,e2,List.length_append,List.length_append,List.length_cons]; omega
theorem encParts_len (bss:List (List Int))(k n:Nat)(hl:bss.length=n)(ht:total bss≤2097152):(encParts (bss.take k)).length≤9 * n+2097152:=by
 have h1:=encParts_len1 (bss.take k) (fun p hp=>by
  obtain ⟨i,hi,rfl⟩:=List.getElem_of_mem (List.mem_of_mem_take hp)
  have:=part_le bss i hi ht
  simp [hi] at this
  omega)
 have h2:=total_take bss k
 have h3:(bss.take k).length≤n:=by rw [List.length_take]; omega
 omega
theorem specHashAll_any (a:Option Addr)(n cap:Nat)(bss:List (List Int))(w:World)(h:Rows2 w a n bss)(hn:n≤2097152)(ht:total bss≤2097152) :
  Calls Tryz.prog 185 #[.slice a n cap] w fun e w'=>e=.returned (.int .u64 (hashL (partsL bss)))∧Below w.heap.size w w':=by
 obtain ⟨i0,hi,hz0,hz1,hz2⟩:=info_parts Tryz.info5
 have H0:Hid (Rows2 w a n bss):=h
 have HL:Hid (bss.length=n):=h.len
 have HT:Hid (total bss≤2097152):=ht
 clear h ht
 go_enter Tryz.func185,Tryz.ntmps185
 go_wp2_with fail
 refine (specPutNum_any (n:Int) _ (by omega)).mono ?_
 rintro e w1 ⟨a1,c1,rfl,ho1,hb1⟩
 have hp1:putI (n:Int)=putN n:=by rw [putI,if_neg (by omega),Int.toNat_natCast]
 rw [hp1] at ho1 ⊢
 have hpn:(putN n).length≤9:=by rw [putN,putL_len]; exact cnt_le n (by omega)
 obtain ⟨m0,hm0⟩:∃ m0,m0=(putN n).length:=⟨_,rfl⟩
 rw [← hm0] at ho1 hpn ⊢
 clear hp1 hm0
 go_wp2
 go_loopw [3,4] (fun o i wr=>∃ (k m c:Nat) (ao:Option Addr),k≤n∧i=.int .i64 k∧o=.slice ao m c∧Own w.heap.size wr ao m c (putN n++encParts (bss.take k))∧Below w.heap.size w wr) (fun _ i _=>n - (intOf i).toNat)
 case atStart=>exact ⟨0,m0,c1,a1,Nat.zero_le _,rfl,rfl,by rw [List.take_zero,encParts_nil,List.append_nil]; exact ho1,hb1⟩
 case round =>
  obtain ⟨k,m,c,ao,hk,rfl,rfl,hor,hbr⟩:=hrel
  have hws:=hbr.size
  have hmb:m≤9+9 * n+2097152:=by
   have h1:=hor.length
   rw [List.length_append] at h1
   have h2:=encParts_len bss k n HL.out HT.out
   have h3:(putN n).length≤9:=by rw [putN,putL_len]; exact cnt_le n (by omega)
   omega
  by_cases hlt:k<n
  ·obtain ⟨b,off,rfl,hb,ak,nk,ck,hc,hrk,hnk⟩:=H0.out.get k hlt
   have hcr:wr.cell? ⟨b,off+k,none⟩=some (.slice ak nk ck):=(hbr.cell (p:=⟨b,off+k,none⟩) hb).trans hc
   clear hc
   have hkl:k<bss.length:=by have:=HL.out; omega
   have hpk:nk≤2097152:=by rw [← hrk.len]; exact part_le bss k hkl HT.out
   have hnki:(nk:Int)≤2097152:=by omega
   go_wp2_with fail
   refine (specPutNum_any (nk:Int) _ (by omega)).mono ?_
   rintro e w2 ⟨a2,c2,rfl,ho2,hb2⟩
   have hp2:putI (nk:Int)=putN nk:=by rw [putI,if_neg (by omega),Int.toNat_natCast]
   rw [hp2] at ho2 ⊢
   have hpn2:(putN nk).length≤9:=by rw [putN,putL_len]; exact cnt_le nk (by omega)
   obtain ⟨m2,hm2⟩:∃ m2,m2=(putN nk).length:=⟨_,rfl⟩
   rw [← hm2] at ho2 hpn2 ⊢
   have hs2:=hb2.size
   have hor2:=hor.kept hb2
   have hbr2:Below w.heap.size w w2:=hbr.trans (hb2.mono hws)
   have hcr2:w2.cell? ⟨b,off+k,none⟩=some (.slice ak nk ck):=(hb2.cell (p:=⟨b,off+k,none⟩) (by show b<_; omega)).trans hcr
   have hrk2:Row w2 ak nk (bss.getD k []):=hrk.kept hbr2
   clear hp2 hm2 hor hbr hb2 hcr
   go_wp2_with (first | (at_builtin; refine wpList_append_row _ rfl (.tmp 14) (.tmp 20) 32 rfl w.heap.size i0 Tryz.underlying32 hi hz0 hz1 hz2 _ _ _ rfl hor2.row a2 m2 c2 (putN nk) rfl ho2.toRow ho2.nil (by omega) (by omega) ?_; intro v3 w3 hv3 hg3; obtain ⟨a3,c3,rfl,ho3⟩:=own_appended (ys:=putN nk) hv3 hor2.byte ho2.byte; have hbr3:Below w.heap.size w w3:=below_appended hbr2 (by omega) hor2.row hg3; have hcr3:w3.cell? ⟨b,off+k,none⟩=some (.slice ak nk ck):=(hbr3.cell (p:=⟨b,off+k,none⟩) hb).trans ((hbr2.cell (p:=⟨b,off+k,none⟩) hb).symm.trans hcr2); have hrk3:Row w3 ak nk (bss.getD k []):=hrk.kept hbr3) | (at_builtin; refine wpList_append_row _ rfl (.tmp 22) (.tmp 26) 32 rfl w.heap.size i0 Tryz.underlying32 hi hz0 hz1 hz2 _ _ _ rfl ho3.row ak nk ck (bss.getD k []) rfl hrk3 hnk (by omega) (by have:=hbr3.size; omega) ?_; intro v4 w4 hv4 hg4))
   obtain ⟨a4,c4,rfl,ho4⟩:=own_appended (ys:=bss.getD k []) hv4 ho3.byte hrk3.byte
   have hbr4:Below w.heap.size w w4:=below_appended hbr3 (by have:=hbr3.size; omega) ho3.row hg4
   have he:putN n++encParts (bss.take k)++putN nk++bss.getD k []=putN n++encParts (bss.take (k+1)):=by rw [encParts_next bss k hkl,hrk3.len]; simp only [List.append_assoc]
   rw [he] at ho4
   go_roundw
   case rel=>exact ⟨k+1,m+m2+nk,c4,a4,by omega,by go_num,rfl,ho4,hbr4⟩
   case measure=>simp [intOf]; omega
  ·have hkn:k=n:=by omega
   subst hkn
   have he:putN k++encParts (bss.take k)=partsL bss:=by rw [List.take_of_length_le (by have:=HL.out; omega),partsL,HL.out]
   rw [he] at hor
   go_wp2_with fail
   refine (specHash_any ao m c (partsL bss) _ hor.toRow (by omega)).mono ?_
   rintro e w5 ⟨rfl,hw5⟩
   subst hw5
   go_wp2
   go_ret
   exact ⟨rfl,hbr⟩
theorem implHashParts_any (a:Option Addr)(n cap:Nat)(bss:List (List Int))(w:World)(h:Rows2 w a n bss)(hn:n≤2097152)(ht:total bss≤2097152) :
  Calls Tryz.prog 276 #[.slice a n cap] w fun e w'=>e=.returned (.int .u64 (hashL (partsL bss)))∧Below w.heap.size w w':=by
 obtain ⟨i0,hi,hz0,hz1,hz2⟩:=info_parts Tryz.info5
 have H0:Hid (Rows2 w a n bss):=h
 have HL:Hid (bss.length=n):=h.len
 have HT:Hid (total bss≤2097152):=ht
 clear h ht
 go_enter Tryz.func276,Tryz.ntmps276
 go_wp2_with fail
 refine (implPutNum_any (n:Int) _ (by omega)).mono ?_
 rintro e w1 ⟨a1,c1,rfl,ho1,hb1⟩
 have hp1:putI (n:Int)=putN n:=by rw [putI,if_neg (by omega),Int.toNat_natCast]
 rw [hp1] at ho1 ⊢
 have hpn:(putN n).length≤9:=by rw [putN,putL_len]; exact cnt_le n (by omega)
 obtain ⟨m0,hm0⟩:∃ m0,m0=(putN n).length:=⟨_,rfl⟩
 rw [← hm0] at ho1 hpn ⊢
 clear hp1 hm0
 go_wp2
 go_loopw [3,11] (fun o i wr=>∃ (k m c:Nat) (ao:Option Addr),k≤n∧i=.int .i64 k∧o=.slice ao m c∧Own w.heap.size wr ao m c (putN n++encParts (bss.take k))∧Below w.heap.size w wr) (fun _ i _=>n - (intOf i).toNat)
 case atStart=>exact ⟨0,m0,c1,a1,Nat.zero_le _,rfl,rfl,by rw [List.take_zero,encParts_nil,List.append_nil]; exact ho1,hb1⟩
 case round =>
  obtain ⟨k,m,c,ao,hk,rfl,rfl,hor,hbr⟩:=hrel
  have hws:=hbr.size
  have hmb:m≤9+9 * n+2097152:=by
   have h1:=hor.length
   rw [List.length_append] at h1
   have h2:=encParts_len bss k n HL.out HT.out
   have h3:(putN n).length≤9:=by rw [putN,putL_len]; exact cnt_le n (by omega)
   omega
  by_cases hlt:k<n
  ·obtain ⟨b,off,rfl,hb,ak,nk,ck,hc,hrk,hnk⟩:=H0.out.get k hlt
   have hcr:wr.cell? ⟨b,off+k,none⟩=some (.slice ak nk ck):=(hbr.cell (p:=⟨b,off+k,none⟩) hb).trans hc
   clear hc
   have hkl:k<bss.length:=by have:=HL.out; omega
   have hpk:nk≤2097152:=by rw [← hrk.len]; exact part_le bss k hkl HT.out
   have hnki:(nk:Int)≤2097152:=by omega
   go_wp2_with fail
   refine (implPutNum_any (nk:Int) _ (by omega)).mono ?_
   rintro e w2 ⟨a2,c2,rfl,ho2,hb2⟩
   have hp2:putI (nk:Int)=putN nk:=by rw [putI,if_neg (by omega),Int.toNat_natCast]
   rw [hp2] at ho2 ⊢
   have hpn2:(putN nk).length≤9:=by rw [putN,putL_len]; exact cnt_le nk (by omega)
   obtain ⟨m2,hm2⟩:∃ m2,m2=(putN nk).length:=⟨_,rfl⟩
   rw [← hm2] at ho2 hpn2 ⊢
   have hs2:=hb2.size
   have hor2:=hor.kept hb2
   have hbr2:Below w.heap.size w w2:=hbr.trans (hb2.mono hws)
   have hcr2:w2.cell? ⟨b,off+k,none⟩=some (.slice ak nk ck):=(hb2.cell (p:=⟨b,off+k,none⟩) (by show b<_; omega)).trans hcr
   have hrk2:Row w2 ak nk (bss.getD k []):=hrk.kept hbr2
   clear hp2 hm2 hor hbr hb2 hcr
   go_wp2_with (first | (at_builtin; refine wpList_append_row _ rfl (.tmp 15) (.tmp 18) 32 rfl w.heap.size i0 Tryz.underlying32 hi hz0 hz1 hz2 _ _ _ rfl hor2.row a2 m2 c2 (putN nk) rfl ho2.toRow ho2.nil (by omega) (by omega) ?_; intro v3 w3 hv3 hg3; obtain ⟨a3,c3,rfl,ho3⟩:=own_appended (ys:=putN nk) hv3 hor2.byte ho2.byte; have hbr3:Below w.heap.size w w3:=below_appended hbr2 (by omega) hor2.row hg3; have hcr3:w3.cell? ⟨b,off+k,none⟩=some (.slice ak nk ck):=(hbr3.cell (p:=⟨b,off+k,none⟩) hb).trans ((hbr2.cell (p:=⟨b,off+k,none⟩) hb).symm.trans hcr2); have hrk3:Row w3 ak nk (bss.getD k []):=hrk.kept hbr3) | (at_builtin; refine wpList_append_row _ rfl (.tmp 20) (.tmp 21) 32 rfl w.heap.size i0 Tryz.underlying32 hi hz0 hz1 hz2 _ _ _ rfl ho3.row ak nk ck (bss.getD k []) rfl hrk3 hnk (by omega) (by have:=hbr3.size; omega) ?_; intro v4 w4 hv4 hg4))
   obtain ⟨a4,c4,rfl,ho4⟩:=own_appended (ys:=bss.getD k []) hv4 ho3.byte hrk3.byte
   have hbr4:Below w.heap.size w w4:=below_appended hbr3 (by have:=hbr3.size; omega) ho3.row hg4
   have he:putN n++encParts (bss.take k)++putN nk++bss.getD k []=putN n++encParts (bss.take (k+1)):=by rw [encParts_next bss k hkl,hrk3.len]; simp only [List.append_assoc]
   rw [he] at ho4
   go_roundw
   case rel=>exact ⟨k+1,m+m2+nk,c4,a4,by omega,by go_num,rfl,ho4,hbr4⟩
   case measure=>simp [intOf]; omega
  ·have hkn:k=n:=by omega
   subst hkn
   have he:putN k++encParts (bss.take k)=partsL bss:=by rw [List.take_of_length_le (by have:=HL.out; omega),partsL,HL.out]
   rw [he] at hor
   go_wp2_with fail
   refine (implHash_any ao m c (partsL bss) _ hor.toRow (by omega)).mono ?_
   rintro e w5 ⟨rfl,hb5⟩
   go_wp2
   go_ret
   exact ⟨rfl,hbr.trans (hb5.mono hws)⟩
theorem implHashAll_any (a:Option Addr)(n cap:Nat)(bss:List (List Int))(w:World)(h:Rows2 w a n bss)(hn:n≤2097152)(ht:total bss≤2097152) :
  Calls Tryz.prog 289 #[.slice a n cap] w fun e w'=>e=.returned (.int .u64 (hashL (partsL bss)))∧Below w.heap.size w w':=by
 have H0:Hid (Rows2 w a n bss):=h
 clear h
 go_enter Tryz.func289,Tryz.ntmps289
 go_wp2_with fail
 refine (implHashParts_any a n cap bss _ H0.out hn ht).mono ?_
 rintro e w1 ⟨rfl,hb1⟩
 go_wp2
 go_ret
 exact ⟨rfl,hb1⟩
open Go.RowKit
def cellsOf (ps:List (Option Addr × Nat × Nat × List Int)):Array Value:=(ps.map fun p=>Value.slice p.1 p.2.1 p.2.2.1).toArray
theorem rows2_lit (w:World)(ps:List (Option Addr × Nat × Nat × List Int))(T:Nat)(h:∀ p∈ps,Row w p.1 p.2.1 p.2.2.2∧(p.1=none→p.2.2.1=0)) :
  Rows2 (w.alloc (.cells (cellsOf ps) T)) (some ⟨w.heap.size,0,none⟩) ps.length (ps.map fun p=>p.2.2.2):=by
 have hb:Below w.heap.size w (w.alloc (.cells (cellsOf ps) T)):=(Below.refl _ _).alloc (Nat.le_refl _) _
 refine ⟨by simp,fun k hk=>⟨w.heap.size,0,rfl,by simp,ps[k].1,ps[k].2.1,ps[k].2.2.1,?_,?_,(h ps[k] (List.getElem_mem hk)).2⟩⟩
 ·rw [Nat.zero_add,cell_of_row _ w.heap.size k _ T _ (heap_alloc_new w _)]
  simp [cellsOf,hk]
 ·have e:(ps.map fun p=>p.2.2.2).getD k []=ps[k].2.2.2:=by simp [hk]
  rw [e]
  exact (h ps[k] (List.getElem_mem hk)).1.kept hb
def wordC (bs:List Int):Array Value:=(bs.map (Value.int .u8)).toArray
theorem row_word (w:World)(bs:List Int)(fr:Nat × Nat)(h:∀ k,0≤bs.getD k 0∧bs.getD k 0≤255):Row (w.alloc (.cells (wordC bs) 5 fr)) (some ⟨w.heap.size,0,none⟩) bs.length bs:=by
 refine ⟨rfl,fun k hk=>⟨w.heap.size,0,rfl,by simp,?_⟩,h⟩
 rw [Nat.zero_add,cell_of_row _ w.heap.size k _ 5 _ (heap_alloc_new w _)]
 simp [wordC,hk]
theorem bytes_of_all {bs:List Int}(h:∀ x∈bs,0≤x∧x≤255):∀ k,0≤bs.getD k 0∧bs.getD k 0≤255:=by
 intro k
 rw [List.getD_eq_getElem?_getD]
 by_cases hk:k<bs.length
 ·rw [List.getElem?_eq_getElem hk]; exact h _ (List.getElem_mem hk)
 ·rw [List.getElem?_eq_none (by omega)]; simp
theorem hashL_bd (bs:List Int):0≤hashL bs∧hashL bs≤18446744073709551615 :=
 ⟨(bits_within .xor .u64 _ _).1,(bits_within .xor .u64 _ _).2⟩
def chW:List Int:=[99,104,97,108,108,101,110,103,101]
theorem chW_byte:∀ k,0≤chW.getD k 0∧chW.getD k 0≤255:=bytes_of_all (by decide)
def chalN (r y:Int)(ms:List Int):Int:=hashL (partsL [chW,putI r,putI y,ms]) % 500000003
theorem chal_total (r y:Int)(ms:List Int)(hr:r≤9223372036854775807)(hy:y≤9223372036854775807)(hn:ms.length≤1048576):total [chW,putI r,putI y,ms]≤2097152:=by
 have h1:=putI_len r hr
 have h2:=putI_len y hy
 simp [total,chW]
 omega
theorem implChallenge_any (r y:Int)(a:Option Addr)(n c:Nat)(ms:List Int)(w:World)(h:Row w a n ms)(hn:n≤1048576)(hc:a=none→c=0)(hr:r≤9223372036854775807)(hy:y≤9223372036854775807) :
  Calls Tryz.prog 273 #[.int .i64 r,.int .i64 y,.slice a n c] w fun e w'=>e=.returned (.int .i64 (chalN r y ms))∧Below w.heap.size w w':=by
 have H0:Hid (Row w a n ms):=h
 have HT:Hid (total [chW,putI r,putI y,ms]≤2097152):=chal_total r y ms hr hy (by rw [h.len]; exact hn)
 clear h
 have hcv:=Lib.run_convert_bytes_const (P:=Tryz.prog) w 32 5 #[.int .u8 99,.int .u8 104,.int .u8 97,.int .u8 108,.int .u8 108,.int .u8 101,.int .u8 110,.int .u8 103,.int .u8 101] 9 9 Tryz.underlying32 Tryz.underlying5
 have hrw:Row (w.alloc (.cells #[.int .u8 99,.int .u8 104,.int .u8 97,.int .u8 108,.int .u8 108,.int .u8 101,.int .u8 110,.int .u8 103,.int .u8 101] 5 (9,10))) (some ⟨w.heap.size,0,none⟩) 9 chW:=row_word w chW (9,10) chW_byte
 have hb0:Below w.heap.size w (w.alloc (.cells #[.int .u8 99,.int .u8 104,.int .u8 97,.int .u8 108,.int .u8 108,.int .u8 101,.int .u8 110,.int .u8 103,.int .u8 101] 5 (9,10))):=(Below.refl _ _).alloc (Nat.le_refl _) _
 go_enter Tryz.func273,Tryz.ntmps273
 go_wp2_with fail
 clear hcv
 obtain ⟨w0,hw0⟩:∃ w0,w0=w.alloc (.cells #[.int .u8 99,.int .u8 104,.int .u8 97,.int .u8 108,.int .u8 108,.int .u8 101,.int .u8 110,.int .u8 103,.int .u8 101] 5 (9,10)):=⟨_,rfl⟩
 rw [← hw0] at hrw hb0 ⊢
 clear hw0
 refine (implPutNum_any r _ hr).mono ?_
 rintro e w1 ⟨a1,c1,rfl,ho1,hb1⟩
 obtain ⟨n1,hn1⟩:∃ n1,n1=(putI r).length:=⟨_,rfl⟩
 rw [← hn1] at ho1 ⊢
 clear hn1
 go_wp2_with fail
 refine (implPutNum_any y _ hy).mono ?_
 rintro e w2 ⟨a2,c2,rfl,ho2,hb2⟩
 obtain ⟨n2,hn2⟩:∃ n2,n2=(putI y).length:=⟨_,rfl⟩
 rw [← hn2] at ho2 ⊢
 clear hn2
 have hs1:=hb1.size
 have B2:Below w0.heap.size w0 w2:=hb1.trans (hb2.mono hs1)
 have B2':Below w.heap.size w w2:=hb0.trans (B2.mono hb0.size)
 have HRS:Hid (Rows2 (w2.alloc (.cells #[.slice (some ⟨w.heap.size,0,none⟩) 9 9,.slice a1 n1 c1,.slice a2 n2 c2,.slice a n c] 32)) (some ⟨w2.heap.size,0,none⟩) 4 [chW,putI r,putI y,ms]):=by
  refine rows2_lit w2 [(some ⟨w.heap.size,0,none⟩,9,9,chW),(a1,n1,c1,putI r),(a2,n2,c2,putI y),(a,n,c,ms)] 32 ?_
  intro p hp
  simp only [List.mem_cons,List.not_mem_nil,or_false] at hp
  rcases hp with rfl | rfl | rfl | rfl
  ·exact ⟨hrw.kept B2,fun h=>by cases h⟩
  ·exact ⟨(ho1.kept hb2).toRow,ho1.nil⟩
  ·exact ⟨ho2.toRow,ho2.nil⟩
  ·exact ⟨H0.out.kept B2',hc⟩
 have B3:Below w.heap.size w (w2.alloc (.cells #[.slice (some ⟨w.heap.size,0,none⟩) 9 9,.slice a1 n1 c1,.slice a2 n2 c2,.slice a n c] 32)):=B2'.alloc B2'.size _
 go_wp2_with fail
 refine (implHashParts_any _ 4 4 [chW,putI r,putI y,ms] _ HRS.out (by decide) HT.out).mono ?_
 rintro e w3 ⟨rfl,hb3⟩
 have HV:Hid (hashL (partsL [chW,putI r,putI y,ms]) % 500000003=chalN r y ms):=rfl
 obtain ⟨hh,hhe⟩:∃ hh,hh=hashL (partsL [chW,putI r,putI y,ms]):=⟨_,rfl⟩
 have hhb:=hashL_bd (partsL [chW,putI r,putI y,ms])
 rw [← hhe] at HV hhb ⊢
 obtain ⟨hh0,hh1⟩:=hhb
 clear hhe
 go_wp2
 go_ret
 exact ⟨by rw [← HV.out]; rfl,B3.trans (hb3.mono B3.size)⟩
theorem specChallenge_any (r y:Int)(a:Option Addr)(n c:Nat)(ms:List Int)(w:World)(h:Row w a n ms)(hn:n≤1048576)(hc:a=none→c=0)(hr:r≤9223372036854775807)(hy:y≤9223372036854775807) :
  Calls Tryz.prog 165 #[.int .i64 r,.int .i64 y,.slice a n c] w fun e w'=>e=.returned (.int .i64 (chalN r y ms))∧Below w.heap.size w w':=by
 have H0:Hid (Row w a n ms):=h
 have HT:Hid (total [chW,putI r,putI y,ms]≤2097152):=chal_total r y ms hr hy (by rw [h.len]; exact hn)
 clear h
 have hcv:=Lib.run_convert_bytes_const (P:=Tryz.prog) w 32 5 #[.int .u8 99,.int .u8 104,.int .u8 97,.int .u8 108,.int .u8 108,.int .u8 101,.int .u8 110,.int .u8 103,.int .u8 101] 9 9 Tryz.underlying32 Tryz.underlying5
 have hrw:Row (w.alloc (.cells #[.int .u8 99,.int .u8 104,.int .u8 97,.int .u8 108,.int .u8 108,.int .u8 101,.int .u8 110,.int .u8 103,.int .u8 101] 5 (9,10))) (some ⟨w.heap.size,0,none⟩) 9 chW:=row_word w chW (9,10) chW_byte
 have hb0:Below w.heap.size w (w.alloc (.cells #[.int .u8 99,.int .u8 104,.int .u8 97,.int .u8 108,.int .u8 108,.int .u8 101,.int .u8 110,.int .u8 103,.int .u8 101] 5 (9,10))):=(Below.refl _ _).alloc (Nat.le_refl _) _
 go_enter Tryz.func165,Tryz.ntmps165
 go_wp2_with fail
 clear hcv
 obtain ⟨w0,hw0⟩:∃ w0,w0=w.alloc (.cells #[.int .u8 99,.int .u8 104,.int .u8 97,.int .u8 108,.int .u8 108,.int .u8 101,.int .u8 110,.int .u8 103,.int .u8 101] 5 (9,10)):=⟨_,rfl⟩
 rw [← hw0] at hrw hb0 ⊢
 clear hw0
 refine (specPutNum_any r _ hr).mono ?_
 rintro e w1 ⟨a1,c1,rfl,ho1,hb1⟩
 obtain ⟨n1,hn1⟩:∃ n1,n1=(putI r).length:=⟨_,rfl⟩
 rw [← hn1] at ho1 ⊢
 clear hn1
 go_wp2_with fail
 refine (specPutNum_any y _ hy).mono ?_
 rintro e w2 ⟨a2,c2,rfl,ho2,hb2⟩
 obtain ⟨n2,hn2⟩:∃ n2,n2=(putI y).length:=⟨_,rfl⟩
 rw [← hn2] at ho2 ⊢
 clear hn2
 have hs1:=hb1.size
 have B2:Below w0.heap.size w0 w2:=hb1.trans (hb2.mono hs1)
 have B2':Below w.heap.size w w2:=hb0.trans (B2.mono hb0.size)
 have HRS:Hid (Rows2 (w2.alloc (.cells #[.slice (some ⟨w.heap.size,0,none⟩) 9 9,.slice a1 n1 c1,.slice a2 n2 c2,.slice a n c] 32)) (some ⟨w2.heap.size,0,none⟩) 4 [chW,putI r,putI y,ms]):=by
  refine rows2_lit w2 [(some ⟨w.heap.size,0,none⟩,9,9,chW),(a1,n1,c1,putI r),(a2,n2,c2,putI y),(a,n,c,ms)] 32 ?_
  intro p hp
  simp only [List.mem_cons,List.not_mem_nil,or_false] at hp
  rcases hp with rfl | rfl | rfl | rfl
  ·exact ⟨hrw.kept B2,fun h=>by cases h⟩
  ·exact ⟨(ho1.kept hb2).toRow,ho1.nil⟩
  ·exact ⟨ho2.toRow,ho2.nil⟩
  ·exact ⟨H0.out.kept B2',hc⟩
 have B3:Below w.heap.size w (w2.alloc (.cells #[.slice (some ⟨w.heap.size,0,none⟩) 9 9,.slice a1 n1 c1,.slice a2 n2 c2,.slice a n c] 32)):=B2'.alloc B2'.size _
 go_wp2_with fail
 refine (specHashAll_any _ 4 4 [chW,putI r,putI y,ms] _ HRS.out (by decide) HT.out).mono ?_
 rintro e w3 ⟨rfl,hb3⟩
 have HV:Hid (hashL (partsL [chW,putI r,putI y,ms]) % 500000003=chalN r y ms):=rfl
 obtain ⟨hh,hhe⟩:∃ hh,hh=hashL (partsL [chW,putI r,putI y,ms]):=⟨_,rfl⟩
 have hhb:=hashL_bd (partsL [chW,putI r,putI y,ms])
 rw [← hhe] at HV hhb ⊢
 obtain ⟨hh0,hh1⟩:=hhb
 clear hhe
 go_wp2
 go_ret
 exact ⟨by rw [← HV.out]; rfl,B3.trans (hb3.mono B3.size)⟩
open Go.RowKit
theorem stab_ge {B g n:Nat}{xs:List GE}(hB:B≤g):Stab B (fun W=>GePre W g n xs):=fun W W' e s h j hj=>by
 obtain ⟨gn,nn,h1,h3,h4⟩:=h j hj
 have hlt:g<W.heap.size:=World.block_lt_of_cell? W _ h3.c0
 exact ⟨gn,nn,h1,h3.of (fun i=>by simp [World.cell?,e g hB hlt]),pts_move (by omega) W W' e s h4⟩
end Go.Proofs.YtmdfbnlgfhjnoaaGreatDoor
