import Derived.Deep.Slices
import Derived.ChangeArms
import Derived.ChangeSlices
import Derived.ProofKit
import Derived.Test.YtkdandggklpppaaGreatDoorFE10
import Derived.Test.YtkdandggklpppaaGreatDoorFE11
import Derived.Test.YtkdandggklpppaaGreatDoorFE08
set_option maxRecDepth 10000
set_option maxHeartbeats 8000000
set_option linter.unusedVariables false
namespace Go.Proofs.YtkdandggklpppaaGreatDoor
open Go.RowKit
structure Rows2 (w:World)(a:Option Addr)(n:Nat)(bss:List (List Int)):Prop where
 len:bss.length=n
 get:∀ k,k<n→∃ b off,a=some ⟨b,off,none⟩∧b<w.heap.size∧∃ ak nk ck,w.cell? ⟨b,off+k,none⟩=some (.slice ak nk ck)∧Row w ak nk (bss.getD k [])∧(ak=none→ck=0)
def total (bss:List (List Int)):Nat:=(bss.map List.length).sum
def encParts (bss:List (List Int)):List Int:=bss.flatMap fun p=>putN p.length++p
def partsL (bss:List (List Int)):List Int:=putN bss.length++encParts bss
theorem encParts_nil:encParts [] = []:=rfl
theorem encParts_append (a b:List (List Int)):encParts (a++b)=encParts a++encParts b:=by simp [encParts,List.flatMap_append]
theorem encParts_next (bss:List (List Int))(k:Nat)(h:k<bss.length):encParts (bss.take (k+1))=encParts (bss.take k)++(putN (bss.getD k []).length++bss.getD k []):=by
 have e:bss.getD k []=bss[k]:=by simp [h]
 rw [List.take_succ_eq_append_getElem h,encParts_append,e]
 simp [encParts]
theorem total_take (bss:List (List Int))(k:Nat):total (bss.take k)≤total bss:=by
 have:total bss=total (bss.take k)+total (bss.drop k):=by
  unfold total
  rw [← List.sum_append,← List.map_append,List.take_append_drop]
 omega
theorem total_split (bss:List (List Int))(k:Nat)(h:k<bss.length):total (bss.take (k+1))=total (bss.take k)+(bss.getD k []).length:=by
 have e:bss.getD k []=bss[k]:=by simp [h]
 rw [List.take_succ_eq_append_getElem h,e]
 unfold total
 rw [List.map_append,List.sum_append]
 rfl
theorem part_le (bss:List (List Int))(k:Nat)(h:k<bss.length){t:Nat}(ht:total bss≤t):(bss.getD k []).length≤t:=by
 have h1:=total_split bss k h
 have h2:=total_take bss (k+1)
 omega
theorem encParts_len1 (bss:List (List Int))(h:∀ p∈bss,p.length<9223372036854775808):(encParts bss).length≤9 * bss.length+total bss:=by
 induction bss with
 | nil=>simp [encParts,total]
 | cons p r ih =>
  have h1:=ih (fun x hx=>h x (List.mem_cons_of_mem _ hx))
  have h2:(putN p.length).length≤9:=by rw [putN,putL_len]; exact cnt_le _ (h p List.mem_cons_self)
  have e:encParts (p::r)=putN p.length++p++encParts r:=rfl
  have e2:total (p::r)=p.length+total r:=by simp [total]
  rw [e,e2,List.length_append,List.length_append,List.length_cons]; omega
theorem encParts_len (bss:List (List Int))(k n:Nat)(hl:bss.length=n)(ht:total bss≤2097152):(encParts (bss.take k)).length≤9 * n+2097152:=by
 have h1:=encParts_len1 (bss.take k) (fun p hp=>by
  obtain ⟨i,hi,rfl⟩:=List.getElem_of_mem (List.mem_of_mem_take hp)
  have:=part_le bss i hi ht
  simp [hi] at this
  omega)
 have h2:=total_take bss k
 have h3:(bss.take k).length≤n:=by rw [List.length_take]; omega
 omega
theorem specHashAll_any (a:Option Addr)(n cap:Nat)(bss:List (List Int))(w:World)(h:Rows2 w a n bss)(hn:n≤2097152)(ht:total bss≤2097152) :
  Calls Tryz.prog 94 #[.slice a n cap] w fun e w'=>e=.returned (.int .u64 (hashL (partsL bss)))∧Below w.heap.size w w':=by
 obtain ⟨i0,hi,hz0,hz1,hz2⟩:=info_parts Tryz.info5
 have H0:Hid (Rows2 w a n bss):=h
 have HL:Hid (bss.length=n):=h.len
 have HT:Hid (total bss≤2097152):=ht
 clear h ht
 go_enter Tryz.func94,Tryz.ntmps94
 go_wp2_with fail
 refine (specPutNum_any (n:Int) _ (by omega)).mono ?_
 rintro e w1 ⟨a1,c1,rfl,ho1,hb1⟩
 have hp1:putI (n:Int)=putN n:=by rw [putI,if_neg (by omega),Int.toNat_natCast]
 rw [hp1] at ho1 ⊢
 have hpn:(putN n).length≤9:=by rw [putN,putL_len]; exact cnt_le n (by omega)
 obtain ⟨m0,hm0⟩:∃ m0,m0=(putN n).length:=⟨_,rfl⟩
 rw [← hm0] at ho1 hpn ⊢
 clear hp1 hm0
 go_wp2
 go_loopw [3,4] (fun o i wr=>∃ (k m c:Nat) (ao:Option Addr),k≤n∧i=.int .i64 k∧o=.slice ao m c∧Own w.heap.size wr ao m c (putN n++encParts (bss.take k))∧Below w.heap.size w wr) (fun _ i _=>n - (intOf i).toNat)
 case atStart=>exact ⟨0,m0,c1,a1,Nat.zero_le _,rfl,rfl,by rw [List.take_zero,encParts_nil,List.append_nil]; exact ho1,hb1⟩
 case round =>
  obtain ⟨k,m,c,ao,hk,rfl,rfl,hor,hbr⟩:=hrel
  have hws:=hbr.size
  have hmb:m≤9+9 * n+2097152:=by
   have h1:=hor.length
   rw [List.length_append] at h1
   have h2:=encParts_len bss k n HL.out HT.out
   have h3:(putN n).length≤9:=by rw [putN,putL_len]; exact cnt_le n (by omega)
   omega
  by_cases hlt:k<n
  ·obtain ⟨b,off,rfl,hb,ak,nk,ck,hc,hrk,hnk⟩:=H0.out.get k hlt
   have hcr:wr.cell? ⟨b,off+k,none⟩=some (.slice ak nk ck):=(hbr.cell (p:=⟨b,off+k,none⟩) hb).trans hc
   clear hc
   have hkl:k<bss.length:=by have:=HL.out; omega
   have hpk:nk≤2097152:=by rw [← hrk.len]; exact part_le bss k hkl HT.out
   have hnki:(nk:Int)≤2097152:=by omega
   go_wp2_with fail
   refine (specPutNum_any (nk:Int) _ (by omega)).mono ?_
   rintro e w2 ⟨a2,c2,rfl,ho2,hb2⟩
   have hp2:putI (nk:Int)=putN nk:=by rw [putI,if_neg (by omega),Int.toNat_natCast]
   rw [hp2] at ho2 ⊢
   have hpn2:(putN nk).length≤9:=by rw [putN,putL_len]; exact cnt_le nk (by omega)
   obtain ⟨m2,hm2⟩:∃ m2,m2=(putN nk).length:=⟨_,rfl⟩
   rw [← hm2] at ho2 hpn2 ⊢
   have hs2:=hb2.size
   have hor2:=hor.kept hb2
   have hbr2:Below w.heap.size w w2:=hbr.trans (hb2.mono hws)
   have hcr2:w2.cell? ⟨b,off+k,none⟩=some (.slice ak nk ck):=(hb2.cell (p:=⟨b,off+k,none⟩) (by show b<_; omega)).trans hcr
   have hrk2:Row w2 ak nk (bss.getD k []):=hrk.kept hbr2
   clear hp2 hm2 hor hbr hb2 hcr
   go_wp2_with (first | (at_builtin; refine wpList_append_row _ rfl (.tmp 14) (.tmp 20) 26 rfl w.heap.size i0 Tryz.underlying26 hi hz0 hz1 hz2 _ _ _ rfl hor2.row a2 m2 c2 (putN nk) rfl ho2.toRow ho2.nil (by omega) (by omega) ?_; intro v3 w3 hv3 hg3; obtain ⟨a3,c3,rfl,ho3⟩:=own_appended (ys:=putN nk) hv3 hor2.byte ho2.byte; have hbr3:Below w.heap.size w w3:=below_appended hbr2 (by omega) hor2.row hg3; have hcr3:w3.cell? ⟨b,off+k,none⟩=some (.slice ak nk ck):=(hbr3.cell (p:=⟨b,off+k,none⟩) hb).trans ((hbr2.cell (p:=⟨b,off+k,none⟩) hb).symm.trans hcr2); have hrk3:Row w3 ak nk (bss.getD k []):=hrk.kept hbr3) | (at_builtin; refine wpList_append_row _ rfl (.tmp 22) (.tmp 26) 26 rfl w.heap.size i0 Tryz.underlying26 hi hz0 hz1 hz2 _ _ _ rfl ho3.row ak nk ck (bss.getD k []) rfl hrk3 hnk (by omega) (by have:=hbr3.size; omega) ?_; intro v4 w4 hv4 hg4))
   obtain ⟨a4,c4,rfl,ho4⟩:=own_appended (ys:=bss.getD k []) hv4 ho3.byte hrk3.byte
   have hbr4:Below w.heap.size w w4:=below_appended hbr3 (by have:=hbr3.size; omega) ho3.row hg4
   have he:putN n++encParts (bss.take k)++putN nk++bss.getD k []=putN n++encParts (bss.take (k+1)):=by rw [encParts_next bss k hkl,hrk3.len]; simp only [List.append_assoc]
   rw [he] at ho4
   go_roundw
   case rel=>exact ⟨k+1,m+m2+nk,c4,a4,by omega,by go_num,rfl,ho4,hbr4⟩
   case measure=>simp [intOf]; omega
  ·have hkn:k=n:=by omega
   subst hkn
   have he:putN k++encParts (bss.take k)=partsL bss:=by rw [List.take_of_length_le (by have:=HL.out; omega),partsL,HL.out]
   rw [he] at hor
   go_wp2_with fail
   refine (specHash_any ao m c (partsL bss) _ hor.toRow (by omega)).mono ?_
   rintro e w5 ⟨rfl,hw5⟩
   subst hw5
   go_wp2
   go_ret
   exact ⟨rfl,hbr⟩
theorem implHashParts_any (a:Option Addr)(n cap:Nat)(bss:List (List Int))(w:World)(h:Rows2 w a n bss)(hn:n≤2097152)(ht:total bss≤2097152) :
  Calls Tryz.prog 159 #[.slice a n cap] w fun e w'=>e=.returned (.int .u64 (hashL (partsL bss)))∧Below w.heap.size w w':=by
 obtain ⟨i0,hi,hz0,hz1,hz2⟩:=info_parts Tryz.info5
 have H0:Hid (Rows2 w a n bss):=h
 have HL:Hid (bss.length=n):=h.len
 have HT:Hid (total bss≤2097152):=ht
 clear h ht
 go_enter Tryz.func159,Tryz.ntmps159
 go_wp2_with fail
 refine (implPutNum_any (n:Int) _ (by omega)).mono ?_
 rintro e w1 ⟨a1,c1,rfl,ho1,hb1⟩
 have hp1:putI (n:Int)=putN n:=by rw [putI,if_neg (by omega),Int.toNat_natCast]
 rw [hp1] at ho1 ⊢
 have hpn:(putN n).length≤9:=by rw [putN,putL_len]; exact cnt_le n (by omega)
 obtain ⟨m0,hm0⟩:∃ m0,m0=(putN n).length:=⟨_,rfl⟩
 rw [← hm0] at ho1 hpn ⊢
 clear hp1 hm0
 go_wp2
 go_loopw [3,11] (fun o i wr=>∃ (k m c:Nat) (ao:Option Addr),k≤n∧i=.int .i64 k∧o=.slice ao m c∧Own w.heap.size wr ao m c (putN n++encParts (bss.take k))∧Below w.heap.size w wr) (fun _ i _=>n - (intOf i).toNat)
 case atStart=>exact ⟨0,m0,c1,a1,Nat.zero_le _,rfl,rfl,by rw [List.take_zero,encParts_nil,List.append_nil]; exact ho1,hb1⟩
 case round =>
  obtain ⟨k,m,c,ao,hk,rfl,rfl,hor,hbr⟩:=hrel
  have hws:=hbr.size
  have hmb:m≤9+9 * n+2097152:=by
   have h1:=hor.length
   rw [List.length_append] at h1
   have h2:=encParts_len bss k n HL.out HT.out
   have h3:(putN n).length≤9:=by rw [putN,putL_len]; exact cnt_le n (by omega)
   omega
  by_cases hlt:k<n
  ·obtain ⟨b,off,rfl,hb,ak,nk,ck,hc,hrk,hnk⟩:=H0.out.get k hlt
   have hcr:wr.cell? ⟨b,off+k,none⟩=some (.slice ak nk ck):=(hbr.cell (p:=⟨b,off+k,none⟩) hb).trans hc
   clear hc
   have hkl:k<bss.length:=by have:=HL.out; omega
   have hpk:nk≤2097152:=by rw [← hrk.len]; exact part_le bss k hkl HT.out
   have hnki:(nk:Int)≤2097152:=by omega
   go_wp2_with fail
   refine (implPutNum_any (nk:Int) _ (by omega)).mono ?_
   rintro e w2 ⟨a2,c2,rfl,ho2,hb2⟩
   have hp2:putI (nk:Int)=putN nk:=by rw [putI,if_neg (by omega),Int.toNat_natCast]
   rw [hp2] at ho2 ⊢
   have hpn2:(putN nk).length≤9:=by rw [putN,putL_len]; exact cnt_le nk (by omega)
   obtain ⟨m2,hm2⟩:∃ m2,m2=(putN nk).length:=⟨_,rfl⟩
   rw [← hm2] at ho2 hpn2 ⊢
   have hs2:=hb2.size
   have hor2:=hor.kept hb2
   have hbr2:Below w.heap.size w w2:=hbr.trans (hb2.mono hws)
   have hcr2:w2.cell? ⟨b,off+k,none⟩=some (.slice ak nk ck):=(hb2.cell (p:=⟨b,off+k,none⟩) (by show b<_; omega)).trans hcr
   have hrk2:Row w2 ak nk (bss.getD k []):=hrk.kept hbr2
   clear hp2 hm2 hor hbr hb2 hcr
   go_wp2_with (first | (at_builtin; refine wpList_append_row _ rfl (.tmp 15) (.tmp 18) 26 rfl w.heap.size i0 Tryz.underlying26 hi hz0 hz1 hz2 _ _ _ rfl hor2.row a2 m2 c2 (putN nk) rfl ho2.toRow ho2.nil (by omega) (by omega) ?_; intro v3 w3 hv3 hg3; obtain ⟨a3,c3,rfl,ho3⟩:=own_appended (ys:=putN nk) hv3 hor2.byte ho2.byte; have hbr3:Below w.heap.size w w3:=below_appended hbr2 (by omega) hor2.row hg3; have hcr3:w3.cell? ⟨b,off+k,none⟩=some (.slice ak nk ck):=(hbr3.cell (p:=⟨b,off+k,none⟩) hb).trans ((hbr2.cell (p:=⟨b,off+k,none⟩) hb).symm.trans hcr2); have hrk3:Row w3 ak nk (bss.getD k []):=hrk.kept hbr3) | (at_builtin; refine wpList_append_row _ rfl (.tmp 20) (.tmp 21) 26 rfl w.heap.size i0 Tryz.underlying26 hi hz0 hz1 hz2 _ _ _ rfl ho3.row ak nk ck (bss.getD k []) rfl hrk3 hnk (by omega) (by have:=hbr3.size; omega) ?_; intro v4 w4 hv4 hg4))
   obtain ⟨a4,c4,rfl,ho4⟩:=own_appended (ys:=bss.getD k []) hv4 ho3.byte hrk3.byte
   have hbr4:Below w.heap.size w w4:=below_appended hbr3 (by have:=hbr3.size; omega) ho3.row hg4
   have he:putN n++encParts (bss.take k)++putN nk++bss.getD k []=putN n++encParts (bss.take (k+1)):=by rw [encParts_next bss k hkl,hrk3.len]; simp only [List.append_assoc]
   rw [he] at ho4
   go_roundw
   case rel=>exact ⟨k+1,m+m2+nk,c4,a4,by omega,by go_num,rfl,ho4,hbr4⟩
   case measure=>simp [intOf]; omega
  ·have hkn:k=n:=by omega
   subst hkn
   have he:putN k++encParts (bss.take k)=partsL bss:=by rw [List.take_of_length_le (by have:=HL.out; omega),partsL,HL.out]
   rw [he] at hor
   go_wp2_with fail
   refine (implHash_any ao m c (partsL bss) _ hor.toRow (by omega)).mono ?_
   rintro e w5 ⟨rfl,hb5⟩
   go_wp2
   go_ret
   exact ⟨rfl,hbr.trans (hb5.mono hws)⟩
theorem implHashAll_any (a:Option Addr)(n cap:Nat)(bss:List (List Int))(w:World)(h:Rows2 w a n bss)(hn:n≤2097152)(ht:total bss≤2097152) :
  Calls Tryz.prog 175 #[.slice a n cap] w fun e w'=>e=.returned (.int .u64 (hashL (partsL bss)))∧Below w.heap.size w w':=by
 have H0:Hid (Rows2 w a n bss):=h
 clear h
 go_enter Tryz.func175,Tryz.ntmps175
 go_wp2_with fail
 refine (implHashParts_any a n cap bss _ H0.out hn ht).mono ?_
 rintro e w1 ⟨rfl,hb1⟩
 go_wp2
 go_ret
 exact ⟨rfl,hb1⟩
open Go.RowKit
theorem eqGoneS_same (a b:Option Addr)(n ca cb:Nat)(xs:List GP)(w:World)(h:Gns w a n xs)(h2:Gns w b n xs) :
  Calls Tryz.prog 23 #[.slice a n ca,.slice b n cb] w fun e w'=>e=.returned (.bool true)∧Below w.heap.size w w':=by
 have HK:Hid (Gns w a n xs):=h
 have HK2:Hid (Gns w b n xs):=h2
 have hn:=h.max
 clear h h2
 go_enter Tryz.func23,Tryz.ntmps23
 go_wp2
 go_loopw [5] (fun i wr=>∃ k:Nat,k≤n∧i=.int .i64 k∧Below w.heap.size w wr) (fun i _=>n - (intOf i).toNat)
 case atStart=>exact ⟨0,Nat.zero_le _,rfl,Below.refl _ _⟩
 case round =>
  obtain ⟨k,hk,rfl,hbr⟩:=hrel
  by_cases hkn:k<n
  ·obtain ⟨b1,off1,an,nn,cn,rfl,hl1,hc1,hp1⟩:=HK.out.get k hkn
   obtain ⟨b2,off2,am,mm,cm,rfl,hl2,hc2,hp2⟩:=HK2.out.get k hkn
   obtain ⟨y,hy⟩:∃ y,y=xs.getD k default:=⟨_,rfl⟩
   rw [← hy] at hc1 hc2 hp1 hp2
   clear hy
   obtain rfl:mm=nn:=by rw [← hp2.len,← hp1.len]
   obtain ⟨c0,c1,c2,c3⟩:=hc1.of (w':=wr) (fun i=>hbr.cell (p:=⟨b1,i,none⟩) hl1)
   obtain ⟨d0,d1,d2,d3⟩:=hc2.of (w':=wr) (fun i=>hbr.cell (p:=⟨b2,i,none⟩) hl2)
   have HP1:Hid (Pts wr.drew an mm y.parts):=hp1.kept hbr.drew
   have HP2:Hid (Pts wr.drew am mm y.parts):=hp2.kept hbr.drew
   have hkni:(k:Int)<(n:Int):=by omega
   have hs:=hbr.size
   clear hc1 hc2 hp1 hp2
   go_wp2_with fail
   go_region_with (go_at_call 59; refine (eqGone_same an am mm cn cm y _ HP1.out HP2.out).mono ?_; rintro e w2 ⟨rfl,hb2⟩)
   all_goals
    have b5:Below w.heap.size w w2:=hbr.drew.trans (hb2.mono hs)
    go_wp2
    go_roundw
    case rel=>exact ⟨k+1,by omega,by go_num,b5⟩
    case measure=>simp [intOf]; omega
  ·go_wp2
   go_ret
   exact ⟨rfl,hbr⟩
structure CP where
 parts:List PT
 num:Int
 base:Int
 tm:Int
 next:Int
 scope:Int
 ind:Bool
 ents:List GP
 sig:List Int
def crv (a1:Option Addr)(n1 c1:Nat)(a2:Option Addr)(n2 c2:Nat)(a3:Option Addr)(n3 c3:Nat)(x:CP):Value:=.agg #[.slice a1 n1 c1,.int .i64 x.num,.int .i64 x.base,.int .i64 x.tm,.int .i64 x.next,.int .i64 x.scope,.bool x.ind,.slice a2 n2 c2,.slice a3 n3 c3]
structure Crs (w:World)(a1:Option Addr)(n1:Nat)(a2:Option Addr)(n2:Nat)(a3:Option Addr)(n3:Nat)(x:CP):Prop where
 nm:Pts w a1 n1 x.parts
 en:Gns w a2 n2 x.ents
 sg:Row w a3 n3 x.sig
 mx:n3≤9223372036854775807
theorem Crs.kept {w w':World}{a1:Option Addr}{n1:Nat}{a2:Option Addr}{n2:Nat}{a3:Option Addr}{n3:Nat}{x:CP}(h:Crs w a1 n1 a2 n2 a3 n3 x)(hb:Below w.heap.size w w'):Crs w' a1 n1 a2 n2 a3 n3 x:=⟨h.nm.kept hb,h.en.kept hb,h.sg.kept hb,h.mx⟩
def CpOk (n1 n2 n3:Nat)(x:CP):Prop:=n1≤1048576∧(∀ k,k<n1→(x.parts.getD k default).val.size≤1048576)∧n2≤1048576∧(∀ k,k<n2→GpOk (x.ents.getD k default))∧n3≤1048576
theorem szByteS_k (a:Option Addr)(n cap:Nat)(l:Int)(w:World)(hl0:0≤l)(hl:l≤1048576)(hn:n≤9223372036854775807) :
  Calls Tryz.prog 12 #[.slice a n cap,.int .i64 l] w fun e w'=>∃ r,e=.returned (.int .i64 r)∧(r<0∨(0≤r∧r≤1048576∧n≤1048576))∧w=w':=by
 by_cases hlt:(n:Int)≤l
 ·go_enter Tryz.func12,Tryz.ntmps12
  go_wp2
  go_ret
  exact ⟨_,rfl,.inr (by omega),rfl⟩
 ·go_enter Tryz.func12,Tryz.ntmps12
  go_wp2
  go_ret
  exact ⟨_,rfl,.inl (by decide),rfl⟩
theorem szCrl_any (a1:Option Addr)(n1 c1:Nat)(a2:Option Addr)(n2 c2:Nat)(a3:Option Addr)(n3 c3:Nat)(x:CP)(lf:Int)(w:World)(h:Crs w a1 n1 a2 n2 a3 n3 x)(hl0:0≤lf)(hl1:lf≤1048576) :
  Calls Tryz.prog 4 #[crv a1 n1 c1 a2 n2 c2 a3 n3 c3 x,.int .i64 lf] w fun e w'=>∃ r,e=.returned (.int .i64 r)∧(r<0∨(0≤r∧r≤1048576∧CpOk n1 n2 n3 x))∧Below w.heap.size w w':=by
 unfold crv
 have HK:Hid (Crs w a1 n1 a2 n2 a3 n3 x):=h
 clear h
 obtain ⟨w0,hw0⟩:∃ w0,w0=w.alloc (.cells #[.slice a1 n1 c1,.int .i64 x.num,.int .i64 x.base,.int .i64 x.tm,.int .i64 x.next,.int .i64 x.scope,.bool x.ind,.slice a2 n2 c2,.slice a3 n3 c3] 28):=⟨_,rfl⟩
 have hb0:Below w.heap.size w w0:=by rw [hw0]; exact (Below.refl _ _).alloc (Nat.le_refl _) _
 have hh0:w0.heap[w.heap.size]? = some (.cells #[.slice a1 n1 c1,.int .i64 x.num,.int .i64 x.base,.int .i64 x.tm,.int .i64 x.next,.int .i64 x.scope,.bool x.ind,.slice a2 n2 c2,.slice a3 n3 c3] 28):=by rw [hw0]; exact heap_alloc_new w _
 have hl0':w.heap.size<w0.heap.size:=(Array.getElem?_eq_some_iff.1 hh0).1
 go_enter Tryz.func4,Tryz.ntmps4
 go_wp2_with fail
 rw [← hw0]
 clear hw0
 refine (szName_any a1 n1 c1 x.parts lf _ (HK.out.kept hb0).nm hl0 hl1).mono ?_
 rintro e w1 ⟨r1,rfl,hr1,hb1⟩
 have B1:Below w.heap.size w w1:=hb0.trans (hb1.mono hb0.size)
 have hh1:=(hb1.block _ hl0').trans hh0
 have c7:w1.cell? ⟨w.heap.size,7,none⟩=some (.slice a2 n2 c2):=(cell_of_row _ _ 7 _ 28 (0,0) hh1).trans rfl
 by_cases hneg:r1<0
 ·clear hr1 hh1 hh0 hb0 hb1
  go_wp2
  go_ret
  exact ⟨_,rfl,.inl (by decide),B1⟩
 ·have hr1':0≤r1∧r1≤1048576:=by omega
  have HR1:Hid (n1≤1048576∧∀ k,k<n1→(x.parts.getD k default).val.size≤1048576):=by rcases hr1 with h | h; exact absurd h hneg; exact h.2.2
  have hl1':w.heap.size<w1.heap.size:=(Array.getElem?_eq_some_iff.1 hh1).1
  have HH1:Hid (_=_):=hh1
  have HB1:Hid (Below w.heap.size w w1):=B1
  clear hr1 hh0 hb0 hb1 hh1 B1
  go_wp2_with fail
  refine (szGoneS_any a2 n2 c2 x.ents r1 _ (HK.out.kept HB1.out).en hr1'.1 hr1'.2).mono ?_
  rintro e w2 ⟨r2,rfl,hr2,hb2⟩
  have B2:Below w.heap.size w w2:=HB1.out.trans (hb2.mono HB1.out.size)
  have hh2:=(hb2.block _ hl1').trans HH1.out
  have c8:w2.cell? ⟨w.heap.size,8,none⟩=some (.slice a3 n3 c3):=(cell_of_row _ _ 8 _ 28 (0,0) hh2).trans rfl
  by_cases hneg2:r2<0
  ·clear hr2 hh2 hb2
   go_wp2
   go_ret
   exact ⟨_,rfl,.inl (by decide),B2⟩
  ·have hr2':0≤r2∧r2≤1048576:=by omega
   have HR2:Hid (n2≤1048576∧∀ k,k<n2→GpOk (x.ents.getD k default)):=by rcases hr2 with h | h; exact absurd h hneg2; exact h.2.2
   have HB2:Hid (Below w.heap.size w w2):=B2
   clear hr2 hh2 hb2 B2
   go_wp2_with fail
   refine (szByteS_k a3 n3 c3 r2 _ hr2'.1 hr2'.2 HK.out.mx).mono ?_
   rintro e w3 ⟨r3,rfl,hr3,rfl⟩
   by_cases hneg3:r3<0
   ·clear hr3
    go_wp2
    go_ret
    exact ⟨_,rfl,.inl (by decide),HB2.out⟩
   ·have hr3':0≤r3∧r3≤1048576:=by omega
    have hn3:n3≤1048576:=by omega
    clear hr3
    go_wp2
    go_ret
    exact ⟨_,rfl,.inr ⟨hr3'.1,hr3'.2,HR1.out.1,HR1.out.2,HR2.out.1,HR2.out.2,hn3⟩,HB2.out⟩
open Go.RowKit
def Stab (B:Nat)(R:World→Prop):Prop:=∀ W W':World,(∀ l,B≤l→l<W.heap.size→W'.heap[l]? = W.heap[l]?)→W.heap.size≤W'.heap.size→R W→R W'
theorem stab_and {B:Nat}{R Q:World→Prop}(h:Stab B R)(k:Stab B Q):Stab B (fun W=>R W∧Q W):=fun W W' e s r=>⟨h W W' e s r.1,k W W' e s r.2⟩
theorem stab_lt (B g:Nat):Stab B (fun W=>g<W.heap.size):=fun _ _ _ s h=>Nat.lt_of_lt_of_le h s
theorem pts_move {B g n:Nat}{xs:List PT}(hB:B≤g)(W W':World)(e:∀ l,B≤l→l<W.heap.size→W'.heap[l]? = W.heap[l]?)(s:W.heap.size≤W'.heap.size)(h:Pts W (some ⟨g,0,none⟩) n xs):Pts W' (some ⟨g,0,none⟩) n xs:=by
 refine ⟨h.len,h.max,fun k hk=>?_⟩
 obtain ⟨b,off,ha,hlt,hc,hn⟩:=h.get k hk
 simp only [Option.some.injEq,Addr.mk.injEq,and_true] at ha
 obtain ⟨rfl,rfl⟩:=ha
 exact ⟨g,0,rfl,Nat.lt_of_lt_of_le hlt s,hc.of (fun i=>by simp [World.cell?,e g hB hlt]),hn⟩
theorem stab_pts {B g n:Nat}{xs:List PT}(hB:B≤g):Stab B (fun W=>Pts W (some ⟨g,0,none⟩) n xs):=fun W W' e s h=>pts_move hB W W' e s h
theorem stab_go {B g n:Nat}{xs:List GP}(hB:B≤g):Stab B (fun W=>GoPre W g n xs):=fun W W' e s h j hj=>by
 obtain ⟨gn,nn,h1,h3,h4⟩:=h j hj
 have hlt:g<W.heap.size:=World.block_lt_of_cell? W _ h3.c0
 exact ⟨gn,nn,h1,h3.of (fun i=>by simp [World.cell?,e g hB hlt]),pts_move (by omega) W W' e s h4⟩
theorem stab_own {B B':Nat}{a:Option Addr}{n cap:Nat}{bs:List Int}(hB:B≤B'):Stab B (fun W=>Own B' W a n cap bs):=fun W W' e s h=>by
 refine ⟨⟨h.row.1,?_⟩,h.byte⟩
 rcases h.row.2 with q | ⟨g,c,cur,h1,hb,hg,r⟩
 ·exact .inl q
 ·exact .inr ⟨g,c,cur,h1,hb,(e g (by omega) (Array.getElem?_eq_some_iff.1 hg).1).trans hg,r⟩
structure TC (w W:World)(a1:Option Addr)(n1 c1:Nat)(a2:Option Addr)(n2 c2:Nat)(a3:Option Addr)(n3 c3:Nat)(x:CP)(R:World→Prop)(vs:Array Value):Prop where
 b0:W.heap[w.heap.size]? = some (.cells #[.slice a1 n1 c1,.int .i64 x.num,.int .i64 x.base,.int .i64 x.tm,.int .i64 x.next,.int .i64 x.scope,.bool x.ind,.slice a2 n2 c2,.slice a3 n3 c3] 28 (0,0))
 b1:W.heap[w.heap.size+1]? = some (.cells #[.slice none 0 0,.int .i64 0,.int .i64 0,.int .i64 0,.int .i64 0,.int .i64 0,.bool false,.slice none 0 0,.slice none 0 0] 39 (0,0))
 b2:W.heap[w.heap.size+1+1]? = some (.cells vs 39 (0,0))
 st:Stab (w.heap.size+3) R
 r:R W
 below:Below w.heap.size w W
 lt:w.heap.size+3≤W.heap.size
theorem TC.set {w W:World}{a1:Option Addr}{n1 c1:Nat}{a2:Option Addr}{n2 c2:Nat}{a3:Option Addr}{n3 c3:Nat}{x:CP}{R:World→Prop}{vs:Array Value}(h:TC w W a1 n1 c1 a2 n2 c2 a3 n3 c3 x R vs){us:Array Value}(j:Nat)(u:Value)(e:vs.setIfInBounds j u=us):TC w (W.setCell ⟨w.heap.size+1+1,j,none⟩ u) a1 n1 c1 a2 n2 c2 a3 n3 c3 x R us:=by
 have f:∀ l,l≠w.heap.size+2→(W.setCell ⟨w.heap.size+1+1,j,none⟩ u).heap[l]? = W.heap[l]?:=fun l hl=>Below.heap_setCell _ _ _ _ (by show l≠w.heap.size+1+1; omega)
 refine ⟨(f _ (by omega)).trans h.b0,(f _ (by omega)).trans h.b1,?_,h.st,h.st W _ (fun l hl _=>f l (by omega)) (by simp) h.r,⟨h.below.os,h.below.tape,h.below.output,by simpa [World.setCell] using h.below.size,fun l hl=>(f l (by omega)).trans (h.below.block l hl)⟩,by simpa [World.setCell] using h.lt⟩
 rw [← e]
 exact heap_setCell_same W (w.heap.size+1+1) j _ 39 u h.b2
theorem TC.on {w W:World}{a1:Option Addr}{n1 c1:Nat}{a2:Option Addr}{n2 c2:Nat}{a3:Option Addr}{n3 c3:Nat}{x:CP}{R:World→Prop}{vs:Array Value}{W':World}(h:TC w W a1 n1 c1 a2 n2 c2 a3 n3 c3 x R vs)(hb:Below W.heap.size W W'):TC w W' a1 n1 c1 a2 n2 c2 a3 n3 c3 x R vs:=by
 have hl:=h.lt
 have hs:=hb.size
 exact ⟨(hb.block _ (by omega)).trans h.b0,(hb.block _ (by omega)).trans h.b1,(hb.block _ (by omega)).trans h.b2,h.st,h.st W W' (fun l _ hl=>hb.block l hl) hs h.r,h.below.trans (hb.mono h.below.size),by omega⟩
theorem TC.more {w W:World}{a1:Option Addr}{n1 c1:Nat}{a2:Option Addr}{n2 c2:Nat}{a3:Option Addr}{n3 c3:Nat}{x:CP}{R:World→Prop}{vs:Array Value}{Q:World→Prop}(h:TC w W a1 n1 c1 a2 n2 c2 a3 n3 c3 x R vs)(s:Stab (w.heap.size+3) Q)(q:Q W):TC w W a1 n1 c1 a2 n2 c2 a3 n3 c3 x Q vs:=⟨h.b0,h.b1,h.b2,s,q,h.below,h.lt⟩
theorem TC.out {w W:World}{a1:Option Addr}{n1 c1:Nat}{a2:Option Addr}{n2 c2:Nat}{a3:Option Addr}{n3 c3:Nat}{x:CP}{R:World→Prop}{vs:Array Value}(h:TC w W a1 n1 c1 a2 n2 c2 a3 n3 c3 x R vs)(j:Nat):W.cell? ⟨w.heap.size+1+1,j,none⟩=vs[j]?∧W.frozen? ⟨w.heap.size+1+1,j,none⟩=false∧W.cell? ⟨w.heap.size,j,none⟩=(#[.slice a1 n1 c1,.int .i64 x.num,.int .i64 x.base,.int .i64 x.tm,.int .i64 x.next,.int .i64 x.scope,.bool x.ind,.slice a2 n2 c2,.slice a3 n3 c3]:Array Value)[j]? :=
 ⟨cell_of_row _ _ j _ 39 (0,0) h.b2,frozen_of_row W _ j _ 39 h.b2,cell_of_row _ _ j _ 28 (0,0) h.b0⟩
open Go.RowKit
theorem eqCrl_same (a1:Option Addr)(n1 c1:Nat)(a2:Option Addr)(n2 c2:Nat)(a3:Option Addr)(n3 c3:Nat)(b1:Option Addr)(d1:Nat)(b2:Option Addr)(d2:Nat)(b3:Option Addr)(d3:Nat)(x:CP)(w:World)(h:Crs w a1 n1 a2 n2 a3 n3 x)(h2:Crs w b1 n1 b2 n2 b3 n3 x)(hm:n3≤1048576) :
  Calls Tryz.prog 9 #[crv a1 n1 c1 a2 n2 c2 a3 n3 c3 x,crv b1 n1 d1 b2 n2 d2 b3 n3 d3 x] w fun e w'=>e=.returned (.bool true)∧Below w.heap.size w w':=by
 have H1:Hid (Crs w a1 n1 a2 n2 a3 n3 x):=h
 have H2:Hid (Crs w b1 n1 b2 n2 b3 n3 x):=h2
 clear h h2
 unfold crv
 obtain ⟨W0,hW0⟩:∃ W0,W0=((w.alloc (.cells #[.slice a1 n1 c1,.int .i64 x.num,.int .i64 x.base,.int .i64 x.tm,.int .i64 x.next,.int .i64 x.scope,.bool x.ind,.slice a2 n2 c2,.slice a3 n3 c3] 39)).alloc (.cells #[.slice b1 n1 d1,.int .i64 x.num,.int .i64 x.base,.int .i64 x.tm,.int .i64 x.next,.int .i64 x.scope,.bool x.ind,.slice b2 n2 d2,.slice b3 n3 d3] 39)):=⟨_,rfl⟩
 have hbl:Below w.heap.size w W0:=by rw [hW0]; exact ((Below.refl _ _).alloc (Nat.le_refl _) _).alloc (by simp) _
 have b0:=two_blocks w (.cells #[.slice a1 n1 c1,.int .i64 x.num,.int .i64 x.base,.int .i64 x.tm,.int .i64 x.next,.int .i64 x.scope,.bool x.ind,.slice a2 n2 c2,.slice a3 n3 c3] 39) (.cells #[.slice b1 n1 d1,.int .i64 x.num,.int .i64 x.base,.int .i64 x.tm,.int .i64 x.next,.int .i64 x.scope,.bool x.ind,.slice b2 n2 d2,.slice b3 n3 d3] 39)
 rw [← hW0] at b0
 have t1:(x.num != x.num)=false:=by simp
 have t2:(x.base != x.base)=false:=by simp
 have t3:(x.tm != x.tm)=false:=by simp
 have t4:(x.next != x.next)=false:=by simp
 have t5:(x.scope != x.scope)=false:=by simp
 have t6:(x.ind != x.ind)=false:=by simp
 go_enter Tryz.func9,Tryz.ntmps9
 go_wp2_with fail
 rw [← hW0]
 clear hW0
 refine (eqName_same a1 b1 n1 c1 d1 x.parts _ (H1.out.kept hbl).nm (H2.out.kept hbl).nm).mono ?_
 rintro e w1 ⟨rfl,hb1⟩
 have l0:=(Array.getElem?_eq_some_iff.1 b0.2).1
 have y0:=(hb1.block _ (by omega)).trans b0.1
 have y1:=(hb1.block _ l0).trans b0.2
 have p1:w1.cell? ⟨w.heap.size,1,none⟩=some (.int .i64 x.num):=(cell_of_row _ _ 1 _ 39 (0,0) y0).trans rfl
 have q1:w1.cell? ⟨w.heap.size+1,1,none⟩=some (.int .i64 x.num):=(cell_of_row _ _ 1 _ 39 (0,0) y1).trans rfl
 have p2:w1.cell? ⟨w.heap.size,2,none⟩=some (.int .i64 x.base):=(cell_of_row _ _ 2 _ 39 (0,0) y0).trans rfl
 have q2:w1.cell? ⟨w.heap.size+1,2,none⟩=some (.int .i64 x.base):=(cell_of_row _ _ 2 _ 39 (0,0) y1).trans rfl
 have p3:w1.cell? ⟨w.heap.size,3,none⟩=some (.int .i64 x.tm):=(cell_of_row _ _ 3 _ 39 (0,0) y0).trans rfl
 have q3:w1.cell? ⟨w.heap.size+1,3,none⟩=some (.int .i64 x.tm):=(cell_of_row _ _ 3 _ 39 (0,0) y1).trans rfl
 have p4:w1.cell? ⟨w.heap.size,4,none⟩=some (.int .i64 x.next):=(cell_of_row _ _ 4 _ 39 (0,0) y0).trans rfl
 have q4:w1.cell? ⟨w.heap.size+1,4,none⟩=some (.int .i64 x.next):=(cell_of_row _ _ 4 _ 39 (0,0) y1).trans rfl
 have p5:w1.cell? ⟨w.heap.size,5,none⟩=some (.int .i64 x.scope):=(cell_of_row _ _ 5 _ 39 (0,0) y0).trans rfl
 have q5:w1.cell? ⟨w.heap.size+1,5,none⟩=some (.int .i64 x.scope):=(cell_of_row _ _ 5 _ 39 (0,0) y1).trans rfl
 have p6:w1.cell? ⟨w.heap.size,6,none⟩=some (.bool x.ind):=(cell_of_row _ _ 6 _ 39 (0,0) y0).trans rfl
 have q6:w1.cell? ⟨w.heap.size+1,6,none⟩=some (.bool x.ind):=(cell_of_row _ _ 6 _ 39 (0,0) y1).trans rfl
 have p7:w1.cell? ⟨w.heap.size,7,none⟩=some (.slice a2 n2 c2):=(cell_of_row _ _ 7 _ 39 (0,0) y0).trans rfl
 have q7:w1.cell? ⟨w.heap.size+1,7,none⟩=some (.slice b2 n2 d2):=(cell_of_row _ _ 7 _ 39 (0,0) y1).trans rfl
 have HB1:Hid (Below w.heap.size w w1):=hbl.trans (hb1.mono hbl.size)
 have Y0:Hid (_=_):=y0
 have Y1:Hid (_=_):=y1
 have l1:w.heap.size+1<w1.heap.size:=(Array.getElem?_eq_some_iff.1 y1).1
 clear hb1 hbl b0 y0 y1 l0
 go_wp2_with fail
 refine (eqGoneS_same a2 b2 n2 c2 d2 x.ents _ (H1.out.kept HB1.out).en (H2.out.kept HB1.out).en).mono ?_
 rintro e w2 ⟨rfl,hb2⟩
 have y0:=(hb2.block _ (by omega)).trans Y0.out
 have y1:=(hb2.block _ l1).trans Y1.out
 clear p1 p2 p3 p4 p5 p6 p7 q1 q2 q3 q4 q5 q6 q7
 have p8:w2.cell? ⟨w.heap.size,8,none⟩=some (.slice a3 n3 c3):=(cell_of_row _ _ 8 _ 39 (0,0) y0).trans rfl
 have q8:w2.cell? ⟨w.heap.size+1,8,none⟩=some (.slice b3 n3 d3):=(cell_of_row _ _ 8 _ 39 (0,0) y1).trans rfl
 have HB2:Hid (Below w.heap.size w w2):=HB1.out.trans (hb2.mono HB1.out.size)
 clear hb2 y0 y1 Y0 Y1 HB1
 go_wp2_with fail
 refine (eqByteS_any a3 b3 n3 n3 c3 d3 x.sig x.sig _ (H1.out.kept HB2.out).sg (H2.out.kept HB2.out).sg (by unfold maxLen; omega) (by unfold maxLen; omega)).mono ?_
 rintro e w3 ⟨rfl,hb3⟩
 have HB3:Hid (Below w.heap.size w w3):=HB2.out.trans (hb3.mono HB2.out.size)
 rw [decide_eq_true (rfl:x.sig=x.sig)]
 clear hb3 HB2 p8 q8
 go_wp2
 go_ret
 exact ⟨rfl,HB3.out⟩
open Go.ChangeShapes Go.WideShapes Go.ChangeAt Go.RowKit
def OpensP (y:PT)(cs:List Value):Prop:=cs = [.int .i64 y.attr,.string y.val]∧y.val.size≤9223372036854775807
set_option maxRecDepth 20000 in
theorem open_part {H:Type}{enc:TypeId × Value→H}{W:World}{fuel:Nat}{cs:List Value}{x:DataW H × List MemPlace}(h:DataW.trod enc Tryz.prog W 0 (fun _=>true) true fuel 102 cs=some x):∃ y,OpensP y cs:=by
 obtain ⟨xs,m,rfl,_,hl,hxl,hf⟩:=DataW.trod_struct Tryz.underlying102 h
 have hl2:cs.length=2:=hl.trans (by kernel_rfl)
 have hx2:xs.length=2:=hxl
 obtain ⟨c0,c1,rfl⟩:∃ c0 c1,cs = [c0,c1]:=by
  match cs,hl2 with
  | [c0,c1],_=>exact ⟨c0,c1,rfl⟩
 obtain ⟨x0,x1,rfl⟩:∃ c0 c1,xs = [c0,c1]:=by
  match xs,hx2 with
  | [c0,c1],_=>exact ⟨c0,c1,rfl⟩
 have e1:Tryz.prog.cellsOf 2=1:=by kernel_rfl
 have e2:Tryz.prog.cellsOf 9=1:=by kernel_rfl
 have f0:DataW.trod enc Tryz.prog W 0 (fun _=>true) true m 2 ((([c0,c1]:List Value).drop 0).take (Tryz.prog.cellsOf 2))=some x0:=hf 0 _ rfl
 rw [e1] at f0
 have f1:DataW.trod enc Tryz.prog W 0 (fun _=>true) true m 9 ((([c0,c1]:List Value).drop 1).take (Tryz.prog.cellsOf 9))=some x1:=hf 1 _ rfl
 rw [e2] at f1
 obtain ⟨n0,h0,_,_⟩:=DataW.trod_int Tryz.underlying2 f0
 obtain ⟨s1,h1,_,hs⟩:=DataW.trod_string Tryz.underlying9 f1
 simp at h0 h1
 subst h0 h1
 exact ⟨⟨n0,s1⟩,rfl,by unfold maxLen at hs; show s1.size≤_; omega⟩
set_option maxRecDepth 20000 in
theorem open_parts {H:Type}{enc:TypeId × Value→H}{W:World}{fuel:Nat}{cs:List Value}{x:DataW H × List MemPlace}(h:DataW.trod enc Tryz.prog W 0 (fun _=>true) true fuel 22 cs=some x):∃ a n c xs,cs = [.slice a n c]∧Pts W a n xs:=by
 rcases DataW.trod_slice Tryz.underlying22 h with ⟨rfl,_⟩ | ⟨a,len,cap,elems,rest,n,rfl,rfl,_,_,hl,hm,hlen,hel,_,_⟩
 ·exact ⟨none,0,0,[],rfl,⟨rfl,by decide,fun k hk=>absurd hk (by omega)⟩⟩
 ·have ec:Tryz.prog.cellsOf 102=2:=by kernel_rfl
  rw [ec] at hel
  have each:∀ i,i<len→∃ y:PT,∃ cs',W.cells? 0 (a.add (i * 2)) 2=some cs'∧OpensP y cs':=by
   intro i hi
   have he:=hel i hi
   rw [List.getElem?_eq_getElem (by omega)] at he
   cases hc:W.cells? 0 (a.add (i * 2)) 2 with
   | none=>rw [hc] at he; cases he
   | some cs' =>
    rw [hc] at he
    obtain ⟨y,hy⟩:=open_part he
    exact ⟨y,cs',rfl,hy⟩
  obtain ⟨y,hy⟩:=Go.Deep.choose_lt each
  have hm':len≤9223372036854775807:=by unfold maxLen at hm; omega
  refine ⟨some a,len,cap,(List.range len).map y,rfl,⟨by simp,hm',fun k hk=>?_⟩⟩
  obtain ⟨cs',hcs,rfl,hnk⟩:=hy k hk
  obtain ⟨_,_,hcell⟩:=World.cells?_some hcs
  obtain ⟨b,off,spot⟩:=a
  have hs:spot=none:=by
   obtain ⟨cs0,hcs0,_⟩:=hy 0 (by omega)
   obtain ⟨_,hl0,hcell0⟩:=World.cells?_some hcs0
   have h00:=hcell0 0 (by omega)
   rw [List.getElem?_eq_getElem (by omega)] at h00
   simpa [Addr.add] using World.cell?_spot h00
  subst hs
  have ey:((List.range len).map y).getD k default=y k:=by simp [hk]
  rw [ey]
  have cc:∀ j,j<2→W.cell? ⟨b,off+k * 2+j,none⟩ = [Value.int .i64 (y k).attr,.string (y k).val][j]?:=by
   intro j hj
   have:=hcell j hj
   rw [Addr.add_lit,Addr.add_lit] at this
   exact this
  exact ⟨b,off,rfl,World.block_lt_of_cell? W _ (cc 0 (by omega)),⟨cc 0 (by omega),cc 1 (by omega)⟩,hnk⟩
set_option maxRecDepth 20000 in
theorem open_name {H:Type}{enc:TypeId × Value→H}{W:World}{fuel:Nat}{cs:List Value}{x:DataW H × List MemPlace}(h:DataW.trod enc Tryz.prog W 0 (fun _=>true) true fuel 24 cs=some x):∃ a n c xs,cs = [.slice a n c]∧Pts W a n xs:=by
 obtain ⟨xs,m,rfl,_,hl,hxl,hf⟩:=DataW.trod_struct Tryz.underlying24 h
 have hl2:cs.length=1:=hl.trans (by kernel_rfl)
 have hx2:xs.length=1:=hxl
 obtain ⟨c0,rfl⟩:∃ c0,cs = [c0]:=by
  match cs,hl2 with
  | [c0],_=>exact ⟨c0,rfl⟩
 obtain ⟨x0,rfl⟩:∃ c0,xs = [c0]:=by
  match xs,hx2 with
  | [c0],_=>exact ⟨c0,rfl⟩
 have e1:Tryz.prog.cellsOf 22=1:=by kernel_rfl
 have f0:DataW.trod enc Tryz.prog W 0 (fun _=>true) true m 22 ((([c0]:List Value).drop 0).take (Tryz.prog.cellsOf 22))=some x0:=hf 0 _ rfl
 rw [e1] at f0
 exact open_parts f0
end Go.Proofs.YtkdandggklpppaaGreatDoor
