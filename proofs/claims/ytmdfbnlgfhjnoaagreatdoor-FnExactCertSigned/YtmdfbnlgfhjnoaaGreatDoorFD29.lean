import Derived.Deep.RegionHeld3
import Derived.Lib.QuietBelow
import Derived.Test.YtmdfbnlgfhjnoaaGreatDoorFD28
set_option maxRecDepth 10000
set_option maxHeartbeats 8000000
set_option linter.unusedVariables false
namespace Go.Proofs.YtmdfbnlgfhjnoaaGreatDoor
open Go.RowKit
theorem implItemBytes_any (d:Nat)(x:It)(ab:Option Addr)(nb cb:Nat)(ak:Option Addr)(nk ck:Nat)(w:World)(hrow:Row w ab nb x.body)(hnil:ab=none→cb=0)(hnb:nb≤9223372036854775807)(hk:Kids d w ak nk x.kids) :
  Calls Tryz.prog 45 #[itv x ab nb cb ak nk ck] w fun e w'=>AnsI w.heap.size (enc 12 x) e w'∧Below w.heap.size w w':=by
 have hbl:Below w.heap.size w (w.alloc (.cells #[.int .i64 x.cls,.int .i64 x.tag,.bool x.cons,.slice ab nb cb,.slice ak nk ck] 75)):=(Below.refl _ _).alloc (Nat.le_refl _) _
 have HS:Hid (_):=bytesAt_all d 12 1 x ab nb cb ak nk ck _ (by decide) (by decide) (hrow.kept hbl) hnil hnb (hk.kept hbl)
 clear hrow hk hnb hnil
 unfold itv
 go_enter Tryz.func45,Tryz.ntmps45
 go_wp2_with fail
 refine Calls.mono HS.out ?_
 rintro e w1 ⟨hans,hb1⟩
 have hb1':Below w.heap.size w w1:=hbl.trans (hb1.mono hbl.size)
 clear hb1
 rcases hans with ⟨a2,n2,c2,bs2,rfl,he2,ho2⟩ | ⟨rfl,he2⟩
 ·have HO:Hid (Own w.heap.size w1 a2 n2 c2 bs2):=ho2.mono hbl.size
  clear ho2
  go_wp2
  go_ret2
  exact ⟨.inl ⟨a2,n2,c2,bs2,rfl,he2,HO⟩,hb1'⟩
 ·go_wp2
  go_ret2
  exact ⟨.inr ⟨rfl,he2⟩,hb1'⟩
theorem numberItem_agg (n:Int)(w:World)(h0 : -9223372036854775808≤n)(h1:n≤9223372036854775807) :
  Calls Tryz.prog 101 #[.int .i64 n] w fun e w'=>∃ g k,e=.returned (.agg #[.int .i64 0,.int .i64 2,.bool false,.slice (some ⟨g,k,none⟩) (wsz n) (wsz n),.slice none 0 0])∧w.heap.size≤g∧Row w' (some ⟨g,k,none⟩) (wsz n) (wbL n)∧Below w.heap.size w w':=numberItem_any n w h0 h1
theorem digestItem_agg (v:Int)(w:World)(h0:0≤v)(h1:v≤18446744073709551615) :
  Calls Tryz.prog 155 #[.int .u64 v] w fun e w'=>∃ g,e=.returned (.agg #[.int .i64 0,.int .i64 4,.bool false,.slice (some ⟨g,0,none⟩) 8 8,.slice none 0 0])∧w.heap.size≤g∧Row w' (some ⟨g,0,none⟩) 8 (eightI v)∧Below w.heap.size w w':=digestItem_any v w h0 h1
theorem ownItem_agg (tag:Int)(a:Option Addr)(n c:Nat)(w:World) :
  Calls Tryz.prog 59 #[.int .i64 tag,.slice a n c] w fun e w'=>e=.returned (.agg #[.int .i64 1,.int .i64 tag,.bool true,.slice none 0 0,.slice a n c])∧Below w.heap.size w w':=ownItem_any tag a n c [] w
theorem l9Num_agg (n:Int)(w:World):Calls Tryz.prog 81 #[.int .i64 n] w fun e w'=>∃ a c,e=.returned (.agg #[.int .i64 0,.int .i64 2,.bool false,.slice a (wsz n) c,.slice none 0 0])∧Own (w.heap.size+1) w' a (wsz n) c (wbL n)∧Below w.heap.size w w':=l9Num_any n w
theorem l9Bytes_agg (a:Option Addr)(n c:Nat)(bs:List Int)(w:World)(h:Row w a n bs)(hc:a=none→c=0)(hn:n≤1000):Calls Tryz.prog 83 #[.slice a n c] w fun e w'=>∃ a c,e=.returned (.agg #[.int .i64 0,.int .i64 4,.bool false,.slice a n c,.slice none 0 0])∧Own (w.heap.size+1) w' a n c bs∧Below w.heap.size w w':=l9Bytes_any a n c bs w h hc hn
open Go.RowKit
theorem cell_one64 (w:World)(x:Int):∀ jj uu,([x].map (Value.int .i64))[jj]? = some uu→(w.alloc (.cells #[.int .i64 x] 2)).cell? ((⟨w.heap.size,0,none⟩:Addr).add jj)=some uu:=by
 intro jj uu hju
 rw [Addr.add_lit,Nat.zero_add,cell_of_row _ w.heap.size jj _ 2 _ (heap_alloc_new w _),← hju]
 simp
theorem cell_two64 (w:World)(x y:Int):∀ jj uu,([x,y].map (Value.int .i64))[jj]? = some uu→(w.alloc (.cells #[.int .i64 x,.int .i64 y] 2)).cell? ((⟨w.heap.size,0,none⟩:Addr).add jj)=some uu:=by
 intro jj uu hju
 rw [Addr.add_lit,Nat.zero_add,cell_of_row _ w.heap.size jj _ 2 _ (heap_alloc_new w _),← hju]
 simp
theorem slice_of_owns {B:Nat}{w:World}{v:Value}{n:Nat}{xs:List Value}{t:TypeId}(h:w.ownsRow B t 1 v n xs):∃ a cap,v=.slice a n cap:=by
 rcases h.2 with ⟨rfl,rfl⟩ | ⟨g,cap,cur,rfl,_⟩
 ·exact ⟨_,_,rfl⟩
 ·exact ⟨_,_,rfl⟩
theorem row64_of_owns {B:Nat}{w:World}{a:Option Addr}{n cap:Nat}{zs:List Int}(h:w.ownsRow B 2 1 (.slice a n cap) n (zs.map (Value.int .i64))):Row64 w a n zs:=by
 have hl:zs.length=n:=by simpa using h.1
 refine ⟨hl,fun k hk=>?_⟩
 rcases h.2 with ⟨_,h0⟩ | ⟨g,cap',cur,hv,hb,hg,r⟩
 ·omega
 ·simp only [Value.slice.injEq] at hv
  obtain ⟨rfl,_,rfl⟩:=hv
  refine ⟨g,0,rfl,(Array.getElem?_eq_some_iff.1 hg).1,?_⟩
  rw [Nat.zero_add,World.ownsRow.cellAt h k (by omega)]
  simp [show k<zs.length by omega]
theorem pow_16 (k:Nat):(2:Int) ^ (4 * k)=(16:Int) ^ k:=by rw [Int.pow_mul]; rfl
theorem l8Digits_any (a:Option Addr)(n c:Nat)(bs:List Int)(w:World)(hr:Row w a n bs)(hn:n≤1000000000000) :
  Calls Tryz.prog 166 #[.slice a n c] w fun e w'=>∃ ad cd,e=.returned (.slice ad 18 cd)∧Row64 w' ad 18 (diL (hashL bs))∧Below w.heap.size w w':=by
 obtain ⟨i0,hi,hz0,hz1,hz2⟩:=info_parts Tryz.info2
 have hU:=hashL_bd bs
 obtain ⟨h,hh⟩:∃ h,h=hashL bs:=⟨_,rfl⟩
 have HH:Hid (hashL bs=h):=hh.symm
 rw [← hh] at hU ⊢
 clear hh
 have hoe:(w.alloc (.cells #[] 2)).ownsRow w.heap.size 2 1 (.slice (some ⟨w.heap.size,0,none⟩) 0 0) 0 []:=World.ownsRow_lit w #[] 0 (Nat.le_refl _) (Nat.zero_le _) rfl
 have hbe:Below w.heap.size w (w.alloc (.cells #[] 2)):=(Below.refl _ _).alloc (Nat.le_refl _) _
 go_enter Tryz.func166,Tryz.ntmps166
 go_upto_region 1 with fail
 go_wp2_with fail
 refine (specHash_any a n c bs _ hr hn).mono ?_
 rintro e w1 ⟨rfl,hw1⟩
 have hw2:=hw1.symm
 subst hw2
 rw [HH.out]
 clear hr HH
 go_wp2
 go_loopw [4,5,6,7] (fun o s i _ wr=>∃ (ao:Option Addr) (q len cap:Nat) (y:Int),q≤16∧len=16 - q∧i=.int .i64 ((q:Int) - 1)∧o=.slice ao len cap∧s=.int .i64 y∧Hid (y=sumU h (16 - q))∧wr.ownsRow w.heap.size 2 1 (.slice ao len cap) len (((diL h).take (16 - q)).map (Value.int .i64))∧Below w.heap.size w wr) (fun _ _ i _ _=>((intOf i)+1).toNat)
 case atStart=>exact ⟨_,16,0,0,0,Nat.le_refl _,rfl,rfl,rfl,rfl,rfl,hoe,hbe⟩
 case round =>
  obtain ⟨ao,q,len,cap,y,hq,hle,rfl,rfl,rfl,HY,hor,hbr⟩:=hrel
  have HLe:Hid (len=16 - q):=hle
  clear hle hoe hbe
  have hws:w.heap.size≤wr.heap.size:=hbr.size
  rcases q with _ | q
  ·obtain rfl:len=16:=HLe.out
   have hy:=sumU_bd h 16
   have HY2:Hid (y=sumF h 16):=by show _=_; rw [HY.out,← sum_same h]
   rw [← show y=sumU h 16 from HY.out] at hy
   obtain ⟨hy0,hy1⟩:=hy
   have hal:Below wr.heap.size wr (wr.alloc (.cells #[.int .i64 (y / 16),.int .i64 (y % 16)] 2)):=(Below.refl _ _).alloc (Nat.le_refl _) _
   have hor4:=ownsRow_below hor hal
   have hbr4:=keepT hbr hal
   have hcl:=cell_two64 wr (y / 16) (y % 16)
   have t1:y.tdiv 16=y / 16:=Int.tdiv_eq_ediv_of_nonneg hy0
   have t2:y.tmod 16=y % 16:=Int.tmod_eq_emod_of_nonneg hy0
   clear hal
   go_wp2_with (first | (at_builtin; refine wpList_append_own _ rfl (.tmp 30) (.tmp 35) 29 rfl w.heap.size 2 i0 _ 1 8 Tryz.underlying29 hi hz0 hz1 hz2 rfl (by decide) _ 16 _ rfl hor4 ⟨wr.heap.size,0,none⟩ 2 2 ([y / 16,y % 16].map (Value.int .i64)) rfl rfl hcl (ints_oneCell .i64 [y / 16,y % 16]) (by unfold maxLen; omega) (by omega) (by have:=hbr4.size; exact this) ?_; intro v5 w5 hv5 hg5 _))
   have hbr5:Below w.heap.size w w5:=hbr4.grown hg5 hbr4.size (fun k hk=>(hor4.lt k hk).1)
   have e1:((diL h).take (16 - 0)).map (Value.int .i64)++[y / 16,y % 16].map (Value.int .i64)=(diL h).map (Value.int .i64):=by
    rw [← List.map_append]
    congr 1
    rw [HY2.out]
    rfl
   rw [e1] at hv5
   obtain ⟨a5,c5,rfl⟩:=slice_of_owns hv5
   go_wp2
   go_ret
   exact ⟨a5,⟨c5,rfl⟩,row64_of_owns hv5,hbr5⟩
  ·have e1:((q+1:Nat):Int) - 1=(q:Int):=by omega
   rw [e1]
   clear e1
   have hq16:q<16:=by omega
   have hl9:len≤18:=by have:=HLe.out; omega
   have hx0:0≤h / 2 ^ (4 * q):=Int.ediv_nonneg hU.1 (Int.le_of_lt (Int.pow_pos (by decide)))
   have hx1:h / 2 ^ (4 * q)≤18446744073709551615:=Int.le_trans (Int.ediv_le_self _ hU.1) hU.2
   have ha:=and15 _ hx0 hx1
   have hdd:h / 2 ^ (4 * q) % 16=digI h (15 - q):=by unfold digI; rw [show 15 - (15 - q)=q by omega,pow_16]
   obtain ⟨d,hd⟩:∃ d,d=digI h (15 - q):=⟨_,rfl⟩
   have hdb:=digI_bd h (15 - q)
   rw [hdd,← hd] at ha
   rw [← hd] at hdb
   obtain ⟨hd0,hd1⟩:=hdb
   have HD:Hid (d=digI h (15 - q)):=hd
   clear hd hdd hx0 hx1
   have hyb:=sumU_bd h (16 - (q+1))
   rw [← show y=sumU h (16 - (q+1)) from HY.out] at hyb
   obtain ⟨hy0,hy1⟩:=hyb
   have hy2:y≤1000:=by omega
   clear hy1
   have hal:Below wr.heap.size wr (wr.alloc (.cells #[.int .i64 d] 2)):=(Below.refl _ _).alloc (Nat.le_refl _) _
   have hor4:=ownsRow_below hor hal
   have hbr4:=keepT hbr hal
   have hcl:=cell_one64 wr d
   clear hal hor
   go_wp2_with (first | (at_builtin; refine wpList_append_own _ rfl (.tmp 22) (.tmp 24) 29 rfl w.heap.size 2 i0 _ 1 8 Tryz.underlying29 hi hz0 hz1 hz2 rfl (by decide) _ len _ rfl hor4 ⟨wr.heap.size,0,none⟩ 1 1 ([d].map (Value.int .i64)) rfl rfl hcl (ints_oneCell .i64 [d]) (by unfold maxLen; omega) (by omega) (by have:=hbr4.size; exact this) ?_; intro v5 w5 hv5 hg5 _))
   have hbr5:Below w.heap.size w w5:=hbr4.grown hg5 hbr4.size (fun k hk=>(hor4.lt k hk).1)
   have e1:((diL h).take (16 - (q+1))).map (Value.int .i64)++[d].map (Value.int .i64)=((diL h).take (16 - q)).map (Value.int .i64):=by
    rw [← List.map_append]
    congr 1
    have hg:(diL h).getD (16 - (q+1)) 0=d:=by rw [HD.out,show 16 - (q+1)=15 - q by omega,List.getD_eq_getElem?_getD,diL,List.getElem?_append_left (by simp; omega),List.getElem?_map,List.getElem?_range (by omega)]; rfl
    rw [show 16 - q=16 - (q+1)+1 by omega,take_snoc _ _ (by rw [diL_len]; omega),hg]
   rw [e1] at hv5
   obtain ⟨a5,c5,rfl⟩:=slice_of_owns hv5
   clear hor4 hbr4 hcl hg5
   go_roundw
   case rel=>exact ⟨a5,q,len+1,c5,_,by omega,by have:=HLe.out; omega,rfl,rfl,rfl,by show _=_; rw [HY.out,show 16 - q=16 - (q+1)+1 by omega,sumU,HD.out,show 16 - (q+1)=15 - q by omega]; omega,hv5,hbr5⟩
   case measure=>simp [intOf]
open Go.RowKit
def climb (v:Int)(L:Nat)(ps:List Int):Nat→Int
 | 0=>v
 | k+1=>if L / 2 ^ k % 2=0 then hashD ndW [climb v L ps k,ps.getD k 0] else hashD ndW [ps.getD k 0,climb v L ps k]
theorem climb_bd (v:Int)(hv:U64 v)(L:Nat)(ps:List Int)(k:Nat):U64 (climb v L ps k):=by
 cases k with
 | zero=>exact hv
 | succ k=>rw [climb]; split <;> exact hashD_bd _ _
theorem rootFrom_any (v:Int)(L:Nat)(a:Option Addr)(n c:Nat)(ps:List Int)(w:World)(hv:U64 v)(hL:L≤1000)(hr:RowU w a n ps)(hn:n≤1000) :
  Calls Tryz.prog 287 #[.int .u64 v,.int .i64 L,.slice a n c] w fun e w'=>e=.returned (.int .u64 (climb v L ps n))∧Below w.heap.size w w':=by
 have HV:Hid (U64 v):=hv
 have H0:Hid (RowU w a n ps):=hr
 clear hv hr
 have HND:Hid (strL ⟨#[110,111,100,101]⟩=ndW):=by show _=_; decide
 go_enter Tryz.func287,Tryz.ntmps287
 go_wp2
 go_loopw [0,1,8,11] (fun d l _ i wr=>∃ (k m:Nat) (x:Int),k≤n∧i=.int .i64 k∧d=.int .u64 x∧l=.int .i64 m∧m≤1000∧Hid (m=L / 2 ^ k)∧Hid (x=climb v L ps k)∧Below w.heap.size w wr) (fun _ _ _ i _=>n - (intOf i).toNat)
 case atStart=>exact ⟨0,L,v,Nat.zero_le _,rfl,rfl,rfl,hL,by show _=_; simp,rfl,Below.refl _ _⟩
 case round =>
  obtain ⟨k,m,x,hk,rfl,rfl,rfl,hm,HM,HX,hbr⟩:=hrel
  by_cases hlt:k<n
  ·have hlti:(k:Int)<(n:Int):=by omega
   obtain ⟨b,off,rfl,hlb,hc0⟩:=H0.out.get k hlt
   have hcell:wr.cell? ⟨b,off+k,none⟩=some (.int .u64 (ps.getD k 0)):=(hbr.cell (p:=⟨b,off+k,none⟩) hlb).trans hc0
   have hpb:=H0.out.rng k
   obtain ⟨p,hp⟩:∃ p,p=ps.getD k 0:=⟨_,rfl⟩
   have HPP:Hid (ps.getD k 0=p):=hp.symm
   rw [← hp] at hcell hpb
   have hxb:U64 x:=by rw [HX.out]; exact climb_bd v HV.out L ps k
   have ham:=and1 (m:Int) (by omega) (by omega)
   have HM2:Hid (((m / 2:Nat):Int)=(m:Int) / 2):=by show _=_; omega
   have HM3:Hid (m / 2=L / 2 ^ (k+1)):=by show _=_; rw [HM.out,Nat.pow_succ,Nat.div_div_eq_div_mul]
   clear hc0 hp
   have hdr:Below wr.heap.size wr (wr.alloc (.cells #[.int .u64 x,.int .u64 p] 25)):=(Below.refl _ _).alloc (Nat.le_refl _) _
   have hdr2:Below wr.heap.size wr (wr.alloc (.cells #[.int .u64 p,.int .u64 x] 25)):=(Below.refl _ _).alloc (Nat.le_refl _) _
   by_cases he:m % 2=0
   ·have hmi:(m:Int) % 2=0:=by omega
    have HN:Hid (hashD ndW [x,p]=climb v L ps (k+1)):=by show _=_; rw [climb,← HM.out,if_pos he,← HX.out,HPP.out]
    go_wp2_with fail
    refine (hashDigests_any _ _ 2 2 [x,p] _ (rowU_lit2 wr x p hxb hpb) (by decide) (by decide)).mono ?_
    rintro e w3 ⟨rfl,hb3⟩
    rw [HND.out,HN.out]
    go_wp2
    rw [← HM2.out]
    go_roundw
    case rel=>exact ⟨k+1,m / 2,_,by omega,by go_num,rfl,rfl,by omega,HM3,rfl,keepT hbr (keepT hdr hb3)⟩
    case measure=>simp [intOf]; omega
   ·have hmi:(m:Int) % 2=1:=by omega
    have HN:Hid (hashD ndW [p,x]=climb v L ps (k+1)):=by show _=_; rw [climb,← HM.out,if_neg he,← HX.out,HPP.out]
    go_wp2_with fail
    refine (hashDigests_any _ _ 2 2 [p,x] _ (rowU_lit2 wr p x hpb hxb) (by decide) (by decide)).mono ?_
    rintro e w3 ⟨rfl,hb3⟩
    rw [HND.out,HN.out]
    go_wp2
    rw [← HM2.out]
    go_roundw
    case rel=>exact ⟨k+1,m / 2,_,by omega,by go_num,rfl,rfl,by omega,HM3,rfl,keepT hbr (keepT hdr2 hb3)⟩
    case measure=>simp [intOf]; omega
  ·obtain rfl:k=n:=by omega
   go_wp2
   go_ret
   exact ⟨by rw [HX.out]; rfl,hbr⟩
open Go.RowKit
theorem run_index_vA (w:World)(l:List Int)(hl:l.length=18)(k:Nat)(hk:k<18):(Instr.index 280 (.agg (vA l)) (.int .i64 (k:Int))).run Tryz.prog w=.ok (.int .i64 (l.getD k 0)) w:=by
 have h1:0≤(k:Int)∧(k:Int)<((18:Nat):Int):=by omega
 have h3:(vA l)[k]? = some (.int .i64 (l.getD k 0)):=by rw [vA_get,List.getElem?_eq_getElem (by omega)]; simp [show k<l.length by omega]
 simp [Instr.index,run_underlying Tryz.underlying280,asIntOf,h1,part,go_sem]
 rw [if_pos hk,h3]
 simp
def tsv (leaf:Int)(ae:Option Addr)(ne ce:Nat)(ap:Option Addr)(np cp:Nat):Value:=.agg #[.int .i64 leaf,.slice ae ne ce,.slice ap np cp]
def endV (bs ez:List Int)(i:Nat):Int:=stepsN (ez.getD i 0) (15 - (diL (hashL bs)).getD i 0).toNat
def endVs (bs ez:List Int):List Int:=(List.range 18).map (endV bs ez)
theorem endVs_len (bs ez:List Int):(endVs bs ez).length=18:=by simp [endVs]
theorem endVs_get (bs ez:List Int)(d:Nat)(h:d<18):(endVs bs ez).getD d 0=endV bs ez d:=by simp [endVs,h]
theorem endVs_bd (bs ez:List Int)(hz:∀ k,U64 (ez.getD k 0)):∀ k,U64 ((endVs bs ez).getD k 0):=by
 intro k
 by_cases h:k<18
 ·rw [endVs_get bs ez k h]; exact stepsN_bd _ (hz k) _
 ·rw [List.getD_eq_getElem?_getD,List.getElem?_eq_none (by rw [endVs_len]; omega)]; simp [U64]
def tvP (root h:Int)(bs:List Int)(leaf:Int)(ez pz:List Int):Prop:=(0≤h∧h≤5)∧(0≤leaf∧leaf≤((2 ^ h.toNat:Nat):Int) - 1)∧ez.length=18∧(pz.length:Int)=h∧climb (hashD leW (endVs bs ez)) leaf.toNat pz pz.length=root
instance (root h:Int) (bs:List Int) (leaf:Int) (ez pz:List Int):Decidable (tvP root h bs leaf ez pz):=by unfold tvP; infer_instance
theorem implTreeVerify_any (root h:Int)(am:Option Addr)(n c:Nat)(bs:List Int)(leaf:Int)(ae:Option Addr)(ne ce:Nat)(ez:List Int)(ap:Option Addr)(np cp:Nat)(pz:List Int)(w:World)
  (hr:Row w am n bs) (hn:n≤1000000000000) (he:RowU w ae ne ez) (hp:RowU w ap np pz) :
  Calls Tryz.prog 284 #[.int .u64 root,.int .i64 h,.slice am n c,tsv leaf ae ne ce ap np cp] w fun e w'=>e=.returned (.bool (decide (tvP root h bs leaf ez pz)))∧Below w.heap.size w w':=by
 obtain ⟨i0,hi,hz0,hz1,hz2⟩:=info_parts Tryz.infoU
 obtain ⟨wb,hwb⟩:∃ wb,wb=w.alloc (.cells #[.int .i64 leaf,.slice ae ne ce,.slice ap np cp] 160):=⟨_,rfl⟩
 have hbb:Below w.heap.size w wb:=by rw [hwb]; exact (Below.refl _ _).alloc (Nat.le_refl _) _
 have hlw:w.heap.size<wb.heap.size:=by rw [hwb]; simp
 have HXD:∀ w7,Below wb.heap.size wb w7→w7.cell? ⟨w.heap.size,0,none⟩=some (.int .i64 leaf)∧w7.cell? ⟨w.heap.size,1,none⟩=some (.slice ae ne ce)∧w7.cell? ⟨w.heap.size,2,none⟩=some (.slice ap np cp):=by
  intro w7 h7
  have hbx:w7.heap[w.heap.size]? = some (.cells #[.int .i64 leaf,.slice ae ne ce,.slice ap np cp] 160):=(h7.block _ hlw).trans (by rw [hwb]; exact heap_alloc_new w _)
  exact ⟨(cell_of_row _ w.heap.size 0 _ 160 (0,0) hbx).trans rfl,(cell_of_row _ w.heap.size 1 _ 160 (0,0) hbx).trans rfl,(cell_of_row _ w.heap.size 2 _ 160 (0,0) hbx).trans rfl⟩
 have HWB:Hid (_=_):=hwb
 clear hwb
 have hdr:Below wb.heap.size wb wb.drew:=(Below.refl _ _).drew
 have SS:=HXD _ (Below.refl _ _)
 have SS1:=HXD _ hdr
 have HEZ:Hid (ez.length=ne):=he.len
 have HPZ:Hid (pz.length=np):=hp.len
 rw [tsv]
 by_cases h1:0≤h∧h≤5
 ·obtain ⟨N,hN⟩:=HN.of h1.1 h1.2
  have HNP:Hid (_=_):=hN.pow.1
  have hNl:=hN.le
  obtain ⟨h10,h15⟩:=h1
  have hsh:=hN.sh
  by_cases h2:0≤leaf∧leaf≤(N:Int) - 1
  ·go_enter Tryz.func284,Tryz.ntmps284
   go_upto_region 1 with fail
   rw [← HWB.out]
   clear HWB
   obtain ⟨q0,q1,q2⟩:=SS
   go_quiet (first
     | (go_at_call_of 94 h; refine Calls.quiet_of_same (inBounds_t h 0 5 _ ⟨h10,h15⟩))
     | (go_at_call_of 94 leaf; refine Calls.quiet_of_same (inBounds_t leaf 0 ((N:Int) - 1) _ h2)))
   have hb2:Below wb.heap.size wb (wb.drewN nq):=below_dn (Below.refl _ _) _
   obtain ⟨w2,hw2⟩:∃ w2,w2=wb.drewN nq:=⟨_,rfl⟩
   rw [← hw2] at hb2 ⊢
   clear hw2 q0 q1 q2 SS1
   by_cases h3:ne=18∧(np:Int)=h
   ·obtain ⟨rfl,h4⟩:=h3
    have h5:np≤5:=by omega
    obtain ⟨q0,q1,q2⟩:=HXD _ hb2
    go_wp2_with (first | (at_make; refine wpList_make_full _ rfl _ _ 158 rfl w2.heap.size 25 i0 _ 1 Tryz.underlying158 hi hz0 hz1 _ _ _ _ 18 rfl rfl rfl rfl (by rw [hz2]; decide) (by unfold maxLen; decide) (by exact Nat.le_refl _) ?_; intro w3 hown hgrow))
    have hbl:Below w2.heap.size w2 w3:=(Below.refl _ _).grown hgrow (Nat.le_refl _) (by simp)
    have HST:Hid (OwnU w2.heap.size w3 (some ⟨w2.heap.size,0,none⟩) 18 18 (half (endVs bs ez) 0)):=by
     show OwnU _ _ _ _ _ _
     rw [half_zero,endVs_len]
     exact ⟨madeU hown,u64_rep 18⟩
    have hB3:Below w.heap.size w w3:=keepT hbb (keepT hb2 hbl)
    clear hgrow hi hz0 hz1 hz2 hown q0 q1 q2
    refine (signedDigits_any am n c bs _ (hr.kept hB3) hn).mono ?_
    rintro e w4 ⟨rfl,hb4⟩
    have hb34:=keepT hbl hb4
    have HST4:Hid (_):=HST.out.kept hb4
    have HE:Hid (RowU w ae 18 ez):=he
    have HPW:Hid (RowU w ap np pz):=hp
    obtain ⟨dl,hdl⟩:∃ dl,dl=diL (hashL bs):=⟨_,rfl⟩
    have HDL:Hid (dl=diL (hashL bs)):=hdl
    rw [← hdl]
    clear hdl HST he hp hr hb4 hbl hB3
    have hb24:=keepT hb2 hb34
    go_wp2
    go_loopw [10,11,38] (fun _ _ i wr=>∃ k:Nat,k≤18∧i=.int .i64 k∧Hid (OwnU w2.heap.size wr (some ⟨w2.heap.size,0,none⟩) 18 18 (half (endVs bs ez) k))∧Below w2.heap.size w2 wr) (fun _ _ i _=>18 - (intOf i).toNat)
    case atStart=>exact ⟨0,by decide,rfl,HST4,hb34⟩
    case round =>
     obtain ⟨k,hk,rfl,HO,hbr⟩:=hrel
     by_cases hlt:k<18
     ·have hlti:(k:Int)<18:=by omega
      have hix:∀ w',(Instr.index 280 (.agg (vA dl)) (.int .i64 (k:Int))).run Tryz.prog w'=.ok (.int .i64 (dl.getD k 0)) w':=fun w'=>run_index_vA w' dl (by rw [HDL.out,diL_len]) k hlt
      have hdb:0≤dl.getD k 0∧dl.getD k 0≤15:=by rw [HDL.out]; exact diL_bd _ k
      obtain ⟨d,hd⟩:∃ d,d=dl.getD k 0:=⟨_,rfl⟩
      rw [← hd] at hix hdb
      obtain ⟨hd0,hd1⟩:=hdb
      obtain ⟨b,off,rfl,hlb,hc0⟩:=HE.out.get k hlt
      obtain ⟨q0,q1,q2⟩:=HXD _ (keepT hb2 hbr)
      have hbrw:=keepT hbb (keepT hb2 hbr)
      have hcell:wr.cell? ⟨b,off+k,none⟩=some (.int .u64 (ez.getD k 0)):=(hbrw.cell (p:=⟨b,off+k,none⟩) hlb).trans hc0
      have hpb:=HE.out.rng k
      obtain ⟨p,hp⟩:∃ p,p=ez.getD k 0:=⟨_,rfl⟩
      have HVV:Hid (stepsN p (15 - d).toNat=endV bs ez k):=by show _=_; unfold endV; rw [hp,hd,HDL.out]
      rw [← hp] at hcell hpb
      clear hp hd hc0 HST4 hb34 hb24
      have hsub:wrap64 (15 - d)=((15 - d).toNat:Int):=by unfold wrap64; omega
      have hsub2:15 - d=((15 - d).toNat:Int):=by omega
      obtain ⟨m,hm⟩:∃ m,m=(15 - d).toNat:=⟨_,rfl⟩
      have hm15:m≤15:=by omega
      rw [← hm] at HVV hsub hsub2
      have HS2:Hid (15 - d=(m:Int)):=hsub2
      clear hm hsub2
      clear hsub
      go_wp2_with fail
      rw [HS2.out]
      clear HS2
      refine (stepped_any p m _ hpb (by omega)).mono ?_
      rintro e w5 ⟨rfl,hb5⟩
      rw [HVV.out]
      have hor:=HO.out.kept hb5
      have hB5:=keepT hbr hb5
      have f0:w5.frozen? ⟨w2.heap.size,k,none⟩=false:=hor.row.frozenAt _
      have hvl:((half (endVs bs ez) k).map (Value.int .u64)).length=18 * 1:=hor.row.1
      obtain ⟨y0,hy0⟩:∃ y,w5.cell? ⟨w2.heap.size,k,none⟩=some y:=⟨_,(hor.row.cellAt _ (by omega)).trans (List.getElem?_eq_getElem (by omega))⟩
      have hs:=(hor.row.stored k (.int .u64 (endV bs ez k))).1
      have e1:=half_set (endVs bs ez) k (by rw [endVs_len]; exact hlt)
      rw [endVs_get bs ez k hlt] at e1
      rw [← List.map_set,e1] at hs
      obtain ⟨vv,hvv⟩:∃ vv,vv=endV bs ez k:=⟨_,rfl⟩
      rw [← hvv] at hs ⊢
      clear hvv
      have HNX:Hid (OwnU w2.heap.size (w5.setCell ⟨w2.heap.size,k,none⟩ (.int .u64 vv)) (some ⟨w2.heap.size,0,none⟩) 18 18 (half (endVs bs ez) (k+1))):=⟨hs,u64_half (endVs_bd bs ez HE.out.rng) _⟩
      have HBN:Hid (Below w2.heap.size w2 (w5.setCell ⟨w2.heap.size,k,none⟩ (.int .u64 vv))):=hB5.setCell (Nat.le_refl _) _
      clear hs hor hB5 hb5 hbr HO hvl hbrw e1 q0 q1 q2 hcell hix HVV
      go_wp2
      go_roundw
      case rel=>exact ⟨k+1,by omega,by go_num,HNX,HBN.out⟩
      case measure=>simp [intOf]; omega
     ·obtain rfl:k=18:=by omega
      have HR:Hid (RowU wr (some ⟨w2.heap.size,0,none⟩) 18 (endVs bs ez)):=by
       have:=HO.out.toRow
       have e:=half_all (endVs bs ez)
       rw [endVs_len] at e
       rwa [e] at this
      have HLE:Hid (strL ⟨#[108,101,97,102]⟩=leW):=by show _=_; decide
      have hB2r:=keepT hb2 hbr
      have HPR:Hid (∀ w7,Below wr.heap.size wr w7→RowU w7 ap np pz):=fun w7 h7=>(HPW.out.kept (keepT hbb hB2r)).kept h7
      have hl0:leaf=(leaf.toNat:Int):=by omega
      obtain ⟨L,hL⟩:∃ L,L=leaf.toNat:=⟨_,rfl⟩
      have HLF:Hid (leaf=(L:Int)):=by show _=_; rw [hL]; exact hl0
      have hL1:L≤1000:=by omega
      have HV:Hid (decide (tvP root h bs leaf ez pz)=(climb (hashD leW (endVs bs ez)) L pz np == root)):=by
       show _=_
       by_cases hc:climb (hashD leW (endVs bs ez)) L pz np=root
       ·rw [decide_eq_true,hc]
        ·simp
        ·exact ⟨⟨h10,h15⟩,by rw [← HNP.out]; exact h2,HEZ.out,by rw [HPZ.out]; exact h4,by rw [HPZ.out,← hL]; exact hc⟩
       ·rw [decide_eq_false]
        ·simp [hc]
        ·intro hh
         apply hc
         have:=hh.2.2.2.2
         rw [HPZ.out,← hL] at this
         exact this
      clear hL hl0
      have hdr3:Below wr.heap.size wr wr.drew:=(Below.refl _ _).drew
      have T0:=HXD _ hB2r
      have T1:=HXD _ (keepT hB2r hdr3)
      clear HO HST4 hb34 hb24
      go_upto_region 11 with fail
      go_region_held_law (fun w7=>w7.cell? ⟨w.heap.size,0,none⟩=some (.int .i64 leaf)∧w7.cell? ⟨w.heap.size,1,none⟩=some (.slice ae 18 ce)∧w7.cell? ⟨w.heap.size,2,none⟩=some (.slice ap np cp)) (first | assumption | exact T0 | exact T1 | exact T2 | exact T3)
       (first
        | (go_at_call 288; refine (hashDigests_any _ _ 18 18 (endVs bs ez) _ (HR.out.kept hdr3) (by decide) (by decide)).mono ?_; rintro e w5 ⟨rfl,hb5⟩; rw [HLE.out]; have hb57:=keepT hdr3 hb5; have T2:=HXD _ (keepT hB2r hb57))
        | (go_at_call 287; rw [HLF.out]; refine (rootFrom_any (hashD leW (endVs bs ez)) L ap np cp pz _ (hashD_bd _ _) hL1 (HPR.out _ hb57) (by omega)).mono ?_; rintro e w6 ⟨rfl,hb6⟩; have hb67:=keepT hb57 hb6; have T3:=HXD _ (keepT hB2r hb67)))
      all_goals
       go_wp2
       go_ret
       exact ⟨by rw [HV.out]; rfl,keepT hbb (keepT hB2r hb67)⟩
   ·have HV:Hid (decide (tvP root h bs leaf ez pz)=false):=decide_eq_false (fun hh=>h3 ⟨by rw [← HEZ.out]; exact hh.2.2.1,by rw [← HPZ.out]; exact hh.2.2.2.1⟩)
    obtain ⟨q0,q1,q2⟩:=HXD _ hb2
    by_cases h6:ne=18
    ·subst h6
     have h7:¬ ((np:Int)=h):=fun e=>h3 ⟨rfl,e⟩
     go_wp2
     go_ret
     exact ⟨by rw [HV.out]; rfl,keepT hbb hb2⟩
    ·have h7:¬ ((ne:Int)=18):=by omega
     go_wp2
     go_ret
     exact ⟨by rw [HV.out]; rfl,keepT hbb hb2⟩
  ·have HV:Hid (decide (tvP root h bs leaf ez pz)=false):=decide_eq_false (fun hh=>h2 (by rw [HNP.out]; exact hh.2.1))
   go_enter Tryz.func284,Tryz.ntmps284
   go_upto_region 1 with fail
   rw [← HWB.out]
   clear HWB
   obtain ⟨q0,q1,q2⟩:=SS
   go_quiet (first
     | (go_at_call_of 94 h; refine Calls.quiet_of_same (inBounds_t h 0 5 _ ⟨h10,h15⟩))
     | (go_at_call_of 94 leaf; refine Calls.quiet_of_same (inBounds_f leaf 0 ((N:Int) - 1) _ h2)))
   go_wp2
   go_ret
   exact ⟨by rw [HV.out]; rfl,below_dn hbb _⟩
 ·have HV:Hid (decide (tvP root h bs leaf ez pz)=false):=decide_eq_false (fun hh=>h1 hh.1)
  go_enter Tryz.func284,Tryz.ntmps284
  go_upto_region 1 with fail
  rw [← HWB.out]
  clear HWB
  obtain ⟨q0,q1,q2⟩:=SS
  go_quiet ((go_at_call 94; refine Calls.quiet_of_same (inBounds_f h 0 5 _ h1)))
  go_wp2
  go_ret
  exact ⟨by rw [HV.out]; rfl,below_dn hbb _⟩
open Go.RowKit
def sigv (t:Int × Int):Value:=.agg #[.int .i64 t.1,.int .i64 t.2]
structure BoxS (t g:Nat)(W:World)(p:Int × Int):Prop where
 heap:W.heap[g]? = some (.cells #[.int .i64 p.1,.int .i64 p.2] t (0,0))
theorem BoxS.c0 {t g:Nat}{W:World}{p:Int × Int}(h:BoxS t g W p):W.cell? ⟨g,0,none⟩=some (.int .i64 p.1):=(cell_of_row _ g 0 _ t (0,0) h.heap).trans rfl
theorem BoxS.c1 {t g:Nat}{W:World}{p:Int × Int}(h:BoxS t g W p):W.cell? ⟨g,1,none⟩=some (.int .i64 p.2):=(cell_of_row _ g 1 _ t (0,0) h.heap).trans rfl
theorem BoxS.lt {t g:Nat}{W:World}{p:Int × Int}(h:BoxS t g W p):g<W.heap.size:=(Array.getElem?_eq_some_iff.1 h.heap).1
theorem BoxS.kept {t g:Nat}{W W':World}{p:Int × Int}(h:BoxS t g W p)(hb:Below W.heap.size W W'):BoxS t g W' p:=⟨(hb.block _ h.lt).trans h.heap⟩
theorem boxS_new (t:Nat)(w:World)(a b:Int):BoxS t w.heap.size (w.alloc (.cells #[.int .i64 a,.int .i64 b] t)) (a,b):=⟨heap_alloc_new w _⟩
open Go.RowKit
theorem keep_first {w w1 w2:World}(h:Below w.heap.size w w1)(k:Below w1.heap.size w1 w2):Below w.heap.size w w2:=h.trans (k.mono h.size)
end Go.Proofs.YtmdfbnlgfhjnoaaGreatDoor
