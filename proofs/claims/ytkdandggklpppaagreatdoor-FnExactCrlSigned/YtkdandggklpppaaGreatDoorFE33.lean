import Derived.Test.YtkdandggklpppaaGreatDoorFE28
set_option maxRecDepth 10000
set_option maxHeartbeats 8000000
set_option linter.unusedVariables false
namespace Go.Proofs.YtkdandggklpppaaGreatDoor
open Go.RowKit
theorem wraps_u64' (n:Int)(h₀:0≤n)(h₁:n<2 ^ 64):IntKind.u64.wrap n=n:=by rw [IntKind.wrap_u64]; omega
theorem and15 (x:Int)(hx:0≤x)(hx':x≤18446744073709551615):bits .and .u64 x 15=x % 16:=bits_mask .u64 64 (by decide) wraps_u64' 4 (by decide) x hx (by omega)
theorem and15i (x:Int)(hx:0≤x)(hx':x≤9223372036854775807):bits .and .i64 x 15=x % 16:=bits_mask .i64 63 (by decide) wraps_i64' 4 (by decide) x hx (by omega)
def digI (h:Int)(i:Nat):Int:=h / (16:Int) ^ (15 - i) % 16
theorem digI_bd (h:Int)(i:Nat):0≤digI h i∧digI h i≤15:=by unfold digI; omega
def sumF (h:Int):Nat→Int
 | 0=>0
 | k+1=>sumF h k+(15 - digI h (15 - k))
theorem sumF_bd (h:Int)(k:Nat):0≤sumF h k∧sumF h k≤15 * (k:Int):=by
 induction k with
 | zero=>simp [sumF]
 | succ k ih=>have:=digI_bd h (15 - k); rw [sumF]; omega
def sumU (h:Int):Nat→Int
 | 0=>0
 | k+1=>sumU h k+(15 - digI h k)
theorem sumU_bd (h:Int)(k:Nat):0≤sumU h k∧sumU h k≤15 * (k:Int):=by
 induction k with
 | zero=>simp [sumU]
 | succ k ih=>have:=digI_bd h k; rw [sumU]; omega
theorem sum_same (h:Int):sumU h 16=sumF h 16:=by
 simp only [sumU,sumF,Nat.reduceSub]
 omega
def dgL (h:Int)(q:Nat):List Int:=(List.range 18).map fun i=>if q≤i∧i<16 then digI h i else 0
theorem dgL_len (h:Int)(q:Nat):(dgL h q).length=18:=by simp [dgL]
theorem dgL_set (h:Int)(q:Nat)(hq:q<16):(dgL h (q+1)).set q (digI h q)=dgL h q:=by
 apply List.ext_getElem?
 intro i
 rw [List.getElem?_set]
 simp only [dgL,List.length_map,List.length_range,List.getElem?_map]
 by_cases hi:i<18
 ·rw [List.getElem?_range hi]
  by_cases e:q=i
  ·subst e
   simp [hq]; omega
  ·simp only [e,if_false,Option.map_some]
   congr 1
   by_cases c:q≤i∧i<16
   ·rw [if_pos c,if_pos (by omega)]
   ·rw [if_neg c,if_neg (by omega)]
 ·rw [List.getElem?_eq_none (by simp; omega)]
  split
  ·omega
  ·rfl
def diL (h:Int):List Int:=(List.range 16).map (digI h)++[sumF h 16 / 16,sumF h 16 % 16]
theorem diL_len (h:Int):(diL h).length=18:=by simp [diL]
theorem diL_of (h:Int):((dgL h 0).set 16 (sumF h 16 / 16)).set 17 (sumF h 16 % 16)=diL h:=rfl
theorem diL_bd (h:Int):∀ k,0≤(diL h).getD k 0∧(diL h).getD k 0≤15:=by
 intro k
 have hs:=sumF_bd h 16
 unfold diL
 rw [List.getD_eq_getElem?_getD,List.getElem?_append]
 split
 ·rename_i hk
  simp only [List.length_map,List.length_range] at hk
  rw [List.getElem?_map,List.getElem?_range hk]
  exact digI_bd h k
 ·simp only [List.length_map,List.length_range]
  rcases hk:k - 16 with _ | _ | m
  ·simp; omega
  ·simp; omega
  ·simp
def vA (l:List Int):Array Value:=(l.map (Value.int .i64)).toArray
theorem vA_size (l:List Int):(vA l).size=l.length:=by simp [vA]
theorem vA_get (l:List Int)(k:Nat):(vA l)[k]? = (l[k]?).map (Value.int .i64):=by simp [vA]
theorem vA_set (l:List Int)(k:Nat)(x:Int):(vA l).setIfInBounds k (.int .i64 x)=vA (l.set k x):=by
 apply Array.ext'
 simp [vA,List.map_set]
theorem vA_one (l:List Int):((vA l).all fun x=>x.oneCell')=true:=by
 simp [vA]
 intro i hi
 rfl
theorem Tryz.info18:(Tryz.prog.info? 199).map (·.size)=some 18:=by kernel_rfl
theorem signedDigits_any (a:Option Addr)(n c:Nat)(bs:List Int)(w:World)(hr:Row w a n bs)(hn:n≤1000000000000) :
  Calls Tryz.prog 170 #[.slice a n c] w fun e w'=>e=.returned (.agg (vA (diL (hashL bs))))∧Below w.heap.size w w':=by
 have hU:=hashL_bd bs
 obtain ⟨h,hh⟩:∃ h,h=hashL bs:=⟨_,rfl⟩
 have HH:Hid (hashL bs=h):=hh.symm
 rw [← hh] at hU ⊢
 clear hh
 obtain ⟨wb,hwb⟩:∃ wb,wb=(w.alloc (.cells (vA (dgL h 16)) 199)).alloc (.cells (vA (dgL h 16)) 199):=⟨_,rfl⟩
 have hbb:Below w.heap.size w wb:=by rw [hwb]; exact ((Below.refl _ _).alloc (Nat.le_refl _) _).alloc (by simp) _
 have hg1:wb.heap[w.heap.size+1]? = some (.cells (vA (dgL h 16)) 199):=by rw [hwb]; exact heap_alloc2_new w _ _
 have hg0:wb.heap[w.heap.size]? = some (.cells (vA (dgL h 16)) 199):=by rw [hwb]; exact heap_alloc2_old w _ _
 have hz:vA (dgL h 16)=#[.int .i64 0,.int .i64 0,.int .i64 0,.int .i64 0,.int .i64 0,.int .i64 0,.int .i64 0,.int .i64 0,.int .i64 0,.int .i64 0,.int .i64 0,.int .i64 0,.int .i64 0,.int .i64 0,.int .i64 0,.int .i64 0,.int .i64 0,.int .i64 0]:=rfl
 have HWB:Hid (_=_):=hwb
 rw [hz] at HWB
 clear hwb hz
 go_enter Tryz.func170,Tryz.ntmps170
 go_upto_region 2 with fail
 rw [← HWB.out]
 clear HWB
 go_wp2_with fail
 refine (implHash_any a n c bs _ (hr.kept hbb) hn).mono ?_
 rintro e w1 ⟨rfl,hb1⟩
 rw [HH.out]
 have hl0:w.heap.size<wb.heap.size:=(Array.getElem?_eq_some_iff.1 hg0).1
 have hl1:w.heap.size+1<wb.heap.size:=(Array.getElem?_eq_some_iff.1 hg1).1
 have hg1':=(hb1.block _ hl1).trans hg1
 have hg0':=(hb1.block _ hl0).trans hg0
 have HB1:Hid (Below w.heap.size w w1):=keepT hbb hb1
 have HG1:Hid (_=_):=hg1'
 have HG0:Hid (_=_):=hg0'
 clear hg1' hg0' hg1 hg0 hb1 hbb hr HH
 go_wp2
 go_loopw [4,5,6] (fun r s i wr=>∃ (q:Nat) (x y:Int),q≤16∧i=.int .i64 ((q:Int) - 1)∧r=.int .u64 x∧s=.int .i64 y∧Hid (x=h / (16:Int) ^ (16 - q))∧Hid (y=sumF h (16 - q))∧Hid (wr.heap[w.heap.size+1]? = some (.cells (vA (dgL h q)) 199))∧Hid (wr.heap[w.heap.size]? = some (.cells (vA (dgL h 16)) 199))∧Hid (Below w.heap.size w wr)) (fun _ _ i _=>((intOf i)+1).toNat)
 case atStart=>exact ⟨16,h,0,Nat.le_refl _,rfl,rfl,rfl,by show _=_; simp,rfl,HG1,HG0,HB1⟩
 case round =>
  obtain ⟨q,x,y,hq,rfl,rfl,rfl,HX,HY,HA,HZ,HB⟩:=hrel
  clear HG1 HG0 HB1
  rcases q with _ | q
  ·have hy:=sumF_bd h 16
   rw [← show y=sumF h 16 from HY.out] at hy
   obtain ⟨hy0,hy1⟩:=hy
   have ha:=and15i y hy0 (by omega)
   have k16:wr.cell? ⟨w.heap.size+1,16,none⟩=some (.int .i64 0):=(cell_of_row _ _ 16 _ 199 (0,0) HA.out).trans rfl
   have f16:wr.frozen? ⟨w.heap.size+1,16,none⟩=false:=frozen_of_row wr _ 16 _ 199 HA.out
   have k17:wr.cell? ⟨w.heap.size+1,17,none⟩=some (.int .i64 0):=(cell_of_row _ _ 17 _ 199 (0,0) HA.out).trans rfl
   have f17:wr.frozen? ⟨w.heap.size+1,17,none⟩=false:=frozen_of_row wr _ 17 _ 199 HA.out
   go_upto_region 11 with fail
   rename_i K0 hK0
   have HY2:Hid (y=sumF h 16):=HY
   have h1:=heap_setCell_same (wr.setCell ⟨w.heap.size+1,16,none⟩ (.int .i64 (y / 16))) (w.heap.size+1) 17 _ 199 (.int .i64 (y % 16)) (heap_setCell_same wr (w.heap.size+1) 16 _ 199 (.int .i64 (y / 16)) HA.out)
   rw [vA_set,vA_set,HY2.out,diL_of,← HY2.out] at h1
   have h0:((wr.setCell ⟨w.heap.size+1,16,none⟩ (.int .i64 (y / 16))).setCell ⟨w.heap.size+1,17,none⟩ (.int .i64 (y % 16))).heap[w.heap.size]? = some (.cells (vA (dgL h 16)) 199):=(Below.heap_setCell _ _ _ _ (by simp)).trans ((Below.heap_setCell _ _ _ _ (by simp)).trans HZ.out)
   have hB:Below w.heap.size w ((wr.setCell ⟨w.heap.size+1,16,none⟩ (.int .i64 (y / 16))).setCell ⟨w.heap.size+1,17,none⟩ (.int .i64 (y % 16))):=(HB.out.setCell (by simp) _).setCell (by simp) _
   obtain ⟨W,hW⟩:∃ W,W=((wr.setCell ⟨w.heap.size+1,16,none⟩ (.int .i64 (y / 16))).setCell ⟨w.heap.size+1,17,none⟩ (.int .i64 (y % 16))):=⟨_,rfl⟩
   rw [← hW] at h1 h0 hB ⊢
   clear hW HA HZ HB HY2 k16 f16 k17 f17
   apply wp_region_lit
   refine wpList_load_row rfl 199 _ rfl (w.heap.size+1) rfl 199 (vA (diL h)) (0,0) _ h1 Tryz.underlying199 rfl (by rw [vA_size,diL_len]; exact Tryz.info18) ?_
   refine wpList_store_row rfl 199 _ _ rfl w.heap.size (vA (diL h)) rfl rfl 199 (vA (dgL h 16)) h0 (by rw [vA_size,diL_len]; exact Tryz.info18) (by rw [vA_size,vA_size,diL_len,dgL_len]) (vA_one _) ?_
   apply wpList_nil
   refine hK0 _ _ ?_
   have hf:=setRow_heap W w.heap.size _ (vA (diL h)) 199 _ h0
   go_wp2
   try simp only [Exit.inBlock,Exit.then]
   exact bodyPost_ret (results_cell_row rfl _ _ w.heap.size 199 (vA (diL h)) (0,0) _ rfl hf Tryz.underlying199 rfl (by rw [vA_size,diL_len]; exact Tryz.info18)) rfl ⟨rfl,below_setRow hB (Nat.le_refl _) _⟩
  ·have e1:((q+1:Nat):Int) - 1=(q:Int):=by omega
   rw [e1]
   clear e1
   have hq16:q<16:=by omega
   have hx0:0≤x:=by rw [HX.out]; exact Int.ediv_nonneg hU.1 (Int.le_of_lt (Int.pow_pos (by decide)))
   have hx1:x≤18446744073709551615:=by
    have:x≤h:=by rw [HX.out]; exact Int.ediv_le_self _ hU.1
    have:=hU.2
    omega
   have ha:=and15 x hx0 hx1
   have HD:Hid (x % 16=digI h q):=by show _=_; rw [HX.out]; unfold digI; rw [show 16 - (q+1)=15 - q by omega]
   have hdb:=digI_bd h q
   have kq:wr.cell? ⟨w.heap.size+1,q,none⟩=some (.int .i64 ((dgL h (q+1)).getD q 0)):=by
    rw [cell_of_row _ _ q _ 199 (0,0) HA.out,vA_get,List.getElem?_eq_getElem (by rw [dgL_len]; omega)]
    simp [dgL_len,show q<18 by omega]
   have fq:wr.frozen? ⟨w.heap.size+1,q,none⟩=false:=frozen_of_row wr _ q _ 199 HA.out
   go_wp2_with fail
   go_roundw
   case rel =>
    have hs:=heap_setCell_same wr (w.heap.size+1) q _ 199 (.int .i64 (x % 16)) HA.out
    rw [vA_set,HD.out,dgL_set h q hq16,← HD.out] at hs
    have hyb:=sumF_bd h (16 - (q+1))
    have hw2:wrap64 (y+(15 - x % 16))=y+(15 - x % 16):=by rw [← show y=sumF h (16 - (q+1)) from HY.out] at hyb; unfold wrap64; omega
    refine ⟨q,x / 16,wrap64 (y+(15 - x % 16)),by omega,rfl,rfl,rfl,?_,?_,hs,(Below.heap_setCell _ _ _ _ (by simp)).trans HZ.out,HB.out.setCell (by simp) _⟩
    ·show _=_
     rw [HX.out,Int.ediv_ediv_of_nonneg (Int.le_of_lt (Int.pow_pos (by decide))),show 16 - q=16 - (q+1)+1 by omega,Int.pow_succ]
    ·show _=_
     rw [hw2,HY.out,HD.out,show 16 - q=16 - (q+1)+1 by omega,sumF,show 15 - (16 - (q+1))=q by omega]
   case measure=>simp [intOf]
open Go.RowKit
theorem cell_one64 (w:World)(x:Int):∀ jj uu,([x].map (Value.int .i64))[jj]? = some uu→(w.alloc (.cells #[.int .i64 x] 2)).cell? ((⟨w.heap.size,0,none⟩:Addr).add jj)=some uu:=by
 intro jj uu hju
 rw [Addr.add_lit,Nat.zero_add,cell_of_row _ w.heap.size jj _ 2 _ (heap_alloc_new w _),← hju]
 simp
theorem cell_two64 (w:World)(x y:Int):∀ jj uu,([x,y].map (Value.int .i64))[jj]? = some uu→(w.alloc (.cells #[.int .i64 x,.int .i64 y] 2)).cell? ((⟨w.heap.size,0,none⟩:Addr).add jj)=some uu:=by
 intro jj uu hju
 rw [Addr.add_lit,Nat.zero_add,cell_of_row _ w.heap.size jj _ 2 _ (heap_alloc_new w _),← hju]
 simp
theorem slice_of_owns {B:Nat}{w:World}{v:Value}{n:Nat}{xs:List Value}{t:TypeId}(h:w.ownsRow B t 1 v n xs):∃ a cap,v=.slice a n cap:=by
 rcases h.2 with ⟨rfl,rfl⟩ | ⟨g,cap,cur,rfl,_⟩
 ·exact ⟨_,_,rfl⟩
 ·exact ⟨_,_,rfl⟩
theorem row64_of_owns {B:Nat}{w:World}{a:Option Addr}{n cap:Nat}{zs:List Int}(h:w.ownsRow B 2 1 (.slice a n cap) n (zs.map (Value.int .i64))):Row64 w a n zs:=by
 have hl:zs.length=n:=by simpa using h.1
 refine ⟨hl,fun k hk=>?_⟩
 rcases h.2 with ⟨_,h0⟩ | ⟨g,cap',cur,hv,hb,hg,r⟩
 ·omega
 ·simp only [Value.slice.injEq] at hv
  obtain ⟨rfl,_,rfl⟩:=hv
  refine ⟨g,0,rfl,(Array.getElem?_eq_some_iff.1 hg).1,?_⟩
  rw [Nat.zero_add,World.ownsRow.cellAt h k (by omega)]
  simp [show k<zs.length by omega]
theorem pow_16 (k:Nat):(2:Int) ^ (4 * k)=(16:Int) ^ k:=by rw [Int.pow_mul]; rfl
theorem l8Digits_any (a:Option Addr)(n c:Nat)(bs:List Int)(w:World)(hr:Row w a n bs)(hn:n≤1000000000000) :
  Calls Tryz.prog 67 #[.slice a n c] w fun e w'=>∃ ad cd,e=.returned (.slice ad 18 cd)∧Row64 w' ad 18 (diL (hashL bs))∧Below w.heap.size w w':=by
 obtain ⟨i0,hi,hz0,hz1,hz2⟩:=info_parts Tryz.info2
 have hU:=hashL_bd bs
 obtain ⟨h,hh⟩:∃ h,h=hashL bs:=⟨_,rfl⟩
 have HH:Hid (hashL bs=h):=hh.symm
 rw [← hh] at hU ⊢
 clear hh
 have hoe:(w.alloc (.cells #[] 2)).ownsRow w.heap.size 2 1 (.slice (some ⟨w.heap.size,0,none⟩) 0 0) 0 []:=World.ownsRow_lit w #[] 0 (Nat.le_refl _) (Nat.zero_le _) rfl
 have hbe:Below w.heap.size w (w.alloc (.cells #[] 2)):=(Below.refl _ _).alloc (Nat.le_refl _) _
 go_enter Tryz.func67,Tryz.ntmps67
 go_upto_region 1 with fail
 go_wp2_with fail
 refine (specHash_any a n c bs _ hr hn).mono ?_
 rintro e w1 ⟨rfl,hw1⟩
 have hw2:=hw1.symm
 subst hw2
 rw [HH.out]
 clear hr HH
 go_wp2
 go_loopw [4,5,6,7] (fun o s i _ wr=>∃ (ao:Option Addr) (q len cap:Nat) (y:Int),q≤16∧len=16 - q∧i=.int .i64 ((q:Int) - 1)∧o=.slice ao len cap∧s=.int .i64 y∧Hid (y=sumU h (16 - q))∧wr.ownsRow w.heap.size 2 1 (.slice ao len cap) len (((diL h).take (16 - q)).map (Value.int .i64))∧Below w.heap.size w wr) (fun _ _ i _ _=>((intOf i)+1).toNat)
 case atStart=>exact ⟨_,16,0,0,0,Nat.le_refl _,rfl,rfl,rfl,rfl,rfl,hoe,hbe⟩
 case round =>
  obtain ⟨ao,q,len,cap,y,hq,hle,rfl,rfl,rfl,HY,hor,hbr⟩:=hrel
  have HLe:Hid (len=16 - q):=hle
  clear hle hoe hbe
  have hws:w.heap.size≤wr.heap.size:=hbr.size
  rcases q with _ | q
  ·obtain rfl:len=16:=HLe.out
   have hy:=sumU_bd h 16
   have HY2:Hid (y=sumF h 16):=by show _=_; rw [HY.out,← sum_same h]
   rw [← show y=sumU h 16 from HY.out] at hy
   obtain ⟨hy0,hy1⟩:=hy
   have hal:Below wr.heap.size wr (wr.alloc (.cells #[.int .i64 (y / 16),.int .i64 (y % 16)] 2)):=(Below.refl _ _).alloc (Nat.le_refl _) _
   have hor4:=ownsRow_below hor hal
   have hbr4:=keepT hbr hal
   have hcl:=cell_two64 wr (y / 16) (y % 16)
   have t1:y.tdiv 16=y / 16:=Int.tdiv_eq_ediv_of_nonneg hy0
   have t2:y.tmod 16=y % 16:=Int.tmod_eq_emod_of_nonneg hy0
   clear hal
   go_wp2_with (first | (at_builtin; refine wpList_append_own _ rfl (.tmp 30) (.tmp 35) 105 rfl w.heap.size 2 i0 _ 1 8 Tryz.underlying105 hi hz0 hz1 hz2 rfl (by decide) _ 16 _ rfl hor4 ⟨wr.heap.size,0,none⟩ 2 2 ([y / 16,y % 16].map (Value.int .i64)) rfl rfl hcl (ints_oneCell .i64 [y / 16,y % 16]) (by unfold maxLen; omega) (by omega) (by have:=hbr4.size; exact this) ?_; intro v5 w5 hv5 hg5 _))
   have hbr5:Below w.heap.size w w5:=hbr4.grown hg5 hbr4.size (fun k hk=>(hor4.lt k hk).1)
   have e1:((diL h).take (16 - 0)).map (Value.int .i64)++[y / 16,y % 16].map (Value.int .i64)=(diL h).map (Value.int .i64):=by
    rw [← List.map_append]
    congr 1
    rw [HY2.out]
    rfl
   rw [e1] at hv5
   obtain ⟨a5,c5,rfl⟩:=slice_of_owns hv5
   go_wp2
   go_ret
   exact ⟨a5,⟨c5,rfl⟩,row64_of_owns hv5,hbr5⟩
  ·have e1:((q+1:Nat):Int) - 1=(q:Int):=by omega
   rw [e1]
   clear e1
   have hq16:q<16:=by omega
   have hl9:len≤18:=by have:=HLe.out; omega
   have hx0:0≤h / 2 ^ (4 * q):=Int.ediv_nonneg hU.1 (Int.le_of_lt (Int.pow_pos (by decide)))
   have hx1:h / 2 ^ (4 * q)≤18446744073709551615:=Int.le_trans (Int.ediv_le_self _ hU.1) hU.2
   have ha:=and15 _ hx0 hx1
   have hdd:h / 2 ^ (4 * q) % 16=digI h (15 - q):=by unfold digI; rw [show 15 - (15 - q)=q by omega,pow_16]
   obtain ⟨d,hd⟩:∃ d,d=digI h (15 - q):=⟨_,rfl⟩
   have hdb:=digI_bd h (15 - q)
   rw [hdd,← hd] at ha
   rw [← hd] at hdb
   obtain ⟨hd0,hd1⟩:=hdb
   have HD:Hid (d=digI h (15 - q)):=hd
   clear hd hdd hx0 hx1
   have hyb:=sumU_bd h (16 - (q+1))
   rw [← show y=sumU h (16 - (q+1)) from HY.out] at hyb
   obtain ⟨hy0,hy1⟩:=hyb
   have hy2:y≤1000:=by omega
   clear hy1
   have hal:Below wr.heap.size wr (wr.alloc (.cells #[.int .i64 d] 2)):=(Below.refl _ _).alloc (Nat.le_refl _) _
   have hor4:=ownsRow_below hor hal
   have hbr4:=keepT hbr hal
   have hcl:=cell_one64 wr d
   clear hal hor
   go_wp2_with (first | (at_builtin; refine wpList_append_own _ rfl (.tmp 22) (.tmp 24) 105 rfl w.heap.size 2 i0 _ 1 8 Tryz.underlying105 hi hz0 hz1 hz2 rfl (by decide) _ len _ rfl hor4 ⟨wr.heap.size,0,none⟩ 1 1 ([d].map (Value.int .i64)) rfl rfl hcl (ints_oneCell .i64 [d]) (by unfold maxLen; omega) (by omega) (by have:=hbr4.size; exact this) ?_; intro v5 w5 hv5 hg5 _))
   have hbr5:Below w.heap.size w w5:=hbr4.grown hg5 hbr4.size (fun k hk=>(hor4.lt k hk).1)
   have e1:((diL h).take (16 - (q+1))).map (Value.int .i64)++[d].map (Value.int .i64)=((diL h).take (16 - q)).map (Value.int .i64):=by
    rw [← List.map_append]
    congr 1
    have hg:(diL h).getD (16 - (q+1)) 0=d:=by rw [HD.out,show 16 - (q+1)=15 - q by omega,List.getD_eq_getElem?_getD,diL,List.getElem?_append_left (by simp; omega),List.getElem?_map,List.getElem?_range (by omega)]; rfl
    rw [show 16 - q=16 - (q+1)+1 by omega,take_snoc _ _ (by rw [diL_len]; omega),hg]
   rw [e1] at hv5
   obtain ⟨a5,c5,rfl⟩:=slice_of_owns hv5
   clear hor4 hbr4 hcl hg5
   go_roundw
   case rel=>exact ⟨a5,q,len+1,c5,_,by omega,by have:=HLe.out; omega,rfl,rfl,rfl,by show _=_; rw [HY.out,show 16 - q=16 - (q+1)+1 by omega,sumU,HD.out,show 16 - (q+1)=15 - q by omega]; omega,hv5,hbr5⟩
   case measure=>simp [intOf]
open Go.RowKit
def climb (v:Int)(L:Nat)(ps:List Int):Nat→Int
 | 0=>v
 | k+1=>if L / 2 ^ k % 2=0 then hashD ndW [climb v L ps k,ps.getD k 0] else hashD ndW [ps.getD k 0,climb v L ps k]
theorem climb_bd (v:Int)(hv:U64 v)(L:Nat)(ps:List Int)(k:Nat):U64 (climb v L ps k):=by
 cases k with
 | zero=>exact hv
 | succ k=>rw [climb]; split <;> exact hashD_bd _ _
theorem rootFrom_any (v:Int)(L:Nat)(a:Option Addr)(n c:Nat)(ps:List Int)(w:World)(hv:U64 v)(hL:L≤1000)(hr:RowU w a n ps)(hn:n≤1000) :
  Calls Tryz.prog 172 #[.int .u64 v,.int .i64 L,.slice a n c] w fun e w'=>e=.returned (.int .u64 (climb v L ps n))∧Below w.heap.size w w':=by
 have HV:Hid (U64 v):=hv
 have H0:Hid (RowU w a n ps):=hr
 clear hv hr
 have HND:Hid (strL ⟨#[110,111,100,101]⟩=ndW):=by show _=_; decide
 go_enter Tryz.func172,Tryz.ntmps172
 go_wp2
 go_loopw [0,1,8,11] (fun d l _ i wr=>∃ (k m:Nat) (x:Int),k≤n∧i=.int .i64 k∧d=.int .u64 x∧l=.int .i64 m∧m≤1000∧Hid (m=L / 2 ^ k)∧Hid (x=climb v L ps k)∧Below w.heap.size w wr) (fun _ _ _ i _=>n - (intOf i).toNat)
 case atStart=>exact ⟨0,L,v,Nat.zero_le _,rfl,rfl,rfl,hL,by show _=_; simp,rfl,Below.refl _ _⟩
 case round =>
  obtain ⟨k,m,x,hk,rfl,rfl,rfl,hm,HM,HX,hbr⟩:=hrel
  by_cases hlt:k<n
  ·have hlti:(k:Int)<(n:Int):=by omega
   obtain ⟨b,off,rfl,hlb,hc0⟩:=H0.out.get k hlt
   have hcell:wr.cell? ⟨b,off+k,none⟩=some (.int .u64 (ps.getD k 0)):=(hbr.cell (p:=⟨b,off+k,none⟩) hlb).trans hc0
   have hpb:=H0.out.rng k
   obtain ⟨p,hp⟩:∃ p,p=ps.getD k 0:=⟨_,rfl⟩
   have HPP:Hid (ps.getD k 0=p):=hp.symm
   rw [← hp] at hcell hpb
   have hxb:U64 x:=by rw [HX.out]; exact climb_bd v HV.out L ps k
   have ham:=and1 (m:Int) (by omega) (by omega)
   have HM2:Hid (((m / 2:Nat):Int)=(m:Int) / 2):=by show _=_; omega
   have HM3:Hid (m / 2=L / 2 ^ (k+1)):=by show _=_; rw [HM.out,Nat.pow_succ,Nat.div_div_eq_div_mul]
   clear hc0 hp
   have hdr:Below wr.heap.size wr (wr.alloc (.cells #[.int .u64 x,.int .u64 p] 29)):=(Below.refl _ _).alloc (Nat.le_refl _) _
   have hdr2:Below wr.heap.size wr (wr.alloc (.cells #[.int .u64 p,.int .u64 x] 29)):=(Below.refl _ _).alloc (Nat.le_refl _) _
   by_cases he:m % 2=0
   ·have hmi:(m:Int) % 2=0:=by omega
    have HN:Hid (hashD ndW [x,p]=climb v L ps (k+1)):=by show _=_; rw [climb,← HM.out,if_pos he,← HX.out,HPP.out]
    go_wp2_with fail
    refine (hashDigests_any _ _ 2 2 [x,p] _ (rowU_lit2 wr x p hxb hpb) (by decide) (by decide)).mono ?_
    rintro e w3 ⟨rfl,hb3⟩
    rw [HND.out,HN.out]
    go_wp2
    rw [← HM2.out]
    go_roundw
    case rel=>exact ⟨k+1,m / 2,_,by omega,by go_num,rfl,rfl,by omega,HM3,rfl,keepT hbr (keepT hdr hb3)⟩
    case measure=>simp [intOf]; omega
   ·have hmi:(m:Int) % 2=1:=by omega
    have HN:Hid (hashD ndW [p,x]=climb v L ps (k+1)):=by show _=_; rw [climb,← HM.out,if_neg he,← HX.out,HPP.out]
    go_wp2_with fail
    refine (hashDigests_any _ _ 2 2 [p,x] _ (rowU_lit2 wr p x hpb hxb) (by decide) (by decide)).mono ?_
    rintro e w3 ⟨rfl,hb3⟩
    rw [HND.out,HN.out]
    go_wp2
    rw [← HM2.out]
    go_roundw
    case rel=>exact ⟨k+1,m / 2,_,by omega,by go_num,rfl,rfl,by omega,HM3,rfl,keepT hbr (keepT hdr2 hb3)⟩
    case measure=>simp [intOf]; omega
  ·obtain rfl:k=n:=by omega
   go_wp2
   go_ret
   exact ⟨by rw [HX.out]; rfl,hbr⟩
end Go.Proofs.YtkdandggklpppaaGreatDoor
