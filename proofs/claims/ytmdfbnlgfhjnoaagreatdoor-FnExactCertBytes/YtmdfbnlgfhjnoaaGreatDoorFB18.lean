import Derived.BigQuiet
import Derived.WalkSmall
import Derived.Test.YtmdfbnlgfhjnoaaGreatDoorFB13
import Derived.Test.YtmdfbnlgfhjnoaaGreatDoorFB11
import Derived.Test.YtmdfbnlgfhjnoaaGreatDoorFB17
import Derived.Test.YtmdfbnlgfhjnoaaGreatDoorFB05
set_option maxRecDepth 10000
set_option maxHeartbeats 8000000
set_option linter.unusedVariables false
namespace Go.Proofs.YtmdfbnlgfhjnoaaGreatDoor
open Go.RowKit
def wb8 (n:Int):List Int:=[n / 72057594037927936 % 256,n / 281474976710656 % 256,n / 1099511627776 % 256,n / 4294967296 % 256,n / 16777216 % 256,n / 65536 % 256,n / 256 % 256,n % 256]
def wsz (n:Int):Nat:=if -128≤n∧n<128 then 1 else if -32768≤n∧n<32768 then 2 else if -8388608≤n∧n<8388608 then 3 else if -2147483648≤n∧n<2147483648 then 4 else if -549755813888≤n∧n<549755813888 then 5 else if -140737488355328≤n∧n<140737488355328 then 6 else if -36028797018963968≤n∧n<36028797018963968 then 7 else 8
def wbL (n:Int):List Int:=(wb8 n).drop (8 - wsz n)
theorem wsz_bd (n:Int):1≤wsz n∧wsz n≤8:=by
 unfold wsz
 repeat' split
 all_goals omega
theorem wb8_len (n:Int):(wb8 n).length=8:=rfl
theorem wbL_len (n:Int):(wbL n).length=wsz n:=by have:=wsz_bd n; unfold wbL; rw [List.length_drop,wb8_len]; omega
theorem wb8_byte (n:Int):∀ k,0≤(wb8 n).getD k 0∧(wb8 n).getD k 0≤255:=by
 intro k
 match k with
 | 0 | 1 | 2 | 3 | 4 | 5 | 6 | 7=>simp [wb8]; omega
 | k+8=>simp [wb8]
theorem wb_drop (n:Int)(k:Nat):∀ j,0≤((wb8 n).drop k).getD j 0∧((wb8 n).drop k).getD j 0≤255:=by
 intro j
 have e:((wb8 n).drop k).getD j 0=(wb8 n).getD (k+j) 0:=by simp [List.getD_eq_getElem?_getD,List.getElem?_drop]
 rw [e]
 exact wb8_byte n _
theorem eight_wb (n:Int)(m:Nat)(h:n % 18446744073709551616=(m:Int)):eight m=wb8 n:=by
 unfold eight wb8
 rw [← h]
 simp only [List.cons.injEq,and_true]
 refine ⟨by omega,by omega,by omega,by omega,by omega,by omega,by omega,by omega⟩
def sg8 (x:Int):Int:=if x<128 then x else x - 256
theorem sg8_wrap (x:Int)(h:0≤x∧x≤255):IntKind.i8.wrap x=sg8 x:=by
 unfold sg8
 simp only [IntKind.wrap,IntKind.bits,IntKind.signed]
 simp
 split <;> split <;> omega
theorem sg8_bd (x:Int)(h:0≤x∧x≤255) : -128≤sg8 x∧sg8 x≤127:=by unfold sg8; split <;> omega
theorem wsz_le1 (n:Int):wsz n≤1↔-128≤n∧n<128:=by
 unfold wsz
 repeat' split
 all_goals omega
theorem wsz_le2 (n:Int):wsz n≤2↔-32768≤n∧n<32768:=by
 unfold wsz
 repeat' split
 all_goals omega
theorem wsz_le3 (n:Int):wsz n≤3↔-8388608≤n∧n<8388608:=by
 unfold wsz
 repeat' split
 all_goals omega
theorem wsz_le4 (n:Int):wsz n≤4↔-2147483648≤n∧n<2147483648:=by
 unfold wsz
 repeat' split
 all_goals omega
theorem wsz_le5 (n:Int):wsz n≤5↔-549755813888≤n∧n<549755813888:=by
 unfold wsz
 repeat' split
 all_goals omega
theorem wsz_le6 (n:Int):wsz n≤6↔-140737488355328≤n∧n<140737488355328:=by
 unfold wsz
 repeat' split
 all_goals omega
theorem wsz_le7 (n:Int):wsz n≤7↔-36028797018963968≤n∧n<36028797018963968:=by
 unfold wsz
 repeat' split
 all_goals omega
theorem wsz_step0 (n:Int)(h0 : -9223372036854775808≤n)(h1:n≤9223372036854775807):(sg8 (n / 281474976710656 % 256) / 256=sg8 (n / 72057594037927936 % 256))↔wsz n≤7:=by
 rw [wsz_le7]
 unfold sg8
 split <;> split <;> omega
theorem wsz_step1 (n:Int)(h:wsz n≤7):(sg8 (n / 1099511627776 % 256) / 256=sg8 (n / 281474976710656 % 256))↔wsz n≤6:=by
 rw [wsz_le6]
 rw [wsz_le7] at h
 unfold sg8
 split <;> split <;> omega
theorem wsz_step2 (n:Int)(h:wsz n≤6):(sg8 (n / 4294967296 % 256) / 256=sg8 (n / 1099511627776 % 256))↔wsz n≤5:=by
 rw [wsz_le5]
 rw [wsz_le6] at h
 unfold sg8
 split <;> split <;> omega
theorem wsz_step3 (n:Int)(h:wsz n≤5):(sg8 (n / 16777216 % 256) / 256=sg8 (n / 4294967296 % 256))↔wsz n≤4:=by
 rw [wsz_le4]
 rw [wsz_le5] at h
 unfold sg8
 split <;> split <;> omega
theorem wsz_step4 (n:Int)(h:wsz n≤4):(sg8 (n / 65536 % 256) / 256=sg8 (n / 16777216 % 256))↔wsz n≤3:=by
 rw [wsz_le3]
 rw [wsz_le4] at h
 unfold sg8
 split <;> split <;> omega
theorem wsz_step5 (n:Int)(h:wsz n≤3):(sg8 (n / 256 % 256) / 256=sg8 (n / 65536 % 256))↔wsz n≤2:=by
 rw [wsz_le2]
 rw [wsz_le3] at h
 unfold sg8
 split <;> split <;> omega
theorem wsz_step6 (n:Int)(h:wsz n≤2):(sg8 (n % 256) / 256=sg8 (n / 256 % 256))↔wsz n≤1:=by
 rw [wsz_le1]
 rw [wsz_le2] at h
 unfold sg8
 split <;> split <;> omega
theorem row_wb {w:World}{g t:Nat}(n:Int)(k:Nat)(hk:k≤7)(h:w.heap[g]? = some (.cells ((wb8 n).map (Value.int .u8)).toArray t (0,0))):Row w (some ⟨g,k,none⟩) (8 - k) ((wb8 n).drop k):=by
 refine ⟨by rw [List.length_drop,wb8_len],fun j hj=>⟨g,k,rfl,(Array.getElem?_eq_some_iff.1 h).1,?_⟩,wb_drop n k⟩
 rw [cell_of_row _ g (k+j) _ t (0,0) h]
 have e:((wb8 n).drop k).getD j 0=(wb8 n)[k+j]'(by rw [wb8_len]; omega):=by
  rw [List.getD_eq_getElem?_getD,List.getElem?_drop,List.getElem?_eq_getElem (by rw [wb8_len]; omega)]
  rfl
 rw [e]
 simp only [List.getElem?_toArray,List.getElem?_map,List.getElem?_eq_getElem (show k+j<(wb8 n).length by rw [wb8_len]; omega),Option.map_some]
theorem wholeBytes_any (n:Int)(w:World)(h0 : -9223372036854775808≤n)(h1:n≤9223372036854775807) :
  Calls Tryz.prog 151 #[.int .i64 n] w fun e w'=>∃ g k,e=.returned (.slice (some ⟨g,k,none⟩) (wsz n) (wsz n))∧w.heap.size≤g∧Row w' (some ⟨g,k,none⟩) (wsz n) (wbL n)∧Below w.heap.size w w':=by
 obtain ⟨m,hm⟩:∃ m:Nat,n % 18446744073709551616=(m:Int):=Int.eq_ofNat_of_zero_le (by omega)
 have hu:IntKind.u64.wrap n=(m:Int):=by rw [IntKind.wrap_u64]; exact hm
 have HE:Hid (eight m=wb8 n):=eight_wb n m hm
 have hm2:(m:Int)≤18446744073709551615:=by omega
 clear hm
 go_enter Tryz.func151,Tryz.ntmps151
 go_wp2_with fail
 refine (eight_any m _ hm2).mono ?_
 rintro e w1 ⟨x0,x1,x2,x3,x4,x5,x6,x7,rfl,hx,hb1⟩
 rw [HE.out] at hx
 have HBK:Hid ((w1.alloc (.cells #[.int .u8 x0,.int .u8 x1,.int .u8 x2,.int .u8 x3,.int .u8 x4,.int .u8 x5,.int .u8 x6,.int .u8 x7] 151)).heap[w1.heap.size]? = some (.cells #[.int .u8 x0,.int .u8 x1,.int .u8 x2,.int .u8 x3,.int .u8 x4,.int .u8 x5,.int .u8 x6,.int .u8 x7] 151 (0,0))):=heap_alloc_new w1 _
 have HB1:Hid (Below w.heap.size w (w1.alloc (.cells #[.int .u8 x0,.int .u8 x1,.int .u8 x2,.int .u8 x3,.int .u8 x4,.int .u8 x5,.int .u8 x6,.int .u8 x7] 151))):=hb1.alloc hb1.size _
 have HS1:Hid (w.heap.size≤w1.heap.size):=hb1.size
 have hx2:=hx
 unfold wb8 at hx2
 simp only [List.cons.injEq,and_true] at hx2
 obtain ⟨e0,e1,e2,e3,e4,e5,e6,e7⟩:=hx2
 have HX:Hid (wb8 n = [x0,x1,x2,x3,x4,x5,x6,x7]):=hx.symm
 have HC0:Hid ((sg8 x1 / 256=sg8 x0)↔wsz n≤7):=by rw [e0,e1]; exact wsz_step0 n h0 h1
 have HC1:Hid (wsz n≤7→((sg8 x2 / 256=sg8 x1)↔wsz n≤6)):=by rw [e1,e2]; exact wsz_step1 n
 have HC2:Hid (wsz n≤6→((sg8 x3 / 256=sg8 x2)↔wsz n≤5)):=by rw [e2,e3]; exact wsz_step2 n
 have HC3:Hid (wsz n≤5→((sg8 x4 / 256=sg8 x3)↔wsz n≤4)):=by rw [e3,e4]; exact wsz_step3 n
 have HC4:Hid (wsz n≤4→((sg8 x5 / 256=sg8 x4)↔wsz n≤3)):=by rw [e4,e5]; exact wsz_step4 n
 have HC5:Hid (wsz n≤3→((sg8 x6 / 256=sg8 x5)↔wsz n≤2)):=by rw [e5,e6]; exact wsz_step5 n
 have HC6:Hid (wsz n≤2→((sg8 x7 / 256=sg8 x6)↔wsz n≤1)):=by rw [e6,e7]; exact wsz_step6 n
 have hsz:=wsz_bd n
 have y0:0≤x0∧x0≤255:=by omega
 obtain ⟨s0,hs0⟩:∃ s,s=sg8 x0:=⟨_,rfl⟩
 have b0:=sg8_bd x0 y0
 have v0:=sg8_wrap x0 y0
 rw [← hs0] at b0 v0
 have y1:0≤x1∧x1≤255:=by omega
 obtain ⟨s1,hs1⟩:∃ s,s=sg8 x1:=⟨_,rfl⟩
 have b1:=sg8_bd x1 y1
 have v1:=sg8_wrap x1 y1
 rw [← hs1] at b1 v1
 have y2:0≤x2∧x2≤255:=by omega
 obtain ⟨s2,hs2⟩:∃ s,s=sg8 x2:=⟨_,rfl⟩
 have b2:=sg8_bd x2 y2
 have v2:=sg8_wrap x2 y2
 rw [← hs2] at b2 v2
 have y3:0≤x3∧x3≤255:=by omega
 obtain ⟨s3,hs3⟩:∃ s,s=sg8 x3:=⟨_,rfl⟩
 have b3:=sg8_bd x3 y3
 have v3:=sg8_wrap x3 y3
 rw [← hs3] at b3 v3
 have y4:0≤x4∧x4≤255:=by omega
 obtain ⟨s4,hs4⟩:∃ s,s=sg8 x4:=⟨_,rfl⟩
 have b4:=sg8_bd x4 y4
 have v4:=sg8_wrap x4 y4
 rw [← hs4] at b4 v4
 have y5:0≤x5∧x5≤255:=by omega
 obtain ⟨s5,hs5⟩:∃ s,s=sg8 x5:=⟨_,rfl⟩
 have b5:=sg8_bd x5 y5
 have v5:=sg8_wrap x5 y5
 rw [← hs5] at b5 v5
 have y6:0≤x6∧x6≤255:=by omega
 obtain ⟨s6,hs6⟩:∃ s,s=sg8 x6:=⟨_,rfl⟩
 have b6:=sg8_bd x6 y6
 have v6:=sg8_wrap x6 y6
 rw [← hs6] at b6 v6
 have y7:0≤x7∧x7≤255:=by omega
 obtain ⟨s7,hs7⟩:∃ s,s=sg8 x7:=⟨_,rfl⟩
 have b7:=sg8_bd x7 y7
 have v7:=sg8_wrap x7 y7
 rw [← hs7] at b7 v7
 rw [← hs0,← hs1] at HC0
 rw [← hs1,← hs2] at HC1
 rw [← hs2,← hs3] at HC2
 rw [← hs3,← hs4] at HC3
 rw [← hs4,← hs5] at HC4
 rw [← hs5,← hs6] at HC5
 rw [← hs6,← hs7] at HC6
 clear hx hb1 e0 e1 e2 e3 e4 e5 e6 e7 hs0 hs1 hs2 hs3 hs4 hs5 hs6 hs7
 obtain ⟨w2,hw2⟩:∃ w2,w2=w1.alloc (.cells #[.int .u8 x0,.int .u8 x1,.int .u8 x2,.int .u8 x3,.int .u8 x4,.int .u8 x5,.int .u8 x6,.int .u8 x7] 151):=⟨_,rfl⟩
 rw [← hw2] at HBK HB1
 have HW:Hid (_=_):=hw2
 clear hw2
 go_wp2
 rw [← HW.out]
 clear HW
 go_loopw [4] (fun s wr=>∃ k:Nat,k≤7∧s=.int .i64 k∧Hid (wsz n≤8 - k)∧Hid (wr.heap[w1.heap.size]? = some (.cells #[.int .u8 x0,.int .u8 x1,.int .u8 x2,.int .u8 x3,.int .u8 x4,.int .u8 x5,.int .u8 x6,.int .u8 x7] 151 (0,0)))∧Hid (Below w.heap.size w wr)) (fun s _=>7 - (intOf s).toNat)
 case atStart=>exact ⟨0,by decide,rfl,hsz.2,HBK,HB1⟩
 case round =>
  obtain ⟨k,hk,rfl,HS,HK,HB⟩:=hrel
  clear HBK HB1
  have fin:∀ (W:World) (e:Ending) (j:Nat),j≤7→Hid (wsz n=8 - j)→W.heap[w1.heap.size]? = some (.cells #[.int .u8 x0,.int .u8 x1,.int .u8 x2,.int .u8 x3,.int .u8 x4,.int .u8 x5,.int .u8 x6,.int .u8 x7] 151 (0,0))→Below w.heap.size w W→e=.returned (.slice (some ⟨w1.heap.size,j,none⟩) (8 - j) (8 - j))→∃ g k,e=.returned (.slice (some ⟨g,k,none⟩) (wsz n) (wsz n))∧w.heap.size≤g∧Row W (some ⟨g,k,none⟩) (wsz n) (wbL n)∧Below w.heap.size w W:=by
   intro W e j hj hq hh hbb he
   refine ⟨w1.heap.size,j,by rw [hq.out]; exact he,HS1.out,?_,hbb⟩
   unfold wbL
   rw [hq.out,show 8 - (8 - j)=j by omega]
   refine row_wb (t:=151) n j hj ?_
   rw [HX.out]
   exact hh
  have FIN:Hid (_):=fin
  clear fin
  have d0:wr.cell? ⟨w1.heap.size,0,none⟩=some (.int .u8 x0):=(cell_of_row _ _ 0 _ 151 (0,0) HK.out).trans rfl
  have d1:wr.cell? ⟨w1.heap.size,1,none⟩=some (.int .u8 x1):=(cell_of_row _ _ 1 _ 151 (0,0) HK.out).trans rfl
  have d2:wr.cell? ⟨w1.heap.size,2,none⟩=some (.int .u8 x2):=(cell_of_row _ _ 2 _ 151 (0,0) HK.out).trans rfl
  have d3:wr.cell? ⟨w1.heap.size,3,none⟩=some (.int .u8 x3):=(cell_of_row _ _ 3 _ 151 (0,0) HK.out).trans rfl
  have d4:wr.cell? ⟨w1.heap.size,4,none⟩=some (.int .u8 x4):=(cell_of_row _ _ 4 _ 151 (0,0) HK.out).trans rfl
  have d5:wr.cell? ⟨w1.heap.size,5,none⟩=some (.int .u8 x5):=(cell_of_row _ _ 5 _ 151 (0,0) HK.out).trans rfl
  have d6:wr.cell? ⟨w1.heap.size,6,none⟩=some (.int .u8 x6):=(cell_of_row _ _ 6 _ 151 (0,0) HK.out).trans rfl
  have d7:wr.cell? ⟨w1.heap.size,7,none⟩=some (.int .u8 x7):=(cell_of_row _ _ 7 _ 151 (0,0) HK.out).trans rfl
  rcases (show k=0∨k=1∨k=2∨k=3∨k=4∨k=5∨k=6∨k=7 by omega) with rfl | rfl | rfl | rfl | rfl | rfl | rfl | rfl
  ·by_cases c:s1 / 256=s0
   ·have cb:(s1 / 256 == s0)=true:=by simp [c]
    have HN:Hid (wsz n≤7):=HC0.out.1 c
    clear c
    go_wp2_with fail
    go_quiet (fail)
    go_wp2
    go_roundw
    case rel=>exact ⟨1,by decide,rfl,HN,HK,below_drewN HB.out _⟩
    case measure=>simp [intOf]
   ·have cb:(s1 / 256 == s0)=false:=by simp [c]
    have HN:Hid (wsz n=8):=by show _=_; have h:¬ wsz n≤7:=fun e=>c (HC0.out.2 e); have h2:=HS.out; omega
    clear c
    go_wp2_with fail
    go_quiet (fail)
    go_wp2
    go_ret
    exact FIN.out _ _ 0 (by decide) HN HK.out (below_drewN HB.out _) rfl
  ·by_cases c:s2 / 256=s1
   ·have cb:(s2 / 256 == s1)=true:=by simp [c]
    have HN:Hid (wsz n≤6):=(HC1.out HS.out).1 c
    clear c
    go_wp2_with fail
    go_quiet (fail)
    go_wp2
    go_roundw
    case rel=>exact ⟨2,by decide,rfl,HN,HK,below_drewN HB.out _⟩
    case measure=>simp [intOf]
   ·have cb:(s2 / 256 == s1)=false:=by simp [c]
    have HN:Hid (wsz n=7):=by show _=_; have h:¬ wsz n≤6:=fun e=>c ((HC1.out HS.out).2 e); have h2:=HS.out; omega
    clear c
    go_wp2_with fail
    go_quiet (fail)
    go_wp2
    go_ret
    exact FIN.out _ _ 1 (by decide) HN HK.out (below_drewN HB.out _) rfl
  ·by_cases c:s3 / 256=s2
   ·have cb:(s3 / 256 == s2)=true:=by simp [c]
    have HN:Hid (wsz n≤5):=(HC2.out HS.out).1 c
    clear c
    go_wp2_with fail
    go_quiet (fail)
    go_wp2
    go_roundw
    case rel=>exact ⟨3,by decide,rfl,HN,HK,below_drewN HB.out _⟩
    case measure=>simp [intOf]
   ·have cb:(s3 / 256 == s2)=false:=by simp [c]
    have HN:Hid (wsz n=6):=by show _=_; have h:¬ wsz n≤5:=fun e=>c ((HC2.out HS.out).2 e); have h2:=HS.out; omega
    clear c
    go_wp2_with fail
    go_quiet (fail)
    go_wp2
    go_ret
    exact FIN.out _ _ 2 (by decide) HN HK.out (below_drewN HB.out _) rfl
  ·by_cases c:s4 / 256=s3
   ·have cb:(s4 / 256 == s3)=true:=by simp [c]
    have HN:Hid (wsz n≤4):=(HC3.out HS.out).1 c
    clear c
    go_wp2_with fail
    go_quiet (fail)
    go_wp2
    go_roundw
    case rel=>exact ⟨4,by decide,rfl,HN,HK,below_drewN HB.out _⟩
    case measure=>simp [intOf]
   ·have cb:(s4 / 256 == s3)=false:=by simp [c]
    have HN:Hid (wsz n=5):=by show _=_; have h:¬ wsz n≤4:=fun e=>c ((HC3.out HS.out).2 e); have h2:=HS.out; omega
    clear c
    go_wp2_with fail
    go_quiet (fail)
    go_wp2
    go_ret
    exact FIN.out _ _ 3 (by decide) HN HK.out (below_drewN HB.out _) rfl
  ·by_cases c:s5 / 256=s4
   ·have cb:(s5 / 256 == s4)=true:=by simp [c]
    have HN:Hid (wsz n≤3):=(HC4.out HS.out).1 c
    clear c
    go_wp2_with fail
    go_quiet (fail)
    go_wp2
    go_roundw
    case rel=>exact ⟨5,by decide,rfl,HN,HK,below_drewN HB.out _⟩
    case measure=>simp [intOf]
   ·have cb:(s5 / 256 == s4)=false:=by simp [c]
    have HN:Hid (wsz n=4):=by show _=_; have h:¬ wsz n≤3:=fun e=>c ((HC4.out HS.out).2 e); have h2:=HS.out; omega
    clear c
    go_wp2_with fail
    go_quiet (fail)
    go_wp2
    go_ret
    exact FIN.out _ _ 4 (by decide) HN HK.out (below_drewN HB.out _) rfl
  ·by_cases c:s6 / 256=s5
   ·have cb:(s6 / 256 == s5)=true:=by simp [c]
    have HN:Hid (wsz n≤2):=(HC5.out HS.out).1 c
    clear c
    go_wp2_with fail
    go_quiet (fail)
    go_wp2
    go_roundw
    case rel=>exact ⟨6,by decide,rfl,HN,HK,below_drewN HB.out _⟩
    case measure=>simp [intOf]
   ·have cb:(s6 / 256 == s5)=false:=by simp [c]
    have HN:Hid (wsz n=3):=by show _=_; have h:¬ wsz n≤2:=fun e=>c ((HC5.out HS.out).2 e); have h2:=HS.out; omega
    clear c
    go_wp2_with fail
    go_quiet (fail)
    go_wp2
    go_ret
    exact FIN.out _ _ 5 (by decide) HN HK.out (below_drewN HB.out _) rfl
  ·by_cases c:s7 / 256=s6
   ·have cb:(s7 / 256 == s6)=true:=by simp [c]
    have HN:Hid (wsz n≤1):=(HC6.out HS.out).1 c
    clear c
    go_wp2_with fail
    go_quiet (fail)
    go_wp2
    go_roundw
    case rel=>exact ⟨7,by decide,rfl,HN,HK,below_drewN HB.out _⟩
    case measure=>simp [intOf]
   ·have cb:(s7 / 256 == s6)=false:=by simp [c]
    have HN:Hid (wsz n=2):=by show _=_; have h:¬ wsz n≤1:=fun e=>c ((HC6.out HS.out).2 e); have h2:=HS.out; omega
    clear c
    go_wp2_with fail
    go_quiet (fail)
    go_wp2
    go_ret
    exact FIN.out _ _ 6 (by decide) HN HK.out (below_drewN HB.out _) rfl
  ·have HN:Hid (wsz n=1):=by show _=_; have h2:=HS.out; omega
   go_wp2_with fail
   go_quiet (fail)
   go_wp2
   go_ret
   exact FIN.out _ _ 7 (by decide) HN HK.out (below_drewN HB.out _) rfl
open Go.RowKit
theorem wsz_at (n:Int)(k:Nat)(h0:1≤k)(h1:k<8):∃ H:Int,wrap64 (2 ^ (8 * k - 1))=H∧wrap64 (-2 ^ (8 * k - 1)) = -H∧(wsz n≤k↔-H≤n∧n<H):=by
 rcases (show k=1∨k=2∨k=3∨k=4∨k=5∨k=6∨k=7 by omega) with rfl | rfl | rfl | rfl | rfl | rfl | rfl
 ·exact ⟨128,by decide +kernel,by decide +kernel,wsz_le1 n⟩
 ·exact ⟨32768,by decide +kernel,by decide +kernel,wsz_le2 n⟩
 ·exact ⟨8388608,by decide +kernel,by decide +kernel,wsz_le3 n⟩
 ·exact ⟨2147483648,by decide +kernel,by decide +kernel,wsz_le4 n⟩
 ·exact ⟨549755813888,by decide +kernel,by decide +kernel,wsz_le5 n⟩
 ·exact ⟨140737488355328,by decide +kernel,by decide +kernel,wsz_le6 n⟩
 ·exact ⟨36028797018963968,by decide +kernel,by decide +kernel,wsz_le7 n⟩
theorem wb_at (n:Int)(q:Nat)(h:q≤7):n / 2 ^ (8 * q) % 256=(wb8 n).getD (7 - q) 0:=by
 match q,h with
 | 0,_=>simp [wb8]
 | 1,_=>simp [wb8]
 | 2,_=>simp [wb8]
 | 3,_=>simp [wb8]
 | 4,_=>simp [wb8]
 | 5,_=>simp [wb8]
 | 6,_=>simp [wb8]
 | 7,_=>simp [wb8]
def wbP (n:Int)(k q:Nat):List Int:=((wb8 n).drop (8 - k)).take (k - q)
theorem wbP_next (n:Int)(k q:Nat)(hk:k≤8)(hq:q<k):wbP n k (q+1)++[(wb8 n).getD (7 - q) 0]=wbP n k q:=by
 unfold wbP
 have hl:k - (q+1)<((wb8 n).drop (8 - k)).length:=by rw [List.length_drop,wb8_len]; omega
 rw [show k - q=k - (q+1)+1 by omega,take_snoc _ _ hl]
 congr 2
 rw [List.getD_eq_getElem?_getD,List.getD_eq_getElem?_getD,List.getElem?_drop,show 8 - k+(k - (q+1))=7 - q by omega]
theorem l3Number_any (n:Int)(w:World) :
  Calls Tryz.prog 137 #[.int .i64 n] w fun e w'=>∃ a c,e=.returned (.slice a (wsz n) c)∧Own w.heap.size w' a (wsz n) c (wbL n)∧Below w.heap.size w w':=by
 obtain ⟨i0,hi,hz0,hz1,hz2⟩:=info_parts Tryz.info5
 have HOE:Hid (_):=own_empty w
 have HBE:Hid (Below w.heap.size w (w.alloc (.cells #[] 5))):=(Below.refl _ _).alloc (Nat.le_refl _) _
 have hsz:=wsz_bd n
 go_enter Tryz.func137,Tryz.ntmps137
 go_wp2
 go_loopw [3] (fun s wr=>∃ k:Nat,k≤8∧1≤k∧s=.int .i64 k∧Hid (k≤wsz n)∧w=wr) (fun s _=>8 - (intOf s).toNat)
 case atStart=>exact ⟨1,by decide,by decide,rfl,hsz.1,rfl⟩
 case round =>
  obtain ⟨k,hk,hk1,rfl,HK,rfl⟩:=hrel
  by_cases hgo:k<8∧¬ wsz n≤k
  ·obtain ⟨H,hp,hn,hiff⟩:=wsz_at n k hk1 hgo.1
   have hk8i:(k:Int)<8:=by omega
   have HN:Hid (k+1≤wsz n):=by show _≤_; omega
   by_cases hH:H≤n
   ·clear hiff hgo
    go_wp2
    go_roundw
    case rel=>exact ⟨k+1,by omega,by omega,by go_num,HN,by first | rfl | trivial⟩
    case measure=>simp [intOf]; omega
   ·have hH2:n < -H:=by
     have h:=hgo.2
     rw [hiff] at h
     omega
    clear hiff hgo
    go_wp2
    go_roundw
    case rel=>exact ⟨k+1,by omega,by omega,by go_num,HN,by first | rfl | trivial⟩
    case measure=>simp [intOf]; omega
  ·have hex:k=wsz n:=by have:=HK.out; omega
   have HX:Hid (k=wsz n):=hex
   have tail:∀ (W:World),W=w.alloc (.cells #[] 5)→Own w.heap.size W (some ⟨w.heap.size,0,none⟩) 0 0 (wbP n k k)∧Below w.heap.size w W:=by
    intro W hW
    have e:wbP n k k = []:=by unfold wbP; simp
    rw [hW,e]
    exact ⟨HOE.out,HBE.out⟩
   have TAIL:Hid (_):=tail
   clear tail hex
   by_cases hk8:k<8
   ·obtain ⟨H,hp,hn,hiff⟩:=wsz_at n k hk1 hk8
    have hk8i:(k:Int)<8:=by omega
    have hH:¬ H≤n:=by have:=hiff.1 (by omega); omega
    have hH2:¬ n < -H:=by have:=hiff.1 (by omega); omega
    clear hiff hgo
    go_wp2
    go_loopw [4,5] (fun o i wr=>∃ (a:Option Addr) (q len cap:Nat),q≤k∧len=k - q∧i=.int .i64 ((q:Int) - 1)∧o=.slice a len cap∧Own w.heap.size wr a len cap (wbP n k q)∧Below w.heap.size w wr) (fun _ i _=>((intOf i)+1).toNat)
    case atStart=>exact ⟨_,k,0,0,Nat.le_refl _,by omega,rfl,rfl,(TAIL.out _ rfl).1,(TAIL.out _ rfl).2⟩
    case round =>
     obtain ⟨a,q,len,cap,hq,hle,rfl,rfl,hor,hbr⟩:=hrel
     have HLe:Hid (len=k - q):=hle
     clear hle
     rcases q with _ | q
     ·go_wp2
      go_ret
      have hlk:k=len:=by have:=HLe.out; omega
      subst hlk
      have e:wbP n k 0=wbL n:=by unfold wbP wbL; rw [← HX.out,List.take_of_length_le (by rw [List.length_drop,wb8_len]; omega)]
      rw [e] at hor
      exact ⟨_,_,by rw [← HX.out]; rfl,by rw [← HX.out]; exact hor,hbr⟩
     ·have e1:((q+1:Nat):Int) - 1=(q:Int):=by omega
      rw [e1]
      clear e1
      have hl9:len≤9:=by have:=HLe.out; omega
      have hq7:q≤7:=by omega
      have hws:w.heap.size≤wr.heap.size:=hbr.size
      have HE:Hid (_=_):=wb_at n q hq7
      go_wp2_with (at_builtin; go_loud (refine wpList_append_own _ rfl _ _ 32 rfl w.heap.size 5 i0 (.int .u8 0) 1 1 Tryz.underlying32 hi hz0 hz1 hz2 rfl (by decide) _ _ _ rfl (hor.row.alloc _) ⟨wr.heap.size,0,none⟩ 1 1 [_] rfl rfl (cell_one_new _ _ _) (by intro u hu; simp at hu; subst hu; rfl) (by unfold maxLen; omega) (by omega) (by simp; omega) ?_); intro v' w1 hown' hgrow' _)
      have hb1:Below w.heap.size w w1:=below_appended (hbr.alloc hws _) (by simp; omega) (hor.row.alloc _) hgrow'
      rw [HE.out] at hown'
      obtain ⟨a',cap',rfl,ho⟩:=own_appended (ys:=[(wb8 n).getD (7 - q) 0]) hown' hor.byte (by simpa using snoc_byte (xs:=[]) (by simp) _ (wb8_byte n (7 - q)))
      rw [wbP_next n k q (by omega) (by omega)] at ho
      go_roundw
      case rel=>exact ⟨a',q,len+1,cap',by omega,by have:=HLe.out; omega,rfl,rfl,ho,hb1⟩
      case measure=>simp [intOf]
   ·have hk8i:¬ (k:Int)<8:=by omega
    clear hgo
    go_wp2
    go_loopw [4,5] (fun o i wr=>∃ (a:Option Addr) (q len cap:Nat),q≤k∧len=k - q∧i=.int .i64 ((q:Int) - 1)∧o=.slice a len cap∧Own w.heap.size wr a len cap (wbP n k q)∧Below w.heap.size w wr) (fun _ i _=>((intOf i)+1).toNat)
    case atStart=>exact ⟨_,k,0,0,Nat.le_refl _,by omega,rfl,rfl,(TAIL.out _ rfl).1,(TAIL.out _ rfl).2⟩
    case round =>
     obtain ⟨a,q,len,cap,hq,hle,rfl,rfl,hor,hbr⟩:=hrel
     have HLe:Hid (len=k - q):=hle
     clear hle
     rcases q with _ | q
     ·go_wp2
      go_ret
      have hlk:k=len:=by have:=HLe.out; omega
      subst hlk
      have e:wbP n k 0=wbL n:=by unfold wbP wbL; rw [← HX.out,List.take_of_length_le (by rw [List.length_drop,wb8_len]; omega)]
      rw [e] at hor
      exact ⟨_,_,by rw [← HX.out]; rfl,by rw [← HX.out]; exact hor,hbr⟩
     ·have e1:((q+1:Nat):Int) - 1=(q:Int):=by omega
      rw [e1]
      clear e1
      have hl9:len≤9:=by have:=HLe.out; omega
      have hq7:q≤7:=by omega
      have hws:w.heap.size≤wr.heap.size:=hbr.size
      have HE:Hid (_=_):=wb_at n q hq7
      go_wp2_with (at_builtin; go_loud (refine wpList_append_own _ rfl _ _ 32 rfl w.heap.size 5 i0 (.int .u8 0) 1 1 Tryz.underlying32 hi hz0 hz1 hz2 rfl (by decide) _ _ _ rfl (hor.row.alloc _) ⟨wr.heap.size,0,none⟩ 1 1 [_] rfl rfl (cell_one_new _ _ _) (by intro u hu; simp at hu; subst hu; rfl) (by unfold maxLen; omega) (by omega) (by simp; omega) ?_); intro v' w1 hown' hgrow' _)
      have hb1:Below w.heap.size w w1:=below_appended (hbr.alloc hws _) (by simp; omega) (hor.row.alloc _) hgrow'
      rw [HE.out] at hown'
      obtain ⟨a',cap',rfl,ho⟩:=own_appended (ys:=[(wb8 n).getD (7 - q) 0]) hown' hor.byte (by simpa using snoc_byte (xs:=[]) (by simp) _ (wb8_byte n (7 - q)))
      rw [wbP_next n k q (by omega) (by omega)] at ho
      go_roundw
      case rel=>exact ⟨a',q,len+1,cap',by omega,by have:=HLe.out; omega,rfl,rfl,ho,hb1⟩
      case measure=>simp [intOf]
open Go.RowKit
theorem genP_1 {g:GT}{xs:List PT}(hk:g.kind=1)(hb:bareB g xs.length=true)(h0:g.bits=0):genP g xs↔hostP g.text true:=by
 obtain ⟨q1,q2⟩:=bare_12 hb (.inl hk)
 unfold genP
 constructor
 ·rintro (⟨_,_,h⟩ | ⟨h,_⟩ | ⟨h,_⟩ | ⟨h,_⟩)
  ·exact h
  all_goals omega
 ·exact fun h=>.inl ⟨hk,⟨q1,h0,q2⟩,h⟩
theorem genP_2 {g:GT}{xs:List PT}(hk:g.kind=2)(hb:bareB g xs.length=true)(h0:g.bits=0):genP g xs↔mailP g.text:=by
 obtain ⟨q1,q2⟩:=bare_12 hb (.inr hk)
 unfold genP
 constructor
 ·rintro (⟨h,_⟩ | ⟨_,_,h⟩ | ⟨h,_⟩ | ⟨h,_⟩)
  ·omega
  ·exact h
  all_goals omega
 ·exact fun h=>.inr (.inl ⟨hk,⟨q1,h0,q2⟩,h⟩)
theorem genP_3 {g:GT}{xs:List PT}(hk:g.kind=3)(hb:bareB g xs.length=true)(h0:g.bits=0):genP g xs↔(0≤g.addr∧g.addr≤4294967295):=by
 obtain ⟨q1,q2⟩:=bare_3 hb hk
 unfold genP
 constructor
 ·rintro (⟨h,_⟩ | ⟨h,_⟩ | ⟨_,_,h,_⟩ | ⟨h,_⟩)
  ·omega
  ·omega
  ·exact h
  ·omega
 ·exact fun h=>.inr (.inr (.inl ⟨hk,⟨q1,q2⟩,h,h0⟩))
theorem genP_4 {g:GT}{xs:List PT}(hk:g.kind=4)(hb:bareB g xs.length=true)(h0:g.bits=0):genP g xs↔(nameP xs∧0<xs.length):=by
 obtain ⟨q1,q2⟩:=bare_4 hb hk
 unfold genP
 constructor
 ·rintro (⟨h,_⟩ | ⟨h,_⟩ | ⟨h,_⟩ | ⟨_,_,h⟩)
  ·omega
  ·omega
  ·omega
  ·exact h
 ·exact fun h=>.inr (.inr (.inr ⟨hk,⟨q1,q2,h0⟩,h⟩))
theorem genP_bits {g:GT}{xs:List PT}(h:genP g xs):g.bits=0:=by
 rcases h with ⟨_,⟨_,h,_⟩,_⟩ | ⟨_,⟨_,h,_⟩,_⟩ | ⟨_,_,_,h⟩ | ⟨_,⟨_,_,h⟩,_⟩ <;> exact h
theorem genP_kind {g:GT}{xs:List PT}(h:genP g xs):g.kind=1∨g.kind=2∨g.kind=3∨g.kind=4:=by
 rcases h with ⟨h,_⟩ | ⟨h,_⟩ | ⟨h,_⟩ | ⟨h,_⟩ <;> omega
theorem baseP_kind {g:GT}{xs:List PT}(h:baseP g xs):g.kind=1∨g.kind=2∨g.kind=3∨g.kind=4:=by
 rcases h with ⟨h,_⟩ | ⟨h,_⟩ | ⟨h,_⟩ | ⟨h,_⟩ <;> omega
theorem specGenOk_any (g:GT)(a:Option Addr)(n c:Nat)(xs:List PT)(w:World)(h:Pts w a n xs)(hz:∀ k,k<n→(xs.getD k default).val.size≤1048576)(hs:g.text.size≤1048576) :
  Calls Tryz.prog 133 #[gnv g a n c] w (SaysB (genP g xs) w):=by
 obtain ⟨P,hP⟩:∃ P,P=genP g xs:=⟨_,rfl⟩
 rw [← hP]
 have HP:Hid (P=genP g xs):=hP
 have HK:Hid (Pts w a n xs):=h
 have HZ:Hid (_):=hz
 have hl:=h.len
 have hmx:=h.max
 clear hP h hz
 have hbl:Below w.heap.size w (w.alloc (.cells #[.int .i64 g.kind,.string g.text,.int .i64 g.addr,.int .i64 g.bits,.slice a n c] 127)):=(Below.refl _ _).alloc (Nat.le_refl _) _
 have hbx:=boxG_new 127 w g a n c
 have LB:=l6Bare_any g a n c
 unfold gnv at LB ⊢
 go_enter Tryz.func133,Tryz.ntmps133
 go_wp2_with fail
 refine (LB _).mono ?_
 rintro e w1 ⟨rfl,hb1⟩
 have B1:Below w.heap.size w w1:=hbl.trans (hb1.mono hbl.size)
 obtain ⟨p0,p1,p2,p3,p4⟩:=(hbx.kept hb1).cells
 have hlt:w.heap.size<w1.heap.size:=Nat.lt_of_lt_of_le (by simp) hb1.size
 obtain ⟨B,hB⟩:∃ B,B=bareB g n:=⟨_,rfl⟩
 rw [← hB]
 clear LB hbx hbl hb1
 cases B with
 | false =>
  have HN:Hid (¬ P):=by show ¬ P; rw [HP.out]; exact (bare_f (by rw [hl]; exact hB.symm)).1
  clear hB HP HK HZ
  go_wp2
  go_ret
  exact saysB_f HN.out B1
 | true =>
  have HBB:Hid (bareB g xs.length=true):=by show _=true; rw [hl]; exact hB.symm
  clear hB
  by_cases hb0:g.bits=0
  ·have zb:(g.bits != 0)=false:=by simp [hb0]
   by_cases k1:g.kind=1
   ·have HI:Hid (P↔hostP g.text true):=by show P↔_; rw [HP.out]; exact genP_1 k1 HBB.out hb0
    have e1:(g.kind == 1)=true:=beq_iff_eq.2 k1
    clear HP HK HZ HBB hb0 k1
    go_wp2_with fail
    refine (specHostOk_any g.text true _).mono ?_
    rintro e w2 ⟨b,rfl,HV,hb2⟩
    have B2:Below w.heap.size w w2:=B1.trans (hb2.mono B1.size)
    go_wp2
    go_ret
    exact ⟨b,rfl,HV.out.trans HI.out.symm,B2⟩
   have e1:(g.kind == 1)=false:=beq_false_of_ne k1
   by_cases k2:g.kind=2
   ·have HI:Hid (P↔mailP g.text):=by show P↔_; rw [HP.out]; exact genP_2 k2 HBB.out hb0
    have e2:(g.kind == 2)=true:=beq_iff_eq.2 k2
    clear HP HK HZ HBB hb0 k1 k2
    go_wp2_with fail
    refine (l6MailOk_any g.text _ hs).mono ?_
    rintro e w2 ⟨b,rfl,HV,hb2⟩
    have B2:Below w.heap.size w w2:=B1.trans (hb2.mono B1.size)
    go_wp2
    go_ret
    exact ⟨b,rfl,HV.out.trans HI.out.symm,B2⟩
   have e2:(g.kind == 2)=false:=beq_false_of_ne k2
   by_cases k3:g.kind=3
   ·have HI:Hid (P↔(0≤g.addr∧g.addr≤4294967295)):=by show P↔_; rw [HP.out]; exact genP_3 k3 HBB.out hb0
    have e3:(g.kind == 3)=true:=beq_iff_eq.2 k3
    clear HP HK HZ HBB hb0 k1 k2 k3
    go_wp2_with fail
    refine (l1In_says g.addr 0 4294967295 _).mono ?_
    rintro e w2 ⟨b,rfl,HV,hw2⟩
    subst hw2
    go_wp2
    go_ret
    exact ⟨b,rfl,HV.out.trans HI.out.symm,B1⟩
   have e3:(g.kind == 3)=false:=beq_false_of_ne k3
   by_cases k4:g.kind=4
   ·have HI:Hid (P↔(nameP xs∧0<xs.length)):=by show P↔_; rw [HP.out]; exact genP_4 k4 HBB.out hb0
    have e4:(g.kind == 4)=true:=beq_iff_eq.2 k4
    clear HP HBB hb0 k1 k2 k3 k4
    have SN:=specNameOk_any a n c xs w1 (HK.out.kept B1) HZ.out
    unfold nmv at SN
    go_wp2_with fail
    refine SN.mono ?_
    rintro e w2 ⟨b,rfl,HV,hb2⟩
    have B2:Below w.heap.size w w2:=B1.trans (hb2.mono B1.size)
    have y4:w2.cell? ⟨w.heap.size,4,none⟩=some (.slice a n c):=(hb2.cell (p:=⟨w.heap.size,4,none⟩) hlt).trans p4
    clear SN HK HZ
    cases b with
    | false =>
     have HN:Hid (¬ P):=fun q=>Bool.false_ne_true (HV.out.2 (HI.out.1 q).1)
     clear HV HI
     go_wp2
     go_ret
     exact saysB_f HN.out B2
    | true =>
     by_cases hn0:0<n
     ·have HN:Hid P:=HI.out.2 ⟨HV.out.1 rfl,by rw [hl]; exact hn0⟩
      have zn:decide ((0:Int)<(n:Int))=true:=decide_eq_true (by omega)
      clear HV HI
      go_wp2
      go_ret
      exact saysB_t HN.out B2
     ·have HN:Hid (¬ P):=fun q=>hn0 (by rw [← hl]; exact (HI.out.1 q).2)
      have zn:decide ((0:Int)<(n:Int))=false:=decide_eq_false (by omega)
      clear HV HI
      go_wp2
      go_ret
      exact saysB_f HN.out B2
   ·have e4:(g.kind == 4)=false:=beq_false_of_ne k4
    have HN:Hid (¬ P):=by show ¬ P; rw [HP.out]; intro q; rcases genP_kind q with q | q | q | q <;> omega
    clear HP HK HZ HBB hb0 k1 k2 k3 k4
    go_wp2
    go_ret
    exact saysB_f HN.out B1
  ·have zb:(g.bits != 0)=true:=bne_iff_ne.2 hb0
   have HN:Hid (¬ P):=by show ¬ P; rw [HP.out]; exact fun q=>hb0 (genP_bits q)
   clear HP HK HZ HBB hb0
   go_wp2
   go_ret
   exact saysB_f HN.out B1
end Go.Proofs.YtmdfbnlgfhjnoaaGreatDoor
