import Derived.WalkSmall
import Derived.Test.YtnmplldhdfingaaGreatDoorFG13
import Derived.Test.YtnmplldhdfingaaGreatDoorFG08
set_option maxRecDepth 10000
set_option maxHeartbeats 8000000
set_option linter.unusedVariables false
namespace Go.Proofs.YtnmplldhdfingaaGreatDoor
open Go.RowKit
def wb8 (n:Int):List Int:=[n / 72057594037927936 % 256,n / 281474976710656 % 256,n / 1099511627776 % 256,n / 4294967296 % 256,n / 16777216 % 256,n / 65536 % 256,n / 256 % 256,n % 256]
def wsz (n:Int):Nat:=if -128≤n∧n<128 then 1 else if -32768≤n∧n<32768 then 2 else if -8388608≤n∧n<8388608 then 3 else if -2147483648≤n∧n<2147483648 then 4 else if -549755813888≤n∧n<549755813888 then 5 else if -140737488355328≤n∧n<140737488355328 then 6 else if -36028797018963968≤n∧n<36028797018963968 then 7 else 8
def wbL (n:Int):List Int:=(wb8 n).drop (8 - wsz n)
theorem wsz_bd (n:Int):1≤wsz n∧wsz n≤8:=by
 unfold wsz
 repeat' split
 all_goals omega
theorem wb8_len (n:Int):(wb8 n).length=8:=rfl
theorem wbL_len (n:Int):(wbL n).length=wsz n:=by have:=wsz_bd n; unfold wbL; rw [List.length_drop,wb8_len]; omega
theorem wb8_byte (n:Int):∀ k,0≤(wb8 n).getD k 0∧(wb8 n).getD k 0≤255:=by
 intro k
 match k with
 | 0 | 1 | 2 | 3 | 4 | 5 | 6 | 7=>simp [wb8]; omega
 | k+8=>simp [wb8]
theorem wb_drop (n:Int)(k:Nat):∀ j,0≤((wb8 n).drop k).getD j 0∧((wb8 n).drop k).getD j 0≤255:=by
 intro j
 have e:((wb8 n).drop k).getD j 0=(wb8 n).getD (k+j) 0:=by simp [List.getD_eq_getElem?_getD,List.getElem?_drop]
 rw [e]
 exact wb8_byte n _
theorem eight_wb (n:Int)(m:Nat)(h:n % 18446744073709551616=(m:Int)):eight m=wb8 n:=by
 unfold eight wb8
 rw [← h]
 simp only [List.cons.injEq,and_true]
 refine ⟨by omega,by omega,by omega,by omega,by omega,by omega,by omega,by omega⟩
def sg8 (x:Int):Int:=if x<128 then x else x - 256
theorem sg8_wrap (x:Int)(h:0≤x∧x≤255):IntKind.i8.wrap x=sg8 x:=by
 unfold sg8
 simp only [IntKind.wrap,IntKind.bits,IntKind.signed]
 simp
 split <;> split <;> omega
theorem sg8_bd (x:Int)(h:0≤x∧x≤255) : -128≤sg8 x∧sg8 x≤127:=by unfold sg8; split <;> omega
theorem wsz_le1 (n:Int):wsz n≤1↔-128≤n∧n<128:=by
 unfold wsz
 repeat' split
 all_goals omega
theorem wsz_le2 (n:Int):wsz n≤2↔-32768≤n∧n<32768:=by
 unfold wsz
 repeat' split
 all_goals omega
theorem wsz_le3 (n:Int):wsz n≤3↔-8388608≤n∧n<8388608:=by
 unfold wsz
 repeat' split
 all_goals omega
theorem wsz_le4 (n:Int):wsz n≤4↔-2147483648≤n∧n<2147483648:=by
 unfold wsz
 repeat' split
 all_goals omega
theorem wsz_le5 (n:Int):wsz n≤5↔-549755813888≤n∧n<549755813888:=by
 unfold wsz
 repeat' split
 all_goals omega
theorem wsz_le6 (n:Int):wsz n≤6↔-140737488355328≤n∧n<140737488355328:=by
 unfold wsz
 repeat' split
 all_goals omega
theorem wsz_le7 (n:Int):wsz n≤7↔-36028797018963968≤n∧n<36028797018963968:=by
 unfold wsz
 repeat' split
 all_goals omega
theorem wsz_step0 (n:Int)(h0 : -9223372036854775808≤n)(h1:n≤9223372036854775807):(sg8 (n / 281474976710656 % 256) / 256=sg8 (n / 72057594037927936 % 256))↔wsz n≤7:=by
 rw [wsz_le7]
 unfold sg8
 split <;> split <;> omega
theorem wsz_step1 (n:Int)(h:wsz n≤7):(sg8 (n / 1099511627776 % 256) / 256=sg8 (n / 281474976710656 % 256))↔wsz n≤6:=by
 rw [wsz_le6]
 rw [wsz_le7] at h
 unfold sg8
 split <;> split <;> omega
theorem wsz_step2 (n:Int)(h:wsz n≤6):(sg8 (n / 4294967296 % 256) / 256=sg8 (n / 1099511627776 % 256))↔wsz n≤5:=by
 rw [wsz_le5]
 rw [wsz_le6] at h
 unfold sg8
 split <;> split <;> omega
theorem wsz_step3 (n:Int)(h:wsz n≤5):(sg8 (n / 16777216 % 256) / 256=sg8 (n / 4294967296 % 256))↔wsz n≤4:=by
 rw [wsz_le4]
 rw [wsz_le5] at h
 unfold sg8
 split <;> split <;> omega
theorem wsz_step4 (n:Int)(h:wsz n≤4):(sg8 (n / 65536 % 256) / 256=sg8 (n / 16777216 % 256))↔wsz n≤3:=by
 rw [wsz_le3]
 rw [wsz_le4] at h
 unfold sg8
 split <;> split <;> omega
theorem wsz_step5 (n:Int)(h:wsz n≤3):(sg8 (n / 256 % 256) / 256=sg8 (n / 65536 % 256))↔wsz n≤2:=by
 rw [wsz_le2]
 rw [wsz_le3] at h
 unfold sg8
 split <;> split <;> omega
theorem wsz_step6 (n:Int)(h:wsz n≤2):(sg8 (n % 256) / 256=sg8 (n / 256 % 256))↔wsz n≤1:=by
 rw [wsz_le1]
 rw [wsz_le2] at h
 unfold sg8
 split <;> split <;> omega
theorem row_wb {w:World}{g t:Nat}(n:Int)(k:Nat)(hk:k≤7)(h:w.heap[g]? = some (.cells ((wb8 n).map (Value.int .u8)).toArray t (0,0))):Row w (some ⟨g,k,none⟩) (8 - k) ((wb8 n).drop k):=by
 refine ⟨by rw [List.length_drop,wb8_len],fun j hj=>⟨g,k,rfl,(Array.getElem?_eq_some_iff.1 h).1,?_⟩,wb_drop n k⟩
 rw [cell_of_row _ g (k+j) _ t (0,0) h]
 have e:((wb8 n).drop k).getD j 0=(wb8 n)[k+j]'(by rw [wb8_len]; omega):=by
  rw [List.getD_eq_getElem?_getD,List.getElem?_drop,List.getElem?_eq_getElem (by rw [wb8_len]; omega)]
  rfl
 rw [e]
 simp only [List.getElem?_toArray,List.getElem?_map,List.getElem?_eq_getElem (show k+j<(wb8 n).length by rw [wb8_len]; omega),Option.map_some]
theorem wholeBytes_any (n:Int)(w:World)(h0 : -9223372036854775808≤n)(h1:n≤9223372036854775807) :
  Calls Tryz.prog 111 #[.int .i64 n] w fun e w'=>∃ g k,e=.returned (.slice (some ⟨g,k,none⟩) (wsz n) (wsz n))∧w.heap.size≤g∧Row w' (some ⟨g,k,none⟩) (wsz n) (wbL n)∧Below w.heap.size w w':=by
 obtain ⟨m,hm⟩:∃ m:Nat,n % 18446744073709551616=(m:Int):=Int.eq_ofNat_of_zero_le (by omega)
 have hu:IntKind.u64.wrap n=(m:Int):=by rw [IntKind.wrap_u64]; exact hm
 have HE:Hid (eight m=wb8 n):=eight_wb n m hm
 have hm2:(m:Int)≤18446744073709551615:=by omega
 clear hm
 go_enter Tryz.func111,Tryz.ntmps111
 go_wp2_with fail
 refine (eight_any m _ hm2).mono ?_
 rintro e w1 ⟨x0,x1,x2,x3,x4,x5,x6,x7,rfl,hx,hb1⟩
 rw [HE.out] at hx
 have HBK:Hid ((w1.alloc (.cells #[.int .u8 x0,.int .u8 x1,.int .u8 x2,.int .u8 x3,.int .u8 x4,.int .u8 x5,.int .u8 x6,.int .u8 x7] 171)).heap[w1.heap.size]? = some (.cells #[.int .u8 x0,.int .u8 x1,.int .u8 x2,.int .u8 x3,.int .u8 x4,.int .u8 x5,.int .u8 x6,.int .u8 x7] 171 (0,0))):=heap_alloc_new w1 _
 have HB1:Hid (Below w.heap.size w (w1.alloc (.cells #[.int .u8 x0,.int .u8 x1,.int .u8 x2,.int .u8 x3,.int .u8 x4,.int .u8 x5,.int .u8 x6,.int .u8 x7] 171))):=hb1.alloc hb1.size _
 have HS1:Hid (w.heap.size≤w1.heap.size):=hb1.size
 have hx2:=hx
 unfold wb8 at hx2
 simp only [List.cons.injEq,and_true] at hx2
 obtain ⟨e0,e1,e2,e3,e4,e5,e6,e7⟩:=hx2
 have HX:Hid (wb8 n = [x0,x1,x2,x3,x4,x5,x6,x7]):=hx.symm
 have HC0:Hid ((sg8 x1 / 256=sg8 x0)↔wsz n≤7):=by rw [e0,e1]; exact wsz_step0 n h0 h1
 have HC1:Hid (wsz n≤7→((sg8 x2 / 256=sg8 x1)↔wsz n≤6)):=by rw [e1,e2]; exact wsz_step1 n
 have HC2:Hid (wsz n≤6→((sg8 x3 / 256=sg8 x2)↔wsz n≤5)):=by rw [e2,e3]; exact wsz_step2 n
 have HC3:Hid (wsz n≤5→((sg8 x4 / 256=sg8 x3)↔wsz n≤4)):=by rw [e3,e4]; exact wsz_step3 n
 have HC4:Hid (wsz n≤4→((sg8 x5 / 256=sg8 x4)↔wsz n≤3)):=by rw [e4,e5]; exact wsz_step4 n
 have HC5:Hid (wsz n≤3→((sg8 x6 / 256=sg8 x5)↔wsz n≤2)):=by rw [e5,e6]; exact wsz_step5 n
 have HC6:Hid (wsz n≤2→((sg8 x7 / 256=sg8 x6)↔wsz n≤1)):=by rw [e6,e7]; exact wsz_step6 n
 have hsz:=wsz_bd n
 have y0:0≤x0∧x0≤255:=by omega
 obtain ⟨s0,hs0⟩:∃ s,s=sg8 x0:=⟨_,rfl⟩
 have b0:=sg8_bd x0 y0
 have v0:=sg8_wrap x0 y0
 rw [← hs0] at b0 v0
 have y1:0≤x1∧x1≤255:=by omega
 obtain ⟨s1,hs1⟩:∃ s,s=sg8 x1:=⟨_,rfl⟩
 have b1:=sg8_bd x1 y1
 have v1:=sg8_wrap x1 y1
 rw [← hs1] at b1 v1
 have y2:0≤x2∧x2≤255:=by omega
 obtain ⟨s2,hs2⟩:∃ s,s=sg8 x2:=⟨_,rfl⟩
 have b2:=sg8_bd x2 y2
 have v2:=sg8_wrap x2 y2
 rw [← hs2] at b2 v2
 have y3:0≤x3∧x3≤255:=by omega
 obtain ⟨s3,hs3⟩:∃ s,s=sg8 x3:=⟨_,rfl⟩
 have b3:=sg8_bd x3 y3
 have v3:=sg8_wrap x3 y3
 rw [← hs3] at b3 v3
 have y4:0≤x4∧x4≤255:=by omega
 obtain ⟨s4,hs4⟩:∃ s,s=sg8 x4:=⟨_,rfl⟩
 have b4:=sg8_bd x4 y4
 have v4:=sg8_wrap x4 y4
 rw [← hs4] at b4 v4
 have y5:0≤x5∧x5≤255:=by omega
 obtain ⟨s5,hs5⟩:∃ s,s=sg8 x5:=⟨_,rfl⟩
 have b5:=sg8_bd x5 y5
 have v5:=sg8_wrap x5 y5
 rw [← hs5] at b5 v5
 have y6:0≤x6∧x6≤255:=by omega
 obtain ⟨s6,hs6⟩:∃ s,s=sg8 x6:=⟨_,rfl⟩
 have b6:=sg8_bd x6 y6
 have v6:=sg8_wrap x6 y6
 rw [← hs6] at b6 v6
 have y7:0≤x7∧x7≤255:=by omega
 obtain ⟨s7,hs7⟩:∃ s,s=sg8 x7:=⟨_,rfl⟩
 have b7:=sg8_bd x7 y7
 have v7:=sg8_wrap x7 y7
 rw [← hs7] at b7 v7
 rw [← hs0,← hs1] at HC0
 rw [← hs1,← hs2] at HC1
 rw [← hs2,← hs3] at HC2
 rw [← hs3,← hs4] at HC3
 rw [← hs4,← hs5] at HC4
 rw [← hs5,← hs6] at HC5
 rw [← hs6,← hs7] at HC6
 clear hx hb1 e0 e1 e2 e3 e4 e5 e6 e7 hs0 hs1 hs2 hs3 hs4 hs5 hs6 hs7
 obtain ⟨w2,hw2⟩:∃ w2,w2=w1.alloc (.cells #[.int .u8 x0,.int .u8 x1,.int .u8 x2,.int .u8 x3,.int .u8 x4,.int .u8 x5,.int .u8 x6,.int .u8 x7] 171):=⟨_,rfl⟩
 rw [← hw2] at HBK HB1
 have HW:Hid (_=_):=hw2
 clear hw2
 go_wp2
 rw [← HW.out]
 clear HW
 go_loopw [4] (fun s wr=>∃ k:Nat,k≤7∧s=.int .i64 k∧Hid (wsz n≤8 - k)∧Hid (wr.heap[w1.heap.size]? = some (.cells #[.int .u8 x0,.int .u8 x1,.int .u8 x2,.int .u8 x3,.int .u8 x4,.int .u8 x5,.int .u8 x6,.int .u8 x7] 171 (0,0)))∧Hid (Below w.heap.size w wr)) (fun s _=>7 - (intOf s).toNat)
 case atStart=>exact ⟨0,by decide,rfl,hsz.2,HBK,HB1⟩
 case round =>
  obtain ⟨k,hk,rfl,HS,HK,HB⟩:=hrel
  clear HBK HB1
  have fin:∀ (W:World) (e:Ending) (j:Nat),j≤7→Hid (wsz n=8 - j)→W.heap[w1.heap.size]? = some (.cells #[.int .u8 x0,.int .u8 x1,.int .u8 x2,.int .u8 x3,.int .u8 x4,.int .u8 x5,.int .u8 x6,.int .u8 x7] 171 (0,0))→Below w.heap.size w W→e=.returned (.slice (some ⟨w1.heap.size,j,none⟩) (8 - j) (8 - j))→∃ g k,e=.returned (.slice (some ⟨g,k,none⟩) (wsz n) (wsz n))∧w.heap.size≤g∧Row W (some ⟨g,k,none⟩) (wsz n) (wbL n)∧Below w.heap.size w W:=by
   intro W e j hj hq hh hbb he
   refine ⟨w1.heap.size,j,by rw [hq.out]; exact he,HS1.out,?_,hbb⟩
   unfold wbL
   rw [hq.out,show 8 - (8 - j)=j by omega]
   refine row_wb (t:=171) n j hj ?_
   rw [HX.out]
   exact hh
  have FIN:Hid (_):=fin
  clear fin
  have d0:wr.cell? ⟨w1.heap.size,0,none⟩=some (.int .u8 x0):=qk HK.out rfl
  have d1:wr.cell? ⟨w1.heap.size,1,none⟩=some (.int .u8 x1):=qk HK.out rfl
  have d2:wr.cell? ⟨w1.heap.size,2,none⟩=some (.int .u8 x2):=qk HK.out rfl
  have d3:wr.cell? ⟨w1.heap.size,3,none⟩=some (.int .u8 x3):=qk HK.out rfl
  have d4:wr.cell? ⟨w1.heap.size,4,none⟩=some (.int .u8 x4):=qk HK.out rfl
  have d5:wr.cell? ⟨w1.heap.size,5,none⟩=some (.int .u8 x5):=qk HK.out rfl
  have d6:wr.cell? ⟨w1.heap.size,6,none⟩=some (.int .u8 x6):=qk HK.out rfl
  have d7:wr.cell? ⟨w1.heap.size,7,none⟩=some (.int .u8 x7):=qk HK.out rfl
  rcases (show k=0∨k=1∨k=2∨k=3∨k=4∨k=5∨k=6∨k=7 by omega) with rfl | rfl | rfl | rfl | rfl | rfl | rfl | rfl
  ·by_cases c:s1 / 256=s0
   ·have cb:(s1 / 256 == s0)=true:=by simp [c]
    have HN:Hid (wsz n≤7):=HC0.out.1 c
    clear c
    go_wp2_with fail
    go_quiet (fail)
    go_wp2
    go_roundw
    case rel=>exact ⟨1,by decide,rfl,HN,HK,below_drewN HB.out _⟩
    case measure=>simp [intOf]
   ·have cb:(s1 / 256 == s0)=false:=by simp [c]
    have HN:Hid (wsz n=8):=by show _=_; have h:¬ wsz n≤7:=fun e=>c (HC0.out.2 e); have h2:=HS.out; omega
    clear c
    go_wp2_with fail
    go_quiet (fail)
    go_wp2
    go_ret
    exact FIN.out _ _ 0 (by decide) HN HK.out (below_drewN HB.out _) rfl
  ·by_cases c:s2 / 256=s1
   ·have cb:(s2 / 256 == s1)=true:=by simp [c]
    have HN:Hid (wsz n≤6):=(HC1.out HS.out).1 c
    clear c
    go_wp2_with fail
    go_quiet (fail)
    go_wp2
    go_roundw
    case rel=>exact ⟨2,by decide,rfl,HN,HK,below_drewN HB.out _⟩
    case measure=>simp [intOf]
   ·have cb:(s2 / 256 == s1)=false:=by simp [c]
    have HN:Hid (wsz n=7):=by show _=_; have h:¬ wsz n≤6:=fun e=>c ((HC1.out HS.out).2 e); have h2:=HS.out; omega
    clear c
    go_wp2_with fail
    go_quiet (fail)
    go_wp2
    go_ret
    exact FIN.out _ _ 1 (by decide) HN HK.out (below_drewN HB.out _) rfl
  ·by_cases c:s3 / 256=s2
   ·have cb:(s3 / 256 == s2)=true:=by simp [c]
    have HN:Hid (wsz n≤5):=(HC2.out HS.out).1 c
    clear c
    go_wp2_with fail
    go_quiet (fail)
    go_wp2
    go_roundw
    case rel=>exact ⟨3,by decide,rfl,HN,HK,below_drewN HB.out _⟩
    case measure=>simp [intOf]
   ·have cb:(s3 / 256 == s2)=false:=by simp [c]
    have HN:Hid (wsz n=6):=by show _=_; have h:¬ wsz n≤5:=fun e=>c ((HC2.out HS.out).2 e); have h2:=HS.out; omega
    clear c
    go_wp2_with fail
    go_quiet (fail)
    go_wp2
    go_ret
    exact FIN.out _ _ 2 (by decide) HN HK.out (below_drewN HB.out _) rfl
  ·by_cases c:s4 / 256=s3
   ·have cb:(s4 / 256 == s3)=true:=by simp [c]
    have HN:Hid (wsz n≤4):=(HC3.out HS.out).1 c
    clear c
    go_wp2_with fail
    go_quiet (fail)
    go_wp2
    go_roundw
    case rel=>exact ⟨4,by decide,rfl,HN,HK,below_drewN HB.out _⟩
    case measure=>simp [intOf]
   ·have cb:(s4 / 256 == s3)=false:=by simp [c]
    have HN:Hid (wsz n=5):=by show _=_; have h:¬ wsz n≤4:=fun e=>c ((HC3.out HS.out).2 e); have h2:=HS.out; omega
    clear c
    go_wp2_with fail
    go_quiet (fail)
    go_wp2
    go_ret
    exact FIN.out _ _ 3 (by decide) HN HK.out (below_drewN HB.out _) rfl
  ·by_cases c:s5 / 256=s4
   ·have cb:(s5 / 256 == s4)=true:=by simp [c]
    have HN:Hid (wsz n≤3):=(HC4.out HS.out).1 c
    clear c
    go_wp2_with fail
    go_quiet (fail)
    go_wp2
    go_roundw
    case rel=>exact ⟨5,by decide,rfl,HN,HK,below_drewN HB.out _⟩
    case measure=>simp [intOf]
   ·have cb:(s5 / 256 == s4)=false:=by simp [c]
    have HN:Hid (wsz n=4):=by show _=_; have h:¬ wsz n≤3:=fun e=>c ((HC4.out HS.out).2 e); have h2:=HS.out; omega
    clear c
    go_wp2_with fail
    go_quiet (fail)
    go_wp2
    go_ret
    exact FIN.out _ _ 4 (by decide) HN HK.out (below_drewN HB.out _) rfl
  ·by_cases c:s6 / 256=s5
   ·have cb:(s6 / 256 == s5)=true:=by simp [c]
    have HN:Hid (wsz n≤2):=(HC5.out HS.out).1 c
    clear c
    go_wp2_with fail
    go_quiet (fail)
    go_wp2
    go_roundw
    case rel=>exact ⟨6,by decide,rfl,HN,HK,below_drewN HB.out _⟩
    case measure=>simp [intOf]
   ·have cb:(s6 / 256 == s5)=false:=by simp [c]
    have HN:Hid (wsz n=3):=by show _=_; have h:¬ wsz n≤2:=fun e=>c ((HC5.out HS.out).2 e); have h2:=HS.out; omega
    clear c
    go_wp2_with fail
    go_quiet (fail)
    go_wp2
    go_ret
    exact FIN.out _ _ 5 (by decide) HN HK.out (below_drewN HB.out _) rfl
  ·by_cases c:s7 / 256=s6
   ·have cb:(s7 / 256 == s6)=true:=by simp [c]
    have HN:Hid (wsz n≤1):=(HC6.out HS.out).1 c
    clear c
    go_wp2_with fail
    go_quiet (fail)
    go_wp2
    go_roundw
    case rel=>exact ⟨7,by decide,rfl,HN,HK,below_drewN HB.out _⟩
    case measure=>simp [intOf]
   ·have cb:(s7 / 256 == s6)=false:=by simp [c]
    have HN:Hid (wsz n=2):=by show _=_; have h:¬ wsz n≤1:=fun e=>c ((HC6.out HS.out).2 e); have h2:=HS.out; omega
    clear c
    go_wp2_with fail
    go_quiet (fail)
    go_wp2
    go_ret
    exact FIN.out _ _ 6 (by decide) HN HK.out (below_drewN HB.out _) rfl
  ·have HN:Hid (wsz n=1):=by show _=_; have h2:=HS.out; omega
   go_wp2_with fail
   go_quiet (fail)
   go_wp2
   go_ret
   exact FIN.out _ _ 7 (by decide) HN HK.out (below_drewN HB.out _) rfl
end Go.Proofs.YtnmplldhdfingaaGreatDoor
