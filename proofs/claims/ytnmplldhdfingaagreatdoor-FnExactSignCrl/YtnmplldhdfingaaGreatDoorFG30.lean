import Derived.Test.YtnmplldhdfingaaGreatDoorFG24
set_option maxRecDepth 10000
set_option maxHeartbeats 8000000
set_option linter.unusedVariables false
namespace Go.Proofs.YtnmplldhdfingaaGreatDoor
open Go.RowKit
theorem wrap_i64 (v:Int)(h0 : -9223372036854775808≤v)(h1:v≤9223372036854775807):IntKind.i64.wrap v=v:=by
 rw [IntKind.wrap_i64]; omega
theorem bit_table:((List.range 128).all fun v=>bits BinOp.and IntKind.i64 (v:Int) 1 == (v:Int) % 2)=true:=by decide +kernel
theorem bit_and (v:Int)(h0:0≤v)(h1:v≤127):bits BinOp.and IntKind.i64 v 1=v % 2:=by
 obtain ⟨k,rfl⟩:∃ k:Nat,v=k:=⟨v.toNat,by omega⟩
 exact beq_iff_eq.1 (List.all_eq_true.1 bit_table k (List.mem_range.2 (by omega)))
theorem bit_at (s r:Int)(h0:2≤s)(h1:s≤126)(hr:1≤r∧r≤6):bits BinOp.and IntKind.i64 (s / 2 ^ min (IntKind.u64.wrap r).toNat 64) 1=s / 2 ^ r.toNat % 2:=by
 have e:IntKind.u64.wrap r=r:=by rw [IntKind.wrap_u64]; omega
 rw [e,Nat.min_eq_left (by omega)]
 have hp:(0:Int)<2 ^ r.toNat:=Int.pow_pos (by decide)
 exact bit_and _ (Int.ediv_nonneg (by omega) (by omega)) (Int.le_trans (Int.ediv_le_self _ (by omega)) (by omega))
def EnP (x:CP)(k:Nat):Prop:=(∀ i,i<k→entP x (x.ents.getD i default))∧∀ i j,i<k→j<i→¬ likeP (x.ents.getD j default) (x.ents.getD i default)
theorem enP_zero (x:CP):EnP x 0:=⟨fun i hi=>absurd hi (Nat.not_lt_zero _),fun i _ hi _=>absurd hi (Nat.not_lt_zero _)⟩
theorem enP_succ {x:CP}{k:Nat}(h:EnP x k)(h1:entP x (x.ents.getD k default))(h2:∀ m,m<k→¬ likeP (x.ents.getD m default) (x.ents.getD k default)):EnP x (k+1):=by
 refine ⟨fun i hi=>?_,fun i j hi hj=>?_⟩
 ·by_cases e:i=k
  ·subst e; exact h1
  ·exact h.1 i (by omega)
 ·by_cases e:i=k
  ·subst e; exact h2 j hj
  ·exact h.2 i j (by omega) hj
theorem specCrlOk_any (a1:Option Addr)(n1 c1:Nat)(a2:Option Addr)(n2 c2:Nat)(a3:Option Addr)(n3 c3:Nat)(x:CP)(w:World)(h:Crs w a1 n1 a2 n2 a3 n3 x)(hz:CpOk n1 n2 n3 x) :
  Calls Tryz.prog 17 #[crv a1 n1 c1 a2 n2 c2 a3 n3 c3 x] w (Says (crlP x) w):=by
 have HK:Hid (Crs w a1 n1 a2 n2 a3 n3 x):=h
 have HZ:Hid (CpOk n1 n2 n3 x):=hz
 have HLE:Hid (x.ents.length=n2):=h.en.len
 have HLS:Hid (x.sig.length=n3):=h.sg.len
 have hm2:=h.en.max
 clear h
 unfold crv
 obtain ⟨w0,hw0⟩:∃ w0,w0=w.alloc (.cells #[.slice a1 n1 c1,.int .i64 x.num,.int .i64 x.base,.int .i64 x.tm,.int .i64 x.next,.int .i64 x.scope,.bool x.ind,.slice a2 n2 c2,.slice a3 n3 c3] 38):=⟨_,rfl⟩
 have B0:Hid (Below w.heap.size w w0):=by show Below w.heap.size w w0; rw [hw0]; exact (Below.refl _ _).alloc (Nat.le_refl _) _
 have hh0:w0.heap[w.heap.size]? = some (.cells #[.slice a1 n1 c1,.int .i64 x.num,.int .i64 x.base,.int .i64 x.tm,.int .i64 x.next,.int .i64 x.scope,.bool x.ind,.slice a2 n2 c2,.slice a3 n3 c3] 38):=by rw [hw0]; exact heap_alloc_new w _
 have Y0:Hid (w0.heap[w.heap.size]? = some (.cells #[.slice a1 n1 c1,.int .i64 x.num,.int .i64 x.base,.int .i64 x.tm,.int .i64 x.next,.int .i64 x.scope,.bool x.ind,.slice a2 n2 c2,.slice a3 n3 c3] 38)):=hh0
 have l0:w.heap.size<w0.heap.size:=(Array.getElem?_eq_some_iff.1 hh0).1
 have p0:w0.cell? ⟨w.heap.size,0,none⟩=some (.slice a1 n1 c1):=qk hh0 rfl
 clear hh0 hz
 go_enter Tryz.func17,Tryz.ntmps17
 go_upto_region 1 with fail
 rw [← hw0]
 clear hw0
 go_wp2_with fail
 refine (l10Called_any a1 n1 c1 x.parts _ (HK.out.kept B0.out).nm HZ.out.2.1).mono ?_
 rintro e w1 ⟨v1,rfl,hv1,hb1⟩
 have B1:Hid (Below w.heap.size w w1):=B0.out.trans (hb1.mono B0.out.size)
 have y0:w1.heap[w.heap.size]? = some (.cells #[.slice a1 n1 c1,.int .i64 x.num,.int .i64 x.base,.int .i64 x.tm,.int .i64 x.next,.int .i64 x.scope,.bool x.ind,.slice a2 n2 c2,.slice a3 n3 c3] 38):=(hb1.block _ l0).trans Y0.out
 have Y1:Hid (w1.heap[w.heap.size]? = some (.cells #[.slice a1 n1 c1,.int .i64 x.num,.int .i64 x.base,.int .i64 x.tm,.int .i64 x.next,.int .i64 x.scope,.bool x.ind,.slice a2 n2 c2,.slice a3 n3 c3] 38)):=y0
 have l1:w.heap.size<w1.heap.size:=(Array.getElem?_eq_some_iff.1 y0).1
 clear p0
 have p1:w1.cell? ⟨w.heap.size,1,none⟩=some (.int .i64 x.num):=qk y0 rfl
 have p2:w1.cell? ⟨w.heap.size,2,none⟩=some (.int .i64 x.base):=qk y0 rfl
 have p3:w1.cell? ⟨w.heap.size,3,none⟩=some (.int .i64 x.tm):=qk y0 rfl
 have p4:w1.cell? ⟨w.heap.size,4,none⟩=some (.int .i64 x.next):=qk y0 rfl
 have p5:w1.cell? ⟨w.heap.size,5,none⟩=some (.int .i64 x.scope):=qk y0 rfl
 have p6:w1.cell? ⟨w.heap.size,6,none⟩=some (.bool x.ind):=qk y0 rfl
 have p7:w1.cell? ⟨w.heap.size,7,none⟩=some (.slice a2 n2 c2):=qk y0 rfl
 have p8:w1.cell? ⟨w.heap.size,8,none⟩=some (.slice a3 n3 c3):=qk y0 rfl
 clear hb1 y0 B0 Y0 l0
 have HV1:Hid _:=hv1
 clear hv1
 rcases v1 with _ | _
 ·have HN:Hid (¬ crlP x):=fun q=>by have:=HV1.out.2 q.1.1; simp at this
  go_wp2
  go_ret
  exact says_f HN.out B1.out
 have HCA:Hid (calledP x.parts):=HV1.out.1 rfl
 clear HV1
 go_wp2_with fail
 by_cases q2:0≤x.num∧x.num≤1099511627776
 case neg =>
  refine (l1In_any x.num 0 1099511627776 _).mono ?_
  rintro e w9 ⟨rfl,hw9⟩
  subst hw9
  rw [decide_eq_false q2]
  have HN:Hid (¬ crlP x):=fun q=>q2 q.1.2.1
  clear q2
  go_wp2
  go_ret
  exact says_f HN.out B1.out
 refine (l1In_any x.num 0 1099511627776 _).mono ?_
 rintro e w9 ⟨rfl,hw9⟩
 subst hw9
 rw [decide_eq_true q2]
 have Hq2:Hid (0≤x.num∧x.num≤1099511627776):=q2
 clear q2
 have hwr:IntKind.i64.wrap (x.num - 1)=x.num - 1:=wrap_i64 _ (by have:=Hq2.out.1; omega) (by have:=Hq2.out.2; omega)
 go_wp2_with fail
 by_cases q3 : -1≤x.base∧x.base≤x.num - 1
 case neg =>
  refine (l1In_any x.base (-1) (x.num - 1) _).mono ?_
  rintro e w9 ⟨rfl,hw9⟩
  subst hw9
  rw [decide_eq_false q3]
  have HN:Hid (¬ crlP x):=fun q=>q3 q.1.2.2.1
  clear q3
  go_wp2
  go_ret
  exact says_f HN.out B1.out
 refine (l1In_any x.base (-1) (x.num - 1) _).mono ?_
 rintro e w9 ⟨rfl,hw9⟩
 subst hw9
 rw [decide_eq_true q3]
 have Hq3:Hid (-1≤x.base∧x.base≤x.num - 1):=q3
 clear q3
 go_wp2_with fail
 by_cases q4:0≤x.tm∧x.tm≤253402300799
 case neg =>
  refine (l10Time_any x.tm _).mono ?_
  rintro e w9 ⟨rfl,hw9⟩
  subst hw9
  rw [decide_eq_false q4]
  have HN:Hid (¬ crlP x):=fun q=>q4 q.1.2.2.2.1
  clear q4
  go_wp2
  go_ret
  exact says_f HN.out B1.out
 refine (l10Time_any x.tm _).mono ?_
 rintro e w9 ⟨rfl,hw9⟩
 subst hw9
 rw [decide_eq_true q4]
 have Hq4:Hid (0≤x.tm∧x.tm≤253402300799):=q4
 clear q4
 go_wp2_with fail
 by_cases q5:0≤x.next∧x.next≤253402300799
 case neg =>
  refine (l10Time_any x.next _).mono ?_
  rintro e w9 ⟨rfl,hw9⟩
  subst hw9
  rw [decide_eq_false q5]
  have HN:Hid (¬ crlP x):=fun q=>q5 q.1.2.2.2.2.1
  clear q5
  go_wp2
  go_ret
  exact says_f HN.out B1.out
 refine (l10Time_any x.next _).mono ?_
 rintro e w9 ⟨rfl,hw9⟩
 subst hw9
 rw [decide_eq_true q5]
 have Hq5:Hid (0≤x.next∧x.next≤253402300799):=q5
 clear q5
 by_cases c1_:x.next<x.tm
 ·have HN:Hid (¬ crlP x):=fun q=>by have:=q.1.2.2.2.2.2.1; omega
  go_wp2
  go_ret
  exact says_f HN.out B1.out
 have Hc1_:Hid (x.tm≤x.next):=by show x.tm≤x.next; omega
 by_cases c2_:x.scope<2
 ·have HN:Hid (¬ crlP x):=fun q=>by have:=q.1.2.2.2.2.2.2.1.1; omega
  go_wp2
  go_ret
  exact says_f HN.out B1.out
 have Hc2_:Hid (2≤x.scope):=by show 2≤x.scope; omega
 by_cases c3_:126<x.scope
 ·have HN:Hid (¬ crlP x):=fun q=>by have:=q.1.2.2.2.2.2.2.1.2.1; omega
  go_wp2
  go_ret
  exact says_f HN.out B1.out
 have Hc3_:Hid (x.scope≤126):=by show x.scope≤126; omega
 have htm:x.scope.tmod 2=x.scope % 2:=Int.tmod_eq_emod_of_nonneg (by have:=Hc2_.out; omega)
 have hwr2:IntKind.i64.wrap (x.scope % 2)=x.scope % 2:=wrap_i64 _ (by omega) (by omega)
 by_cases c4_:x.scope % 2=0
 case neg =>
  have hne:(x.scope % 2 != 0)=true:=by simp [c4_]
  have HN:Hid (¬ crlP x):=fun q=>c4_ q.1.2.2.2.2.2.2.1.2.2
  clear c4_
  go_wp2
  go_ret
  exact says_f HN.out B1.out
 have hne:(x.scope % 2 != 0)=false:=by simp [c4_]
 have Hc4:Hid (x.scope % 2=0):=c4_
 clear c4_
 by_cases c5_:(60:Int)<(n2:Int)
 ·have HN:Hid (¬ crlP x):=fun q=>by have:=q.1.2.2.2.2.2.2.2.1; rw [HLE.out] at this; omega
  go_wp2
  go_ret
  exact says_f HN.out B1.out
 have Hc5_:Hid ((n2:Int)≤60):=by show (n2:Int)≤60; omega
 by_cases c6_:(500:Int)<(n3:Int)
 ·have HN:Hid (¬ crlP x):=fun q=>by have:=q.1.2.2.2.2.2.2.2.2; rw [HLS.out] at this; omega
  go_wp2
  go_ret
  exact says_f HN.out B1.out
 have Hc6_:Hid ((n3:Int)≤500):=by show (n3:Int)≤500; omega
 have HH:Hid (crhP x):=⟨HCA.out,Hq2.out,Hq3.out,Hq4.out,Hq5.out,Hc1_.out,⟨Hc2_.out,Hc3_.out,Hc4.out⟩,by rw [HLE.out]; have:=Hc5_.out; omega,by rw [HLS.out]; have:=Hc6_.out; omega⟩
 have hn60:n2≤60:=by omega
 go_wp2
 clear p1 p2 p3 p4 p5 p6 p7 p8 c1_ c2_ c3_ c5_ c6_ hne htm hwr hwr2 Hc1_ Hc5_ Hc6_ Hq5
 go_loopw [3] (fun i wr=>∃ k:Nat,k≤n2∧i=.int .i64 k∧Hid (EnP x k)∧Below w1.heap.size w1 wr) (fun i _=>n2 - (intOf i).toNat)
 case atStart=>exact ⟨0,Nat.zero_le _,rfl,enP_zero x,Below.refl _ _⟩
 case round =>
  obtain ⟨wo,hwo⟩:∃ wo,wo=wr:=⟨_,rfl⟩
  subst hwo
  obtain ⟨k,hk,rfl,HE,hbr⟩:=hrel
  have Br:Hid (Below w.heap.size w wo):=B1.out.trans (hbr.mono (Nat.le_of_lt l1))
  have yr:wo.heap[w.heap.size]? = some (.cells #[.slice a1 n1 c1,.int .i64 x.num,.int .i64 x.base,.int .i64 x.tm,.int .i64 x.next,.int .i64 x.scope,.bool x.ind,.slice a2 n2 c2,.slice a3 n3 c3] 38):=(hbr.block _ l1).trans Y1.out
  have Yr:Hid (wo.heap[w.heap.size]? = some (.cells #[.slice a1 n1 c1,.int .i64 x.num,.int .i64 x.base,.int .i64 x.tm,.int .i64 x.next,.int .i64 x.scope,.bool x.ind,.slice a2 n2 c2,.slice a3 n3 c3] 38)):=yr
  have p7:wo.cell? ⟨w.heap.size,7,none⟩=some (.slice a2 n2 c2):=qk yr rfl
  clear yr
  by_cases hkn:k<n2
  case neg =>
   have hkn':k=n2:=by omega
   subst hkn'
   have hni:¬ ((k:Int)<(k:Int)):=by omega
   have HT:Hid (crlP x):=⟨HH.out,by rw [HLE.out]; exact HE.out.1,fun i j hi hj=>HE.out.2 i j (by rw [← HLE.out]; exact hi) hj⟩
   go_wp2
   go_ret
   exact says_t HT.out Br.out
  obtain ⟨b1,off1,an,nn,cn,rfl,hl1,hc1,hp1⟩:=HK.out.en.get k hkn
  have HGZ:Hid (GpOk (x.ents.getD k default)):=HZ.out.2.2.2.1 k hkn
  obtain ⟨y,hy⟩:∃ y,y=x.ents.getD k default:=⟨_,rfl⟩
  rw [← hy] at hc1 hp1 HGZ
  have HY:Hid (y=x.ents.getD k default):=hy
  have HPY:Hid (∀ W,Below w.heap.size w W→Pts W an nn y.parts):=fun W hW=>hp1.kept hW
  have HNN:Hid (y.parts.length=nn):=hp1.len
  have hnm:=hp1.max
  have HGN:Hid (∀ j,j<nn→(y.parts.getD j default).val.size≤1048576):=fun j hj=>HGZ.out.2 j (by rw [HNN.out]; exact hj)
  obtain ⟨d0,d1,d2,d3⟩:=hc1.of (w':=wo) (fun i=>Br.out.cell (p:=⟨b1,i,none⟩) hl1)
  obtain ⟨W1,hW1⟩:∃ W1,W1=wo.alloc (.cells #[.slice an nn cn,.int .i64 y.ser,.int .i64 y.tm,.int .i64 y.rs] 74):=⟨_,rfl⟩
  have hbW:Below wo.heap.size wo W1:=by rw [hW1]; exact (Below.refl _ _).alloc (Nat.le_refl _) _
  have hE1:W1.heap[wo.heap.size]? = some (.cells #[.slice an nn cn,.int .i64 y.ser,.int .i64 y.tm,.int .i64 y.rs] 74):=by rw [hW1]; exact heap_alloc_new wo _
  have BW:Hid (Below w.heap.size w W1):=Br.out.trans (hbW.mono Br.out.size)
  have BW1:Hid (Below w1.heap.size w1 W1):=hbr.trans (hbW.mono hbr.size)
  have YW:Hid (W1.heap[w.heap.size]? = some (.cells #[.slice a1 n1 c1,.int .i64 x.num,.int .i64 x.base,.int .i64 x.tm,.int .i64 x.next,.int .i64 x.scope,.bool x.ind,.slice (some ⟨b1,off1,none⟩) n2 c2,.slice a3 n3 c3] 38)):=(hbW.block _ (Array.getElem?_eq_some_iff.1 Yr.out).1).trans Yr.out
  have EW:Hid (W1.heap[wo.heap.size]? = some (.cells #[.slice an nn cn,.int .i64 y.ser,.int .i64 y.tm,.int .i64 y.rs] 74)):=hE1
  have p2:W1.cell? ⟨w.heap.size,2,none⟩=some (.int .i64 x.base):=qk YW.out rfl
  have p3:W1.cell? ⟨w.heap.size,3,none⟩=some (.int .i64 x.tm):=qk YW.out rfl
  have p5:W1.cell? ⟨w.heap.size,5,none⟩=some (.int .i64 x.scope):=qk YW.out rfl
  have p6:W1.cell? ⟨w.heap.size,6,none⟩=some (.bool x.ind):=qk YW.out rfl
  have e0:W1.cell? ⟨wo.heap.size,0,none⟩=some (.slice an nn cn):=qk hE1 rfl
  have e1:W1.cell? ⟨wo.heap.size,1,none⟩=some (.int .i64 y.ser):=qk hE1 rfl
  have e2:W1.cell? ⟨wo.heap.size,2,none⟩=some (.int .i64 y.tm):=qk hE1 rfl
  have e3:W1.cell? ⟨wo.heap.size,3,none⟩=some (.int .i64 y.rs):=qk hE1 rfl
  have hkni:(k:Int)<(n2:Int):=by omega
  have HNO:Hid (∀ q:¬ entP x y,¬ crlP x):=fun q r=>q (by have:=r.2.1 k (by rw [HLE.out]; exact hkn); rw [← HY.out] at this; exact this)
  have HW1:Hid (_=_):=hW1
  clear hW1 hE1 hc1 hp1 hy hbW HGZ
  go_upto_region 9 with fail
  rw [← HW1.out]
  clear HW1 d0 d1 d2 d3 p7
  go_wp2_with fail
  by_cases r1:1≤y.ser∧y.ser≤4611686018427387904
  case neg =>
   refine (l1In_any y.ser 1 4611686018427387904 _).mono ?_
   rintro e w9 ⟨rfl,hw9⟩
   subst hw9
   rw [decide_eq_false r1]
   have HN:Hid (¬ crlP x):=HNO.out (fun q=>r1 q.1)
   clear r1
   go_wp2
   go_ret
   exact says_f HN.out BW.out
  refine (l1In_any y.ser 1 4611686018427387904 _).mono ?_
  rintro e w9 ⟨rfl,hw9⟩
  subst hw9
  rw [decide_eq_true r1]
  have Hr1:Hid (1≤y.ser∧y.ser≤4611686018427387904):=r1
  clear r1
  go_wp2_with fail
  by_cases r2:0≤y.tm∧y.tm≤253402300799
  case neg =>
   refine (l10Time_any y.tm _).mono ?_
   rintro e w9 ⟨rfl,hw9⟩
   subst hw9
   rw [decide_eq_false r2]
   have HN:Hid (¬ crlP x):=HNO.out (fun q=>r2 q.2.1)
   clear r2
   go_wp2
   go_ret
   exact says_f HN.out BW.out
  refine (l10Time_any y.tm _).mono ?_
  rintro e w9 ⟨rfl,hw9⟩
  subst hw9
  rw [decide_eq_true r2]
  have Hr2:Hid (0≤y.tm∧y.tm≤253402300799):=r2
  clear r2
  by_cases r3:x.tm<y.tm
  ·have HN:Hid (¬ crlP x):=HNO.out (fun q=>by have:=q.2.2.1; omega)
   go_wp2
   go_ret
   exact says_f HN.out BW.out
  have Hr3:Hid (y.tm≤x.tm):=by show y.tm≤x.tm; omega
  go_upto_region 11 with fail
  by_cases hi:x.ind=true
  ·rw [hi] at p6
   have HHI:Hid (x.ind=true):=hi
   clear hi
   go_wp2_with fail
   refine (l10Called_any an nn cn y.parts _ (HPY.out _ BW.out) HGN.out).mono ?_
   rintro e w2 ⟨v2,rfl,hv2,hb2⟩
   have BV:Hid (Below w.heap.size w w2):=BW.out.trans (hb2.mono BW.out.size)
   have BV1:Hid (Below w1.heap.size w1 w2):=BW1.out.trans (hb2.mono BW1.out.size)
   have YV:Hid (w2.heap[w.heap.size]? = some (.cells #[.slice a1 n1 c1,.int .i64 x.num,.int .i64 x.base,.int .i64 x.tm,.int .i64 x.next,.int .i64 x.scope,.bool x.ind,.slice (some ⟨b1,off1,none⟩) n2 c2,.slice a3 n3 c3] 38)):=(hb2.block _ (Array.getElem?_eq_some_iff.1 YW.out).1).trans YW.out
   have EV:Hid (w2.heap[wo.heap.size]? = some (.cells #[.slice an nn cn,.int .i64 y.ser,.int .i64 y.tm,.int .i64 y.rs] 74)):=(hb2.block _ (Array.getElem?_eq_some_iff.1 EW.out).1).trans EW.out
   have q6:w2.cell? ⟨w.heap.size,6,none⟩=some (.bool true):=by rw [← HHI.out]; exact (cell_of_row _ _ 6 _ 38 (0,0) YV.out).trans rfl
   clear p2 p3 p5 p6 e0 e1 e2 e3 hb2
   have HV2:Hid _:=hv2
   clear hv2
   cases v2 with
   | false =>
    have HN:Hid (¬ crlP x):=HNO.out (fun q=>by have:=HV2.out.2 (q.2.2.2.1 HHI.out); simp at this)
    go_wp2
    go_ret
    exact says_f HN.out BV.out
   | true =>
    have HI1:Hid (x.ind=true→calledP y.parts):=fun _=>HV2.out.1 rfl
    have HI2:Hid (x.ind=false→y.parts = []):=fun e=>by rw [HHI.out] at e; cases e
    go_upto_region 13 with fail
    clear q6
    have f2:w2.cell? ⟨w.heap.size,2,none⟩=some (.int .i64 x.base):=qk YV.out rfl
    have f5:w2.cell? ⟨w.heap.size,5,none⟩=some (.int .i64 x.scope):=qk YV.out rfl
    have f7:w2.cell? ⟨w.heap.size,7,none⟩=some (.slice (some ⟨b1,off1,none⟩) n2 c2):=qk YV.out rfl
    have g3:w2.cell? ⟨wo.heap.size,3,none⟩=some (.int .i64 y.rs):=qk EV.out rfl
    by_cases r5:y.rs=7
    ·have q5:(y.rs == 7)=true:=by simp [r5]
     by_cases r6:0≤x.base
     ·have HRE:Hid (reaP x y.rs):=.inl ⟨r5,r6⟩
      clear r5
      have HEN:Hid (entP x y):=⟨Hr1.out,Hr2.out,Hr3.out,HI1.out,HI2.out,HRE.out⟩
      go_wp2
      clear f2 f5 f7 g3
      go_loopw [6] (fun i wr=>∃ j:Nat,j≤k∧i=.int .i64 j∧Hid (∀ m,m<j→¬ likeP (x.ents.getD m default) y)∧Below w2.heap.size w2 wr) (fun i _=>k - (intOf i).toNat)
      case atStart=>exact ⟨0,Nat.zero_le _,rfl,(fun m hm=>absurd hm (Nat.not_lt_zero _)),Below.refl _ _⟩
      case round =>
       obtain ⟨j,hj,rfl,HJ,hbz⟩:=hrel
       have Bz:Hid (Below w.heap.size w wr):=BV.out.trans (hbz.mono BV.out.size)
       by_cases hjk:j<k
       ·obtain ⟨b2,off2,am,mm,cm,hae,hl2,hc2,hp2⟩:=HK.out.en.get j (by omega)
        cases hae
        have HGJ:Hid (GpOk (x.ents.getD j default)):=HZ.out.2.2.2.1 j (by omega)
        obtain ⟨z,hz⟩:∃ z,z=x.ents.getD j default:=⟨_,rfl⟩
        rw [← hz] at hc2 hp2 HGJ
        have HZZ:Hid (z=x.ents.getD j default):=hz
        have HMM:Hid (z.parts.length=mm):=hp2.len
        have HPZ:Hid (Pts wr.drew am mm z.parts):=hp2.kept Bz.out.drew
        have HPV:Hid (Pts wr.drew an nn y.parts):=HPY.out _ Bz.out.drew
        have HGM:Hid (∀ i,i<mm→(z.parts.getD i default).val.size≤1048576):=fun i hi=>HGJ.out.2 i (by rw [HMM.out]; exact hi)
        obtain ⟨d0,d1,d2,d3⟩:=hc2.of (w':=wr) (fun i=>Bz.out.cell (p:=⟨b1,i,none⟩) hl2)
        have yz:wr.heap[w.heap.size]? = some (.cells #[.slice a1 n1 c1,.int .i64 x.num,.int .i64 x.base,.int .i64 x.tm,.int .i64 x.next,.int .i64 x.scope,.bool x.ind,.slice (some ⟨b1,off1,none⟩) n2 c2,.slice a3 n3 c3] 38):=(hbz.block _ (Array.getElem?_eq_some_iff.1 YV.out).1).trans YV.out
        have p7:wr.cell? ⟨w.heap.size,7,none⟩=some (.slice (some ⟨b1,off1,none⟩) n2 c2):=qk yz rfl
        have ez:wr.heap[wo.heap.size]? = some (.cells #[.slice an nn cn,.int .i64 y.ser,.int .i64 y.tm,.int .i64 y.rs] 74):=(hbz.block _ (Array.getElem?_eq_some_iff.1 EV.out).1).trans EV.out
        have e0:wr.cell? ⟨wo.heap.size,0,none⟩=some (.slice an nn cn):=qk ez rfl
        have e1:wr.cell? ⟨wo.heap.size,1,none⟩=some (.int .i64 y.ser):=qk ez rfl
        have e2:wr.cell? ⟨wo.heap.size,2,none⟩=some (.int .i64 y.tm):=qk ez rfl
        have e3:wr.cell? ⟨wo.heap.size,3,none⟩=some (.int .i64 y.rs):=qk ez rfl
        have hjki:(j:Int)<(k:Int):=by omega
        have hjni:(j:Int)<(n2:Int):=by omega
        have hsz:=hbz.size
        clear hc2 hp2 yz ez hz HGJ
        go_wp2_with fail
        go_region_with (go_at_call 43; refine (l10Like_any am mm cm z an nn cn y _ HPZ.out HPV.out HGM.out HGN.out).mono ?_; rintro e w5 ⟨v5,rfl,hv5,hb5⟩)
        all_goals
         have b5:Below w2.heap.size w2 w5:=hbz.drew.trans (hb5.mono hsz)
         have HV5:Hid _:=hv5
         clear hv5 hb5
         cases v5 with
         | true =>
          have HN:Hid (¬ crlP x):=fun q=>q.2.2 k j (by rw [HLE.out]; exact hkn) hjk (by rw [← HZZ.out,← HY.out]; exact HV5.out.1 rfl)
          go_wp2
          go_ret
          exact says_f HN.out (BV.out.trans (b5.mono BV.out.size))
         | false =>
          have HJ2:Hid (∀ m,m<j+1→¬ likeP (x.ents.getD m default) y):=fun m hm=>by
           by_cases e:m=j
           ·subst e
            intro q
            rw [← HZZ.out] at q
            exact Bool.false_ne_true (HV5.out.2 q)
           ·exact HJ.out m (by omega)
          go_wp2
          go_roundw
          case rel=>exact ⟨j+1,by omega,by go_num,HJ2.out,b5⟩
          case measure=>simp [intOf]; omega
       ·have hjk':j=k:=by omega
        subst hjk'
        have hji:¬ ((j:Int)<(j:Int)):=by omega
        have HE2:Hid (EnP x (j+1)):=enP_succ HE.out (by rw [← HY.out]; exact HEN.out) (by rw [← HY.out]; exact HJ.out)
        have b6:Below w1.heap.size w1 wr:=BV1.out.trans (hbz.mono BV1.out.size)
        go_wp2
        go_roundw
        case rel=>exact ⟨j+1,by omega,by go_num,HE2.out,b6⟩
        case measure=>simp [intOf]; omega
     ·have HNR:Hid (¬ reaP x y.rs):=fun q=>by rcases q with q | q <;> omega
      have r7:¬ (1≤y.rs∧y.rs≤6):=by omega
      clear r5
      go_wp2_with fail
      refine (l1In_any y.rs 1 6 _).mono ?_
      rintro e w9 ⟨rfl,hw9⟩
      subst hw9
      rw [decide_eq_false r7]
      have HN:Hid (¬ crlP x):=HNO.out (fun q=>HNR.out q.2.2.2.2.2)
      go_wp2
      go_ret
      exact says_f HN.out BV.out
    ·have q5:(y.rs == 7)=false:=by simp [r5]
     by_cases r7:1≤y.rs∧y.rs≤6
     ·have hbit:=bit_at x.scope y.rs Hc2_.out Hc3_.out r7
      by_cases r8:x.scope / 2 ^ y.rs.toNat % 2=1
      ·have hv:(bits BinOp.and IntKind.i64 (x.scope / 2 ^ min (IntKind.u64.wrap y.rs).toNat 64) 1 == 1)=true:=by rw [hbit,r8]; rfl
       have HRE:Hid (reaP x y.rs):=.inr ⟨r7,r8⟩
       go_wp2_with fail
       refine (l1In_any y.rs 1 6 _).mono ?_
       rintro e w9 ⟨rfl,hw9⟩
       subst hw9
       rw [decide_eq_true r7]
       clear r5 r7 r8 hbit
       have HEN:Hid (entP x y):=⟨Hr1.out,Hr2.out,Hr3.out,HI1.out,HI2.out,HRE.out⟩
       go_wp2
       clear f2 f5 f7 g3
       go_loopw [6] (fun i wr=>∃ j:Nat,j≤k∧i=.int .i64 j∧Hid (∀ m,m<j→¬ likeP (x.ents.getD m default) y)∧Below w2.heap.size w2 wr) (fun i _=>k - (intOf i).toNat)
       case atStart=>exact ⟨0,Nat.zero_le _,rfl,(fun m hm=>absurd hm (Nat.not_lt_zero _)),Below.refl _ _⟩
       case round =>
        obtain ⟨j,hj,rfl,HJ,hbz⟩:=hrel
        have Bz:Hid (Below w.heap.size w wr):=BV.out.trans (hbz.mono BV.out.size)
        by_cases hjk:j<k
        ·obtain ⟨b2,off2,am,mm,cm,hae,hl2,hc2,hp2⟩:=HK.out.en.get j (by omega)
         cases hae
         have HGJ:Hid (GpOk (x.ents.getD j default)):=HZ.out.2.2.2.1 j (by omega)
         obtain ⟨z,hz⟩:∃ z,z=x.ents.getD j default:=⟨_,rfl⟩
         rw [← hz] at hc2 hp2 HGJ
         have HZZ:Hid (z=x.ents.getD j default):=hz
         have HMM:Hid (z.parts.length=mm):=hp2.len
         have HPZ:Hid (Pts wr.drew am mm z.parts):=hp2.kept Bz.out.drew
         have HPV:Hid (Pts wr.drew an nn y.parts):=HPY.out _ Bz.out.drew
         have HGM:Hid (∀ i,i<mm→(z.parts.getD i default).val.size≤1048576):=fun i hi=>HGJ.out.2 i (by rw [HMM.out]; exact hi)
         obtain ⟨d0,d1,d2,d3⟩:=hc2.of (w':=wr) (fun i=>Bz.out.cell (p:=⟨b1,i,none⟩) hl2)
         have yz:wr.heap[w.heap.size]? = some (.cells #[.slice a1 n1 c1,.int .i64 x.num,.int .i64 x.base,.int .i64 x.tm,.int .i64 x.next,.int .i64 x.scope,.bool x.ind,.slice (some ⟨b1,off1,none⟩) n2 c2,.slice a3 n3 c3] 38):=(hbz.block _ (Array.getElem?_eq_some_iff.1 YV.out).1).trans YV.out
         have p7:wr.cell? ⟨w.heap.size,7,none⟩=some (.slice (some ⟨b1,off1,none⟩) n2 c2):=qk yz rfl
         have ez:wr.heap[wo.heap.size]? = some (.cells #[.slice an nn cn,.int .i64 y.ser,.int .i64 y.tm,.int .i64 y.rs] 74):=(hbz.block _ (Array.getElem?_eq_some_iff.1 EV.out).1).trans EV.out
         have e0:wr.cell? ⟨wo.heap.size,0,none⟩=some (.slice an nn cn):=qk ez rfl
         have e1:wr.cell? ⟨wo.heap.size,1,none⟩=some (.int .i64 y.ser):=qk ez rfl
         have e2:wr.cell? ⟨wo.heap.size,2,none⟩=some (.int .i64 y.tm):=qk ez rfl
         have e3:wr.cell? ⟨wo.heap.size,3,none⟩=some (.int .i64 y.rs):=qk ez rfl
         have hjki:(j:Int)<(k:Int):=by omega
         have hjni:(j:Int)<(n2:Int):=by omega
         have hsz:=hbz.size
         clear hc2 hp2 yz ez hz HGJ
         go_wp2_with fail
         go_region_with (go_at_call 43; refine (l10Like_any am mm cm z an nn cn y _ HPZ.out HPV.out HGM.out HGN.out).mono ?_; rintro e w5 ⟨v5,rfl,hv5,hb5⟩)
         all_goals
          have b5:Below w2.heap.size w2 w5:=hbz.drew.trans (hb5.mono hsz)
          have HV5:Hid _:=hv5
          clear hv5 hb5
          cases v5 with
          | true =>
           have HN:Hid (¬ crlP x):=fun q=>q.2.2 k j (by rw [HLE.out]; exact hkn) hjk (by rw [← HZZ.out,← HY.out]; exact HV5.out.1 rfl)
           go_wp2
           go_ret
           exact says_f HN.out (BV.out.trans (b5.mono BV.out.size))
          | false =>
           have HJ2:Hid (∀ m,m<j+1→¬ likeP (x.ents.getD m default) y):=fun m hm=>by
            by_cases e:m=j
            ·subst e
             intro q
             rw [← HZZ.out] at q
             exact Bool.false_ne_true (HV5.out.2 q)
            ·exact HJ.out m (by omega)
           go_wp2
           go_roundw
           case rel=>exact ⟨j+1,by omega,by go_num,HJ2.out,b5⟩
           case measure=>simp [intOf]; omega
        ·have hjk':j=k:=by omega
         subst hjk'
         have hji:¬ ((j:Int)<(j:Int)):=by omega
         have HE2:Hid (EnP x (j+1)):=enP_succ HE.out (by rw [← HY.out]; exact HEN.out) (by rw [← HY.out]; exact HJ.out)
         have b6:Below w1.heap.size w1 wr:=BV1.out.trans (hbz.mono BV1.out.size)
         go_wp2
         go_roundw
         case rel=>exact ⟨j+1,by omega,by go_num,HE2.out,b6⟩
         case measure=>simp [intOf]; omega
      ·have hv:(bits BinOp.and IntKind.i64 (x.scope / 2 ^ min (IntKind.u64.wrap y.rs).toNat 64) 1 == 1)=false:=by rw [hbit]; simp [r8]
       have HNR:Hid (¬ reaP x y.rs):=fun q=>by
        rcases q with q | q
        ·exact r5 q.1
        ·exact r8 q.2
       go_wp2_with fail
       refine (l1In_any y.rs 1 6 _).mono ?_
       rintro e w9 ⟨rfl,hw9⟩
       subst hw9
       rw [decide_eq_true r7]
       clear r5 r7 r8 hbit
       have HN:Hid (¬ crlP x):=HNO.out (fun q=>HNR.out q.2.2.2.2.2)
       go_wp2
       go_ret
       exact says_f HN.out BV.out
     ·have HNR:Hid (¬ reaP x y.rs):=fun q=>by rcases q with q | q <;> omega
      clear r5
      go_wp2_with fail
      refine (l1In_any y.rs 1 6 _).mono ?_
      rintro e w9 ⟨rfl,hw9⟩
      subst hw9
      rw [decide_eq_false r7]
      have HN:Hid (¬ crlP x):=HNO.out (fun q=>HNR.out q.2.2.2.2.2)
      go_wp2
      go_ret
      exact says_f HN.out BV.out
  replace hi:x.ind=false:=by simpa using hi
  rw [hi] at p6
  have HHI:Hid (x.ind=false):=hi
  clear hi
  have BV:Hid (Below w.heap.size w W1):=BW.out
  have BV1:Hid (Below w1.heap.size w1 W1):=BW1.out
  have YV:Hid (W1.heap[w.heap.size]? = some (.cells #[.slice a1 n1 c1,.int .i64 x.num,.int .i64 x.base,.int .i64 x.tm,.int .i64 x.next,.int .i64 x.scope,.bool x.ind,.slice (some ⟨b1,off1,none⟩) n2 c2,.slice a3 n3 c3] 38)):=YW.out
  have EV:Hid (W1.heap[wo.heap.size]? = some (.cells #[.slice an nn cn,.int .i64 y.ser,.int .i64 y.tm,.int .i64 y.rs] 74)):=EW.out
  by_cases r4:(0:Int)<(nn:Int)
  ·have HN:Hid (¬ crlP x):=HNO.out (fun q=>by have:=q.2.2.2.2.1 HHI.out; rw [← HNN.out,this] at r4; simp at r4)
   go_wp2
   go_ret
   exact says_f HN.out BV.out
  have HI1:Hid (x.ind=true→calledP y.parts):=fun e=>by rw [HHI.out] at e; cases e
  have HI2:Hid (x.ind=false→y.parts = []):=fun _=>List.eq_nil_of_length_eq_zero (by rw [HNN.out]; omega)
  go_upto_region 13 with fail
  clear p2 p3 p5 p6 e0 e1 e2 e3
  have f2:W1.cell? ⟨w.heap.size,2,none⟩=some (.int .i64 x.base):=qk YV.out rfl
  have f5:W1.cell? ⟨w.heap.size,5,none⟩=some (.int .i64 x.scope):=qk YV.out rfl
  have f7:W1.cell? ⟨w.heap.size,7,none⟩=some (.slice (some ⟨b1,off1,none⟩) n2 c2):=qk YV.out rfl
  have g3:W1.cell? ⟨wo.heap.size,3,none⟩=some (.int .i64 y.rs):=qk EV.out rfl
  by_cases r5:y.rs=7
  ·have q5:(y.rs == 7)=true:=by simp [r5]
   by_cases r6:0≤x.base
   ·have HRE:Hid (reaP x y.rs):=.inl ⟨r5,r6⟩
    clear r5
    have HEN:Hid (entP x y):=⟨Hr1.out,Hr2.out,Hr3.out,HI1.out,HI2.out,HRE.out⟩
    go_wp2
    clear f2 f5 f7 g3
    go_loopw [6] (fun i wr=>∃ j:Nat,j≤k∧i=.int .i64 j∧Hid (∀ m,m<j→¬ likeP (x.ents.getD m default) y)∧Below W1.heap.size W1 wr) (fun i _=>k - (intOf i).toNat)
    case atStart=>exact ⟨0,Nat.zero_le _,rfl,(fun m hm=>absurd hm (Nat.not_lt_zero _)),Below.refl _ _⟩
    case round =>
     obtain ⟨j,hj,rfl,HJ,hbz⟩:=hrel
     have Bz:Hid (Below w.heap.size w wr):=BV.out.trans (hbz.mono BV.out.size)
     by_cases hjk:j<k
     ·obtain ⟨b2,off2,am,mm,cm,hae,hl2,hc2,hp2⟩:=HK.out.en.get j (by omega)
      cases hae
      have HGJ:Hid (GpOk (x.ents.getD j default)):=HZ.out.2.2.2.1 j (by omega)
      obtain ⟨z,hz⟩:∃ z,z=x.ents.getD j default:=⟨_,rfl⟩
      rw [← hz] at hc2 hp2 HGJ
      have HZZ:Hid (z=x.ents.getD j default):=hz
      have HMM:Hid (z.parts.length=mm):=hp2.len
      have HPZ:Hid (Pts wr.drew am mm z.parts):=hp2.kept Bz.out.drew
      have HPV:Hid (Pts wr.drew an nn y.parts):=HPY.out _ Bz.out.drew
      have HGM:Hid (∀ i,i<mm→(z.parts.getD i default).val.size≤1048576):=fun i hi=>HGJ.out.2 i (by rw [HMM.out]; exact hi)
      obtain ⟨d0,d1,d2,d3⟩:=hc2.of (w':=wr) (fun i=>Bz.out.cell (p:=⟨b1,i,none⟩) hl2)
      have yz:wr.heap[w.heap.size]? = some (.cells #[.slice a1 n1 c1,.int .i64 x.num,.int .i64 x.base,.int .i64 x.tm,.int .i64 x.next,.int .i64 x.scope,.bool x.ind,.slice (some ⟨b1,off1,none⟩) n2 c2,.slice a3 n3 c3] 38):=(hbz.block _ (Array.getElem?_eq_some_iff.1 YV.out).1).trans YV.out
      have p7:wr.cell? ⟨w.heap.size,7,none⟩=some (.slice (some ⟨b1,off1,none⟩) n2 c2):=qk yz rfl
      have ez:wr.heap[wo.heap.size]? = some (.cells #[.slice an nn cn,.int .i64 y.ser,.int .i64 y.tm,.int .i64 y.rs] 74):=(hbz.block _ (Array.getElem?_eq_some_iff.1 EV.out).1).trans EV.out
      have e0:wr.cell? ⟨wo.heap.size,0,none⟩=some (.slice an nn cn):=qk ez rfl
      have e1:wr.cell? ⟨wo.heap.size,1,none⟩=some (.int .i64 y.ser):=qk ez rfl
      have e2:wr.cell? ⟨wo.heap.size,2,none⟩=some (.int .i64 y.tm):=qk ez rfl
      have e3:wr.cell? ⟨wo.heap.size,3,none⟩=some (.int .i64 y.rs):=qk ez rfl
      have hjki:(j:Int)<(k:Int):=by omega
      have hjni:(j:Int)<(n2:Int):=by omega
      have hsz:=hbz.size
      clear hc2 hp2 yz ez hz HGJ
      go_wp2_with fail
      go_region_with (go_at_call 43; refine (l10Like_any am mm cm z an nn cn y _ HPZ.out HPV.out HGM.out HGN.out).mono ?_; rintro e w5 ⟨v5,rfl,hv5,hb5⟩)
      all_goals
       have b5:Below W1.heap.size W1 w5:=hbz.drew.trans (hb5.mono hsz)
       have HV5:Hid _:=hv5
       clear hv5 hb5
       cases v5 with
       | true =>
        have HN:Hid (¬ crlP x):=fun q=>q.2.2 k j (by rw [HLE.out]; exact hkn) hjk (by rw [← HZZ.out,← HY.out]; exact HV5.out.1 rfl)
        go_wp2
        go_ret
        exact says_f HN.out (BV.out.trans (b5.mono BV.out.size))
       | false =>
        have HJ2:Hid (∀ m,m<j+1→¬ likeP (x.ents.getD m default) y):=fun m hm=>by
         by_cases e:m=j
         ·subst e
          intro q
          rw [← HZZ.out] at q
          exact Bool.false_ne_true (HV5.out.2 q)
         ·exact HJ.out m (by omega)
        go_wp2
        go_roundw
        case rel=>exact ⟨j+1,by omega,by go_num,HJ2.out,b5⟩
        case measure=>simp [intOf]; omega
     ·have hjk':j=k:=by omega
      subst hjk'
      have hji:¬ ((j:Int)<(j:Int)):=by omega
      have HE2:Hid (EnP x (j+1)):=enP_succ HE.out (by rw [← HY.out]; exact HEN.out) (by rw [← HY.out]; exact HJ.out)
      have b6:Below w1.heap.size w1 wr:=BV1.out.trans (hbz.mono BV1.out.size)
      go_wp2
      go_roundw
      case rel=>exact ⟨j+1,by omega,by go_num,HE2.out,b6⟩
      case measure=>simp [intOf]; omega
   ·have HNR:Hid (¬ reaP x y.rs):=fun q=>by rcases q with q | q <;> omega
    have r7:¬ (1≤y.rs∧y.rs≤6):=by omega
    clear r5
    go_wp2_with fail
    refine (l1In_any y.rs 1 6 _).mono ?_
    rintro e w9 ⟨rfl,hw9⟩
    subst hw9
    rw [decide_eq_false r7]
    have HN:Hid (¬ crlP x):=HNO.out (fun q=>HNR.out q.2.2.2.2.2)
    go_wp2
    go_ret
    exact says_f HN.out BV.out
  ·have q5:(y.rs == 7)=false:=by simp [r5]
   by_cases r7:1≤y.rs∧y.rs≤6
   ·have hbit:=bit_at x.scope y.rs Hc2_.out Hc3_.out r7
    by_cases r8:x.scope / 2 ^ y.rs.toNat % 2=1
    ·have hv:(bits BinOp.and IntKind.i64 (x.scope / 2 ^ min (IntKind.u64.wrap y.rs).toNat 64) 1 == 1)=true:=by rw [hbit,r8]; rfl
     have HRE:Hid (reaP x y.rs):=.inr ⟨r7,r8⟩
     go_wp2_with fail
     refine (l1In_any y.rs 1 6 _).mono ?_
     rintro e w9 ⟨rfl,hw9⟩
     subst hw9
     rw [decide_eq_true r7]
     clear r5 r7 r8 hbit
     have HEN:Hid (entP x y):=⟨Hr1.out,Hr2.out,Hr3.out,HI1.out,HI2.out,HRE.out⟩
     go_wp2
     clear f2 f5 f7 g3
     go_loopw [6] (fun i wr=>∃ j:Nat,j≤k∧i=.int .i64 j∧Hid (∀ m,m<j→¬ likeP (x.ents.getD m default) y)∧Below W1.heap.size W1 wr) (fun i _=>k - (intOf i).toNat)
     case atStart=>exact ⟨0,Nat.zero_le _,rfl,(fun m hm=>absurd hm (Nat.not_lt_zero _)),Below.refl _ _⟩
     case round =>
      obtain ⟨j,hj,rfl,HJ,hbz⟩:=hrel
      have Bz:Hid (Below w.heap.size w wr):=BV.out.trans (hbz.mono BV.out.size)
      by_cases hjk:j<k
      ·obtain ⟨b2,off2,am,mm,cm,hae,hl2,hc2,hp2⟩:=HK.out.en.get j (by omega)
       cases hae
       have HGJ:Hid (GpOk (x.ents.getD j default)):=HZ.out.2.2.2.1 j (by omega)
       obtain ⟨z,hz⟩:∃ z,z=x.ents.getD j default:=⟨_,rfl⟩
       rw [← hz] at hc2 hp2 HGJ
       have HZZ:Hid (z=x.ents.getD j default):=hz
       have HMM:Hid (z.parts.length=mm):=hp2.len
       have HPZ:Hid (Pts wr.drew am mm z.parts):=hp2.kept Bz.out.drew
       have HPV:Hid (Pts wr.drew an nn y.parts):=HPY.out _ Bz.out.drew
       have HGM:Hid (∀ i,i<mm→(z.parts.getD i default).val.size≤1048576):=fun i hi=>HGJ.out.2 i (by rw [HMM.out]; exact hi)
       obtain ⟨d0,d1,d2,d3⟩:=hc2.of (w':=wr) (fun i=>Bz.out.cell (p:=⟨b1,i,none⟩) hl2)
       have yz:wr.heap[w.heap.size]? = some (.cells #[.slice a1 n1 c1,.int .i64 x.num,.int .i64 x.base,.int .i64 x.tm,.int .i64 x.next,.int .i64 x.scope,.bool x.ind,.slice (some ⟨b1,off1,none⟩) n2 c2,.slice a3 n3 c3] 38):=(hbz.block _ (Array.getElem?_eq_some_iff.1 YV.out).1).trans YV.out
       have p7:wr.cell? ⟨w.heap.size,7,none⟩=some (.slice (some ⟨b1,off1,none⟩) n2 c2):=qk yz rfl
       have ez:wr.heap[wo.heap.size]? = some (.cells #[.slice an nn cn,.int .i64 y.ser,.int .i64 y.tm,.int .i64 y.rs] 74):=(hbz.block _ (Array.getElem?_eq_some_iff.1 EV.out).1).trans EV.out
       have e0:wr.cell? ⟨wo.heap.size,0,none⟩=some (.slice an nn cn):=qk ez rfl
       have e1:wr.cell? ⟨wo.heap.size,1,none⟩=some (.int .i64 y.ser):=qk ez rfl
       have e2:wr.cell? ⟨wo.heap.size,2,none⟩=some (.int .i64 y.tm):=qk ez rfl
       have e3:wr.cell? ⟨wo.heap.size,3,none⟩=some (.int .i64 y.rs):=qk ez rfl
       have hjki:(j:Int)<(k:Int):=by omega
       have hjni:(j:Int)<(n2:Int):=by omega
       have hsz:=hbz.size
       clear hc2 hp2 yz ez hz HGJ
       go_wp2_with fail
       go_region_with (go_at_call 43; refine (l10Like_any am mm cm z an nn cn y _ HPZ.out HPV.out HGM.out HGN.out).mono ?_; rintro e w5 ⟨v5,rfl,hv5,hb5⟩)
       all_goals
        have b5:Below W1.heap.size W1 w5:=hbz.drew.trans (hb5.mono hsz)
        have HV5:Hid _:=hv5
        clear hv5 hb5
        cases v5 with
        | true =>
         have HN:Hid (¬ crlP x):=fun q=>q.2.2 k j (by rw [HLE.out]; exact hkn) hjk (by rw [← HZZ.out,← HY.out]; exact HV5.out.1 rfl)
         go_wp2
         go_ret
         exact says_f HN.out (BV.out.trans (b5.mono BV.out.size))
        | false =>
         have HJ2:Hid (∀ m,m<j+1→¬ likeP (x.ents.getD m default) y):=fun m hm=>by
          by_cases e:m=j
          ·subst e
           intro q
           rw [← HZZ.out] at q
           exact Bool.false_ne_true (HV5.out.2 q)
          ·exact HJ.out m (by omega)
         go_wp2
         go_roundw
         case rel=>exact ⟨j+1,by omega,by go_num,HJ2.out,b5⟩
         case measure=>simp [intOf]; omega
      ·have hjk':j=k:=by omega
       subst hjk'
       have hji:¬ ((j:Int)<(j:Int)):=by omega
       have HE2:Hid (EnP x (j+1)):=enP_succ HE.out (by rw [← HY.out]; exact HEN.out) (by rw [← HY.out]; exact HJ.out)
       have b6:Below w1.heap.size w1 wr:=BV1.out.trans (hbz.mono BV1.out.size)
       go_wp2
       go_roundw
       case rel=>exact ⟨j+1,by omega,by go_num,HE2.out,b6⟩
       case measure=>simp [intOf]; omega
    ·have hv:(bits BinOp.and IntKind.i64 (x.scope / 2 ^ min (IntKind.u64.wrap y.rs).toNat 64) 1 == 1)=false:=by rw [hbit]; simp [r8]
     have HNR:Hid (¬ reaP x y.rs):=fun q=>by
      rcases q with q | q
      ·exact r5 q.1
      ·exact r8 q.2
     go_wp2_with fail
     refine (l1In_any y.rs 1 6 _).mono ?_
     rintro e w9 ⟨rfl,hw9⟩
     subst hw9
     rw [decide_eq_true r7]
     clear r5 r7 r8 hbit
     have HN:Hid (¬ crlP x):=HNO.out (fun q=>HNR.out q.2.2.2.2.2)
     go_wp2
     go_ret
     exact says_f HN.out BV.out
   ·have HNR:Hid (¬ reaP x y.rs):=fun q=>by rcases q with q | q <;> omega
    clear r5
    go_wp2_with fail
    refine (l1In_any y.rs 1 6 _).mono ?_
    rintro e w9 ⟨rfl,hw9⟩
    subst hw9
    rw [decide_eq_false r7]
    have HN:Hid (¬ crlP x):=HNO.out (fun q=>HNR.out q.2.2.2.2.2)
    go_wp2
    go_ret
    exact says_f HN.out BV.out
end Go.Proofs.YtnmplldhdfingaaGreatDoor
