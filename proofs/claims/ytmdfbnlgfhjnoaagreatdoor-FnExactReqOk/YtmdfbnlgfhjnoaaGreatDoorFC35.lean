import Derived.Test.YtmdfbnlgfhjnoaaGreatDoorFC34
set_option maxRecDepth 10000
set_option maxHeartbeats 8000000
set_option linter.unusedVariables false
namespace Go.Proofs.YtmdfbnlgfhjnoaaGreatDoor
open Go.RowKit
structure RQ where
 sub:List PT
 nms:List GE
 key:Int × Int × Int
 sig:List Int
instance:Inhabited RQ:=⟨⟨[],[],(0,0,0),[]⟩⟩
structure RQS where
 a1:Option Addr
 n1:Nat
 c1:Nat
 a2:Option Addr
 n2:Nat
 c2:Nat
 a3:Option Addr
 n3:Nat
 c3:Nat
 deriving Inhabited
def RQv (s:RQS)(x:RQ):Value:=.agg #[.slice s.a1 s.n1 s.c1,.slice s.a2 s.n2 s.c2,.int .i64 x.key.1,.int .u64 x.key.2.1,.int .i64 x.key.2.2,.slice s.a3 s.n3 s.c3]
structure RQR (w:World)(s:RQS)(x:RQ):Prop where
 r1:Pts w s.a1 s.n1 x.sub
 r2:Ges w s.a2 s.n2 x.nms
 r3:Row w s.a3 s.n3 x.sig
 m3:s.n3≤9223372036854775807
 nl3:s.a3=none→s.c3=0
theorem RQR.kept {w w':World}{s:RQS}{x:RQ}(h:RQR w s x)(hb:Below w.heap.size w w'):RQR w' s x:=⟨h.r1.kept hb,h.r2.kept hb,h.r3.kept hb,h.m3,h.nl3⟩
def RQZ (x:RQ):Prop:=(x.sub.length≤1048576∧(∀ k,k<x.sub.length→(x.sub.getD k default).val.size≤1048576))∧(x.nms.length≤1048576∧(∀ k,k<x.nms.length→GeOk (x.nms.getD k default)))∧(x.sig.length≤1048576)
def RQZn (s:RQS)(x:RQ):Prop:=(s.n1≤1048576∧(∀ k,k<s.n1→(x.sub.getD k default).val.size≤1048576))∧(s.n2≤1048576∧(∀ k,k<s.n2→GeOk (x.nms.getD k default)))∧(s.n3≤1048576)
theorem RQR.zn {w:World}{s:RQS}{x:RQ}(h:RQR w s x):RQZ x↔RQZn s x:=by
 unfold RQZ RQZn
 rw [h.r1.len,h.r2.len,h.r3.len]
def RQT (s:RQS):Prop:=s.c1=s.n1∧s.c2=s.n2∧s.c3=s.n3
theorem szReq_k (s:RQS)(x:RQ)(lf:Int)(w:World)(h:RQR w s x)(hl0:0≤lf)(hl1:lf≤1048576) :
  Calls Tryz.prog 24 #[RQv s x,.int .i64 lf] w fun e w'=>∃ r,e=.returned (.int .i64 r)∧(r<0∨(0≤r∧r≤1048576∧RQZ x))∧Below w.heap.size w w':=by
 obtain ⟨a1,n1,c1,a2,n2,c2,a3,n3,c3⟩:=s
 have HK:Hid (RQR w ⟨a1,n1,c1,a2,n2,c2,a3,n3,c3⟩ x):=h
 have HIF:Hid (RQZ x↔RQZn ⟨a1,n1,c1,a2,n2,c2,a3,n3,c3⟩ x):=h.zn
 clear h
 show Calls Tryz.prog 24 #[.agg #[.slice a1 n1 c1,.slice a2 n2 c2,.int .i64 x.key.1,.int .u64 x.key.2.1,.int .i64 x.key.2.2,.slice a3 n3 c3],.int .i64 lf] w _
 obtain ⟨w0,hw0⟩:∃ w0,w0=w.alloc (.cells #[.slice a1 n1 c1,.slice a2 n2 c2,.int .i64 x.key.1,.int .u64 x.key.2.1,.int .i64 x.key.2.2,.slice a3 n3 c3] 58):=⟨_,rfl⟩
 have B0:Hid (Below w.heap.size w w0):=by show Below w.heap.size w w0; rw [hw0]; exact (Below.refl _ _).alloc (Nat.le_refl _) _
 have hh0:w0.heap[w.heap.size]? = some (.cells #[.slice a1 n1 c1,.slice a2 n2 c2,.int .i64 x.key.1,.int .u64 x.key.2.1,.int .i64 x.key.2.2,.slice a3 n3 c3] 58):=by rw [hw0]; exact heap_alloc_new w _
 have Y0:Hid (_=_):=hh0
 have l0:w.heap.size<w0.heap.size:=(Array.getElem?_eq_some_iff.1 hh0).1
 clear hh0
 have h0:0≤lf∧lf≤1048576:=⟨hl0,hl1⟩
 clear hl0 hl1
 go_enter Tryz.func24,Tryz.ntmps24
 go_upto_region 1 with fail
 rw [← hw0]
 clear hw0
 have q0:w0.cell? ⟨w.heap.size,0,none⟩=some (.slice a1 n1 c1):=(cell_of_row _ _ 0 _ 58 (0,0) Y0.out).trans rfl
 go_wp2_with fail
 refine (szName_any a1 n1 c1 x.sub lf _ ((HK.out.kept B0.out).r1) h0.1 h0.2).mono ?_
 rintro e w1 ⟨r1,rfl,hr1,hb1⟩
 have B1:Hid (Below w.heap.size w w1):=B0.out.trans (hb1.mono B0.out.size)
 have Y1:Hid (w1.heap[w.heap.size]? = some (.cells #[.slice a1 n1 c1,.slice a2 n2 c2,.int .i64 x.key.1,.int .u64 x.key.2.1,.int .i64 x.key.2.2,.slice a3 n3 c3] 58)):=(hb1.block _ l0).trans Y0.out
 clear hb1
 have l1:w.heap.size<w1.heap.size:=(Array.getElem?_eq_some_iff.1 Y1.out).1
 clear q0
 by_cases hneg1:r1<0
 ·clear hr1
  go_wp2
  go_ret
  exact ⟨_,rfl,.inl (by decide),B1.out⟩
 have h1:0≤r1∧r1≤1048576:=by omega
 have HR1:Hid (n1≤1048576∧(∀ k,k<n1→(x.sub.getD k default).val.size≤1048576)):=by rcases hr1 with h | h; exact absurd h hneg1; exact h.2.2
 clear hr1
 have q1:w1.cell? ⟨w.heap.size,1,none⟩=some (.slice a2 n2 c2):=(cell_of_row _ _ 1 _ 58 (0,0) Y1.out).trans rfl
 go_wp2_with fail
 refine (szGenNameS_any a2 n2 c2 x.nms r1 _ ((HK.out.kept B1.out).r2) h1.1 h1.2).mono ?_
 rintro e w2 ⟨r2,rfl,hr2,hb2⟩
 have B2:Hid (Below w.heap.size w w2):=B1.out.trans (hb2.mono B1.out.size)
 have Y2:Hid (w2.heap[w.heap.size]? = some (.cells #[.slice a1 n1 c1,.slice a2 n2 c2,.int .i64 x.key.1,.int .u64 x.key.2.1,.int .i64 x.key.2.2,.slice a3 n3 c3] 58)):=(hb2.block _ l1).trans Y1.out
 clear hb2
 have l2:w.heap.size<w2.heap.size:=(Array.getElem?_eq_some_iff.1 Y2.out).1
 clear q1
 by_cases hneg2:r2<0
 ·clear hr2
  go_wp2
  go_ret
  exact ⟨_,rfl,.inl (by decide),B2.out⟩
 have h2:0≤r2∧r2≤1048576:=by omega
 have HR2:Hid (n2≤1048576∧(∀ k,k<n2→GeOk (x.nms.getD k default))):=by rcases hr2 with h | h; exact absurd h hneg2; exact h.2.2
 clear hr2
 have q5:w2.cell? ⟨w.heap.size,5,none⟩=some (.slice a3 n3 c3):=(cell_of_row _ _ 5 _ 58 (0,0) Y2.out).trans rfl
 go_wp2_with fail
 refine (szByteS_k a3 n3 c3 r2 _ h2.1 h2.2 HK.out.m3).mono ?_
 rintro e w3 ⟨r3,rfl,hr3,hw3⟩
 subst hw3
 have B3:Hid (Below w.heap.size w w2):=B2.out
 have Y3:Hid (w2.heap[w.heap.size]? = some (.cells #[.slice a1 n1 c1,.slice a2 n2 c2,.int .i64 x.key.1,.int .u64 x.key.2.1,.int .i64 x.key.2.2,.slice a3 n3 c3] 58)):=Y2.out
 have l3:w.heap.size<w2.heap.size:=(Array.getElem?_eq_some_iff.1 Y3.out).1
 clear q5
 by_cases hneg3:r3<0
 ·clear hr3
  go_wp2
  go_ret
  exact ⟨_,rfl,.inl (by decide),B3.out⟩
 have h3:0≤r3∧r3≤1048576:=by omega
 have HR3:Hid (n3≤1048576):=by rcases hr3 with h | h; exact absurd h hneg3; exact h.2.2
 clear hr3
 go_wp2
 go_ret
 exact ⟨_,rfl,.inr ⟨h3.1,h3.2,HIF.out.2 ⟨HR1.out,HR2.out,HR3.out⟩⟩,B3.out⟩
structure RQQ (w W:World)(ls:Array Value)(R:World→Prop)(vs:Array Value):Prop where
 b0:W.heap[w.heap.size]? = some (.cells ls 58 (0,0))
 b1:W.heap[w.heap.size+1]? = some (.cells #[.slice none 0 0,.slice none 0 0,.int .i64 0,.int .u64 0,.int .i64 0,.slice none 0 0] 62 (0,0))
 b2:W.heap[w.heap.size+1+1]? = some (.cells vs 62 (0,0))
 st:Stab (w.heap.size+3) R
 r:R W
 below:Below w.heap.size w W
 lt:w.heap.size+3≤W.heap.size
theorem RQQ.set {w W:World}{ls vs:Array Value}{R:World→Prop}(h:RQQ w W ls R vs){us:Array Value}(j:Nat)(u:Value)(e:vs.setIfInBounds j u=us):RQQ w (W.setCell ⟨w.heap.size+1+1,j,none⟩ u) ls R us:=by
 have f:∀ l,l≠w.heap.size+2→(W.setCell ⟨w.heap.size+1+1,j,none⟩ u).heap[l]? = W.heap[l]?:=fun l hl=>Below.heap_setCell _ _ _ _ (by show l≠w.heap.size+1+1; omega)
 refine ⟨(f _ (by omega)).trans h.b0,(f _ (by omega)).trans h.b1,?_,h.st,h.st W _ (fun l hl _=>f l (by omega)) (by simp) h.r,⟨h.below.os,h.below.tape,h.below.output,by simpa [World.setCell] using h.below.size,fun l hl=>(f l (by omega)).trans (h.below.block l hl)⟩,by simpa [World.setCell] using h.lt⟩
 rw [← e]
 exact heap_setCell_same W (w.heap.size+1+1) j _ 62 u h.b2
theorem RQQ.on {w W:World}{ls vs:Array Value}{R:World→Prop}{W':World}(h:RQQ w W ls R vs)(hb:Below W.heap.size W W'):RQQ w W' ls R vs:=by
 have hl:=h.lt
 have hs:=hb.size
 exact ⟨(hb.block _ (by omega)).trans h.b0,(hb.block _ (by omega)).trans h.b1,(hb.block _ (by omega)).trans h.b2,h.st,h.st W W' (fun l _ hl=>hb.block l hl) hs h.r,h.below.trans (hb.mono h.below.size),by omega⟩
theorem RQQ.more {w W:World}{ls vs:Array Value}{R Q:World→Prop}(h:RQQ w W ls R vs)(s:Stab (w.heap.size+3) Q)(q:Q W):RQQ w W ls Q vs:=⟨h.b0,h.b1,h.b2,s,q,h.below,h.lt⟩
theorem RQQ.out {w W:World}{ls vs:Array Value}{R:World→Prop}(h:RQQ w W ls R vs)(j:Nat):W.cell? ⟨w.heap.size+1+1,j,none⟩=vs[j]?∧W.frozen? ⟨w.heap.size+1+1,j,none⟩=false∧W.cell? ⟨w.heap.size,j,none⟩=ls[j]? :=
 ⟨cell_of_row _ _ j _ 62 (0,0) h.b2,frozen_of_row W _ j _ 62 h.b2,cell_of_row _ _ j _ 58 (0,0) h.b0⟩
theorem infoSizeRQ:(Tryz.prog.info? 62).map (·.size)=some 6:=by kernel_rfl
theorem toReq_k (s:RQS)(x:RQ)(w:World)(h:RQR w s x)(hz:RQZ x) :
  Calls Tryz.prog 26 #[RQv s x] w fun e w'=>∃ t:RQS,e=.returned (RQv t x)∧RQT t∧Keeps w.heap.size w' (fun W=>RQR W t x)∧Below w.heap.size w w':=by
 have hzn:=h.zn.1 hz
 obtain ⟨a1,n1,c1,a2,n2,c2,a3,n3,c3⟩:=s
 have HK:Hid (RQR w ⟨a1,n1,c1,a2,n2,c2,a3,n3,c3⟩ x):=h
 have HZ:Hid ((n1≤1048576∧(∀ k,k<n1→(x.sub.getD k default).val.size≤1048576))∧(n2≤1048576∧(∀ k,k<n2→GeOk (x.nms.getD k default)))∧(n3≤1048576)):=hzn
 clear h hz hzn
 show Calls Tryz.prog 26 #[.agg #[.slice a1 n1 c1,.slice a2 n2 c2,.int .i64 x.key.1,.int .u64 x.key.2.1,.int .i64 x.key.2.2,.slice a3 n3 c3]] w _
 obtain ⟨w1,hW0⟩:∃ W0,W0=(((w.alloc (.cells #[.slice a1 n1 c1,.slice a2 n2 c2,.int .i64 x.key.1,.int .u64 x.key.2.1,.int .i64 x.key.2.2,.slice a3 n3 c3] 58)).alloc (.cells #[.slice none 0 0,.slice none 0 0,.int .i64 0,.int .u64 0,.int .i64 0,.slice none 0 0] 62)).alloc (.cells #[.slice none 0 0,.slice none 0 0,.int .i64 0,.int .u64 0,.int .i64 0,.slice none 0 0] 62)):=⟨_,rfl⟩
 have hB0:Below w.heap.size w w1:=by rw [hW0]; exact three_below _ _ _ _
 have hS0:w1.heap.size=w.heap.size+3:=by rw [hW0]; simp
 obtain ⟨b0,b1,b2⟩:=three_blocks' w (.cells #[.slice a1 n1 c1,.slice a2 n2 c2,.int .i64 x.key.1,.int .u64 x.key.2.1,.int .i64 x.key.2.2,.slice a3 n3 c3] 58) (.cells #[.slice none 0 0,.slice none 0 0,.int .i64 0,.int .u64 0,.int .i64 0,.slice none 0 0] 62) (.cells #[.slice none 0 0,.slice none 0 0,.int .i64 0,.int .u64 0,.int .i64 0,.slice none 0 0] 62)
 rw [← hW0] at b0 b1 b2
 have T1:Hid (RQQ w w1 #[.slice a1 n1 c1,.slice a2 n2 c2,.int .i64 x.key.1,.int .u64 x.key.2.1,.int .i64 x.key.2.2,.slice a3 n3 c3] (fun _=>True) #[.slice none 0 0,.slice none 0 0,.int .i64 0,.int .u64 0,.int .i64 0,.slice none 0 0]):=⟨b0,b1,b2,fun _ _ _ _ _=>trivial,trivial,hB0,by omega⟩
 clear b0 b1 b2 hB0 hS0
 go_enter Tryz.func26,Tryz.ntmps26
 go_upto_region 2 with fail
 rw [← hW0]
 clear hW0
 obtain ⟨_,_,l0⟩:=T1.out.out 0
 have l0:w1.cell? ⟨w.heap.size,0,none⟩=some (.slice a1 n1 c1):=l0
 have m1:=T1.out.lt
 go_wp2_with fail
 refine (toName_k a1 n1 c1 x.sub _ ((HK.out.kept T1.out.below).r1) HZ.out.1.1).mono ?_
 rintro e w2 ⟨p1,rfl,hp,hb⟩
 have T2:Hid (RQQ w w2 #[.slice a1 n1 c1,.slice a2 n2 c2,.int .i64 x.key.1,.int .u64 x.key.2.1,.int .i64 x.key.2.2,.slice a3 n3 c3] (fun W=>Keeps (w.heap.size+3) W (fun W=>Pts W p1 n1 x.sub)) #[.slice none 0 0,.slice none 0 0,.int .i64 0,.int .u64 0,.int .i64 0,.slice none 0 0]):=(T1.out.on hb).more (stab_keeps _ _) (hp.mono (by omega))
 clear hb hp T1 l0 m1
 obtain ⟨o0,f0,l0⟩:=T2.out.out 0
 have o0:w2.cell? ⟨w.heap.size+1+1,0,none⟩=some (.slice none 0 0):=o0
 have l0:w2.cell? ⟨w.heap.size,0,none⟩=some (.slice a1 n1 c1):=l0
 have m2:=T2.out.lt
 obtain ⟨w3,hw3⟩:∃ W,W=(w2.setCell ⟨w.heap.size+1+1,0,none⟩ (.slice p1 n1 n1)):=⟨_,rfl⟩
 have T3:Hid (RQQ w w3 #[.slice a1 n1 c1,.slice a2 n2 c2,.int .i64 x.key.1,.int .u64 x.key.2.1,.int .i64 x.key.2.2,.slice a3 n3 c3] (fun W=>Keeps (w.heap.size+3) W (fun W=>Pts W p1 n1 x.sub)) #[.slice p1 n1 n1,.slice none 0 0,.int .i64 0,.int .u64 0,.int .i64 0,.slice none 0 0]):=by rw [hw3]; exact (T2.out.set 0 _ rfl)
 have HW3:Hid (_=_):=hw3
 clear hw3
 go_upto_region 3 with fail
 rw [← HW3.out]
 clear HW3 o0 f0 l0 m2 T2
 obtain ⟨_,_,l1⟩:=T3.out.out 1
 have l1:w3.cell? ⟨w.heap.size,1,none⟩=some (.slice a2 n2 c2):=l1
 have m3:=T3.out.lt
 go_wp2_with fail
 refine (toGenNameS_k a2 n2 c2 x.nms _ ((HK.out.kept T3.out.below).r2) HZ.out.2.1.1 HZ.out.2.1.2).mono ?_
 rintro e w4 ⟨p2,rfl,hp,hb⟩
 have T4:Hid (RQQ w w4 #[.slice a1 n1 c1,.slice a2 n2 c2,.int .i64 x.key.1,.int .u64 x.key.2.1,.int .i64 x.key.2.2,.slice a3 n3 c3] (fun W=>(Keeps (w.heap.size+3) W (fun W=>Pts W p1 n1 x.sub))∧Keeps (w.heap.size+3) W (fun W=>Ges W p2 n2 x.nms)) #[.slice p1 n1 n1,.slice none 0 0,.int .i64 0,.int .u64 0,.int .i64 0,.slice none 0 0]):=(T3.out.on hb).more (stab_and T3.out.st (stab_keeps _ _)) ⟨(T3.out.on hb).r,hp.mono (by omega)⟩
 clear hb hp T3 l1 m3
 obtain ⟨o1,f1,l1⟩:=T4.out.out 1
 have o1:w4.cell? ⟨w.heap.size+1+1,1,none⟩=some (.slice none 0 0):=o1
 have l1:w4.cell? ⟨w.heap.size,1,none⟩=some (.slice a2 n2 c2):=l1
 have m4:=T4.out.lt
 obtain ⟨w5,hw5⟩:∃ W,W=(w4.setCell ⟨w.heap.size+1+1,1,none⟩ (.slice p2 n2 n2)):=⟨_,rfl⟩
 have T5:Hid (RQQ w w5 #[.slice a1 n1 c1,.slice a2 n2 c2,.int .i64 x.key.1,.int .u64 x.key.2.1,.int .i64 x.key.2.2,.slice a3 n3 c3] (fun W=>(Keeps (w.heap.size+3) W (fun W=>Pts W p1 n1 x.sub))∧Keeps (w.heap.size+3) W (fun W=>Ges W p2 n2 x.nms)) #[.slice p1 n1 n1,.slice p2 n2 n2,.int .i64 0,.int .u64 0,.int .i64 0,.slice none 0 0]):=by rw [hw5]; exact (T4.out.set 1 _ rfl)
 have HW5:Hid (_=_):=hw5
 clear hw5
 go_upto_region 4 with fail
 rw [← HW5.out]
 clear HW5 o1 f1 l1 m4 T4
 obtain ⟨_,_,l2⟩:=T5.out.out 2
 have l2:w5.cell? ⟨w.heap.size,2,none⟩=some (.int .i64 x.key.1):=l2
 obtain ⟨_,_,l3⟩:=T5.out.out 3
 have l3:w5.cell? ⟨w.heap.size,3,none⟩=some (.int .u64 x.key.2.1):=l3
 obtain ⟨_,_,l4⟩:=T5.out.out 4
 have l4:w5.cell? ⟨w.heap.size,4,none⟩=some (.int .i64 x.key.2.2):=l4
 have m5:=T5.out.lt
 go_wp2_with fail
 refine (toPub_any x.key.1 x.key.2.1 x.key.2.2 _).mono ?_
 rintro e w6 ⟨rfl,hb⟩
 have T6:Hid (RQQ w w6 #[.slice a1 n1 c1,.slice a2 n2 c2,.int .i64 x.key.1,.int .u64 x.key.2.1,.int .i64 x.key.2.2,.slice a3 n3 c3] (fun W=>(Keeps (w.heap.size+3) W (fun W=>Pts W p1 n1 x.sub))∧Keeps (w.heap.size+3) W (fun W=>Ges W p2 n2 x.nms)) #[.slice p1 n1 n1,.slice p2 n2 n2,.int .i64 0,.int .u64 0,.int .i64 0,.slice none 0 0]):=T5.out.on hb
 clear hb T5 l2 l3 l4 m5
 unfold kpv
 obtain ⟨o2,f2,l2⟩:=T6.out.out 2
 have o2:w6.cell? ⟨w.heap.size+1+1,2,none⟩=some (.int .i64 0):=o2
 have l2:w6.cell? ⟨w.heap.size,2,none⟩=some (.int .i64 x.key.1):=l2
 obtain ⟨o3,f3,l3⟩:=T6.out.out 3
 have o3:w6.cell? ⟨w.heap.size+1+1,3,none⟩=some (.int .u64 0):=o3
 have l3:w6.cell? ⟨w.heap.size,3,none⟩=some (.int .u64 x.key.2.1):=l3
 obtain ⟨o4,f4,l4⟩:=T6.out.out 4
 have o4:w6.cell? ⟨w.heap.size+1+1,4,none⟩=some (.int .i64 0):=o4
 have l4:w6.cell? ⟨w.heap.size,4,none⟩=some (.int .i64 x.key.2.2):=l4
 have m6:=T6.out.lt
 obtain ⟨w7,hw7⟩:∃ W,W=(((w6.setCell ⟨w.heap.size+1+1,2,none⟩ (.int .i64 x.key.1)).setCell ⟨w.heap.size+1+1,3,none⟩ (.int .u64 x.key.2.1)).setCell ⟨w.heap.size+1+1,4,none⟩ (.int .i64 x.key.2.2)):=⟨_,rfl⟩
 have T7:Hid (RQQ w w7 #[.slice a1 n1 c1,.slice a2 n2 c2,.int .i64 x.key.1,.int .u64 x.key.2.1,.int .i64 x.key.2.2,.slice a3 n3 c3] (fun W=>(Keeps (w.heap.size+3) W (fun W=>Pts W p1 n1 x.sub))∧Keeps (w.heap.size+3) W (fun W=>Ges W p2 n2 x.nms)) #[.slice p1 n1 n1,.slice p2 n2 n2,.int .i64 x.key.1,.int .u64 x.key.2.1,.int .i64 x.key.2.2,.slice none 0 0]):=by rw [hw7]; exact (((T6.out.set 2 _ rfl).set 3 _ rfl).set 4 _ rfl)
 have HW7:Hid (_=_):=hw7
 clear hw7
 go_upto_region 5 with fail
 rw [← HW7.out]
 clear HW7 o2 f2 l2 o3 f3 l3 o4 f4 l4 m6 T6
 obtain ⟨_,_,l5⟩:=T7.out.out 5
 have l5:w7.cell? ⟨w.heap.size,5,none⟩=some (.slice a3 n3 c3):=l5
 have m7:=T7.out.lt
 go_wp2_with fail
 refine (toByteS_k a3 n3 c3 x.sig _ ((HK.out.kept T7.out.below).r3) HZ.out.2.2).mono ?_
 rintro e w8 ⟨p3,rfl,hp,hb⟩
 have T8:Hid (RQQ w w8 #[.slice a1 n1 c1,.slice a2 n2 c2,.int .i64 x.key.1,.int .u64 x.key.2.1,.int .i64 x.key.2.2,.slice a3 n3 c3] (fun W=>((Keeps (w.heap.size+3) W (fun W=>Pts W p1 n1 x.sub))∧Keeps (w.heap.size+3) W (fun W=>Ges W p2 n2 x.nms))∧Keeps (w.heap.size+3) W (fun W=>Row W p3 n3 x.sig)) #[.slice p1 n1 n1,.slice p2 n2 n2,.int .i64 x.key.1,.int .u64 x.key.2.1,.int .i64 x.key.2.2,.slice none 0 0]):=(T7.out.on hb).more (stab_and T7.out.st (stab_keeps _ _)) ⟨(T7.out.on hb).r,hp.mono (by omega)⟩
 clear hb hp T7 l5 m7
 obtain ⟨o5,f5,l5⟩:=T8.out.out 5
 have o5:w8.cell? ⟨w.heap.size+1+1,5,none⟩=some (.slice none 0 0):=o5
 have l5:w8.cell? ⟨w.heap.size,5,none⟩=some (.slice a3 n3 c3):=l5
 have m8:=T8.out.lt
 obtain ⟨w9,hw9⟩:∃ W,W=(w8.setCell ⟨w.heap.size+1+1,5,none⟩ (.slice p3 n3 n3)):=⟨_,rfl⟩
 have T9:Hid (RQQ w w9 #[.slice a1 n1 c1,.slice a2 n2 c2,.int .i64 x.key.1,.int .u64 x.key.2.1,.int .i64 x.key.2.2,.slice a3 n3 c3] (fun W=>((Keeps (w.heap.size+3) W (fun W=>Pts W p1 n1 x.sub))∧Keeps (w.heap.size+3) W (fun W=>Ges W p2 n2 x.nms))∧Keeps (w.heap.size+3) W (fun W=>Row W p3 n3 x.sig)) #[.slice p1 n1 n1,.slice p2 n2 n2,.int .i64 x.key.1,.int .u64 x.key.2.1,.int .i64 x.key.2.2,.slice p3 n3 n3]):=by rw [hw9]; exact (T8.out.set 5 _ rfl)
 have HW9:Hid (_=_):=hw9
 clear hw9
 go_upto_region 6 with fail
 rw [← HW9.out]
 clear HW9 o5 f5 l5 m8 T8
 have HMX:Hid (RQR w ⟨a1,n1,c1,a2,n2,c2,a3,n3,c3⟩ x):=HK.out
 clear HK
 have hlF:=T9.out.lt
 rename_i K0 hK0
 apply wp_region_lit
 refine wpList_load_row rfl 62 _ rfl (w.heap.size+1+1) rfl 62 #[.slice p1 n1 n1,.slice p2 n2 n2,.int .i64 x.key.1,.int .u64 x.key.2.1,.int .i64 x.key.2.2,.slice p3 n3 n3] (0,0) _ T9.out.b2 Tryz.underlying62 rfl infoSizeRQ ?_
 refine wpList_store_rowTo rfl 62 _ _ rfl rfl (w.heap.size+1) #[.slice p1 n1 n1,.slice p2 n2 n2,.int .i64 x.key.1,.int .u64 x.key.2.1,.int .i64 x.key.2.2,.slice p3 n3 n3] rfl rfl 62 #[.slice none 0 0,.slice none 0 0,.int .i64 0,.int .u64 0,.int .i64 0,.slice none 0 0] T9.out.b1 infoSizeRQ rfl (by simp [Value.oneCell']) ?_
 apply wpList_nil
 refine hK0 _ _ ?_
 clear hK0 K0
 have hrow:(w9.setRow (w.heap.size+1) #[.slice p1 n1 n1,.slice p2 n2 n2,.int .i64 x.key.1,.int .u64 x.key.2.1,.int .i64 x.key.2.2,.slice p3 n3 n3]).heap[w.heap.size+1]? = some (.cells #[.slice p1 n1 n1,.slice p2 n2 n2,.int .i64 x.key.1,.int .u64 x.key.2.1,.int .i64 x.key.2.2,.slice p3 n3 n3] 62 (0,0)):=setRow_heap _ _ _ _ _ _ T9.out.b1
 have hoth:∀ l,l≠w.heap.size+1→(w9.setRow (w.heap.size+1) #[.slice p1 n1 n1,.slice p2 n2 n2,.int .i64 x.key.1,.int .u64 x.key.2.1,.int .i64 x.key.2.2,.slice p3 n3 n3]).heap[l]? = w9.heap[l]?:=fun l hl=>setRow_other _ _ _ _ hl
 have hsz:(w9.setRow (w.heap.size+1) #[.slice p1 n1 n1,.slice p2 n2 n2,.int .i64 x.key.1,.int .u64 x.key.2.1,.int .i64 x.key.2.2,.slice p3 n3 n3]).heap.size=w9.heap.size:=by simp
 have hbF:Below w.heap.size w (w9.setRow (w.heap.size+1) #[.slice p1 n1 n1,.slice p2 n2 n2,.int .i64 x.key.1,.int .u64 x.key.2.1,.int .i64 x.key.2.2,.slice p3 n3 n3]):=⟨T9.out.below.os,T9.out.below.tape,T9.out.below.output,by rw [hsz]; exact T9.out.below.size,fun l hl=>(hoth l (by omega)).trans (T9.out.below.block l hl)⟩
 have hr:=T9.out.st w9 (w9.setRow (w.heap.size+1) #[.slice p1 n1 n1,.slice p2 n2 n2,.int .i64 x.key.1,.int .u64 x.key.2.1,.int .i64 x.key.2.2,.slice p3 n3 n3]) (fun l hl hl2=>hoth l (by omega)) (Nat.le_of_eq hsz.symm) T9.out.r
 go_wp2
 try simp only [Exit.inBlock,Exit.then]
 obtain ⟨⟨k1,k2⟩,k3⟩:=hr
 refine bodyPost_ret (results_cell_row rfl _ _ (w.heap.size+1) 62 _ (0,0) _ rfl hrow Tryz.underlying62 rfl infoSizeRQ) rfl ⟨⟨p1,n1,n1,p2,n2,n2,p3,n3,n3⟩,rfl,⟨rfl,rfl,rfl⟩,Keeps.mono ((keeps_and (keeps_and k1 k2) k3).map fun W q=>?_) (by omega),hbF⟩
 obtain ⟨⟨h1,h2⟩,h3⟩:=q
 exact ⟨h1,h2,h3,HMX.out.m3,nil_row h3⟩
theorem eqReq_k (s t:RQS)(x:RQ)(w:World)(h:RQR w s x)(h2:RQR w t x)(hz:RQZ x) :
  Calls Tryz.prog 28 #[RQv s x,RQv t x] w fun e w'=>e=.returned (.bool true)∧Below w.heap.size w w':=by
 have hzn:=h.zn.1 hz
 obtain ⟨a1,n1,c1,a2,n2,c2,a3,n3,c3⟩:=s
 obtain ⟨b1,m1,d1,b2,m2,d2,b3,m3,d3⟩:=t
 obtain rfl:m1=n1:=(h2.r1.len).symm.trans h.r1.len
 obtain rfl:m2=n2:=(h2.r2.len).symm.trans h.r2.len
 obtain rfl:m3=n3:=(h2.r3.len).symm.trans h.r3.len
 have H1:Hid (RQR w ⟨a1,m1,c1,a2,m2,c2,a3,m3,c3⟩ x):=h
 have H2:Hid (RQR w ⟨b1,m1,d1,b2,m2,d2,b3,m3,d3⟩ x):=h2
 have HZ:Hid ((m1≤1048576∧(∀ k,k<m1→(x.sub.getD k default).val.size≤1048576))∧(m2≤1048576∧(∀ k,k<m2→GeOk (x.nms.getD k default)))∧(m3≤1048576)):=hzn
 clear h h2 hz hzn
 show Calls Tryz.prog 28 #[.agg #[.slice a1 m1 c1,.slice a2 m2 c2,.int .i64 x.key.1,.int .u64 x.key.2.1,.int .i64 x.key.2.2,.slice a3 m3 c3],.agg #[.slice b1 m1 d1,.slice b2 m2 d2,.int .i64 x.key.1,.int .u64 x.key.2.1,.int .i64 x.key.2.2,.slice b3 m3 d3]] w _
 obtain ⟨w0,hW0⟩:∃ W0,W0=((w.alloc (.cells #[.slice a1 m1 c1,.slice a2 m2 c2,.int .i64 x.key.1,.int .u64 x.key.2.1,.int .i64 x.key.2.2,.slice a3 m3 c3] 62)).alloc (.cells #[.slice b1 m1 d1,.slice b2 m2 d2,.int .i64 x.key.1,.int .u64 x.key.2.1,.int .i64 x.key.2.2,.slice b3 m3 d3] 62)):=⟨_,rfl⟩
 have HB0:Hid (Below w.heap.size w w0):=by show Below w.heap.size w w0; rw [hW0]; exact ((Below.refl _ _).alloc (Nat.le_refl _) _).alloc (by simp) _
 have y:=two_blocks w (.cells #[.slice a1 m1 c1,.slice a2 m2 c2,.int .i64 x.key.1,.int .u64 x.key.2.1,.int .i64 x.key.2.2,.slice a3 m3 c3] 62) (.cells #[.slice b1 m1 d1,.slice b2 m2 d2,.int .i64 x.key.1,.int .u64 x.key.2.1,.int .i64 x.key.2.2,.slice b3 m3 d3] 62)
 rw [← hW0] at y
 have Y0:Hid (w0.heap[w.heap.size]? = some (.cells #[.slice a1 m1 c1,.slice a2 m2 c2,.int .i64 x.key.1,.int .u64 x.key.2.1,.int .i64 x.key.2.2,.slice a3 m3 c3] 62)):=y.1
 have Y1:Hid (w0.heap[w.heap.size+1]? = some (.cells #[.slice b1 m1 d1,.slice b2 m2 d2,.int .i64 x.key.1,.int .u64 x.key.2.1,.int .i64 x.key.2.2,.slice b3 m3 d3] 62)):=y.2
 have l0:w.heap.size+1<w0.heap.size:=(Array.getElem?_eq_some_iff.1 y.2).1
 clear y
 go_enter Tryz.func28,Tryz.ntmps28
 go_upto_region 1 with fail
 rw [← hW0]
 clear hW0
 have p0:w0.cell? ⟨w.heap.size,0,none⟩=some (.slice a1 m1 c1):=(cell_of_row _ _ 0 _ 62 (0,0) Y0.out).trans rfl
 have q0:w0.cell? ⟨w.heap.size+1,0,none⟩=some (.slice b1 m1 d1):=(cell_of_row _ _ 0 _ 62 (0,0) Y1.out).trans rfl
 go_wp2_with fail
 refine (eqName_same a1 b1 m1 c1 d1 x.sub _ ((H1.out.kept HB0.out).r1) ((H2.out.kept HB0.out).r1)).mono ?_
 rintro e w1 ⟨rfl,hb1⟩
 replace Y0:Hid (w1.heap[w.heap.size]? = some (.cells #[.slice a1 m1 c1,.slice a2 m2 c2,.int .i64 x.key.1,.int .u64 x.key.2.1,.int .i64 x.key.2.2,.slice a3 m3 c3] 62)):=(hb1.block _ (by omega)).trans Y0.out
 replace Y1:Hid (w1.heap[w.heap.size+1]? = some (.cells #[.slice b1 m1 d1,.slice b2 m2 d2,.int .i64 x.key.1,.int .u64 x.key.2.1,.int .i64 x.key.2.2,.slice b3 m3 d3] 62)):=(hb1.block _ l0).trans Y1.out
 have HB1:Hid (Below w.heap.size w w1):=HB0.out.trans (hb1.mono HB0.out.size)
 have l1:w.heap.size+1<w1.heap.size:=(Array.getElem?_eq_some_iff.1 Y1.out).1
 clear p0 q0 hb1 HB0 l0
 have p1:w1.cell? ⟨w.heap.size,1,none⟩=some (.slice a2 m2 c2):=(cell_of_row _ _ 1 _ 62 (0,0) Y0.out).trans rfl
 have q1:w1.cell? ⟨w.heap.size+1,1,none⟩=some (.slice b2 m2 d2):=(cell_of_row _ _ 1 _ 62 (0,0) Y1.out).trans rfl
 go_wp2_with fail
 refine (eqGenNameS_same a2 b2 m2 c2 d2 x.nms _ ((H1.out.kept HB1.out).r2) ((H2.out.kept HB1.out).r2)).mono ?_
 rintro e w2 ⟨rfl,hb2⟩
 replace Y0:Hid (w2.heap[w.heap.size]? = some (.cells #[.slice a1 m1 c1,.slice a2 m2 c2,.int .i64 x.key.1,.int .u64 x.key.2.1,.int .i64 x.key.2.2,.slice a3 m3 c3] 62)):=(hb2.block _ (by omega)).trans Y0.out
 replace Y1:Hid (w2.heap[w.heap.size+1]? = some (.cells #[.slice b1 m1 d1,.slice b2 m2 d2,.int .i64 x.key.1,.int .u64 x.key.2.1,.int .i64 x.key.2.2,.slice b3 m3 d3] 62)):=(hb2.block _ l1).trans Y1.out
 have HB2:Hid (Below w.heap.size w w2):=HB1.out.trans (hb2.mono HB1.out.size)
 have l2:w.heap.size+1<w2.heap.size:=(Array.getElem?_eq_some_iff.1 Y1.out).1
 clear p1 q1 hb2 HB1 l1
 have p2:w2.cell? ⟨w.heap.size,2,none⟩=some (.int .i64 x.key.1):=(cell_of_row _ _ 2 _ 62 (0,0) Y0.out).trans rfl
 have q2:w2.cell? ⟨w.heap.size+1,2,none⟩=some (.int .i64 x.key.1):=(cell_of_row _ _ 2 _ 62 (0,0) Y1.out).trans rfl
 have p3:w2.cell? ⟨w.heap.size,3,none⟩=some (.int .u64 x.key.2.1):=(cell_of_row _ _ 3 _ 62 (0,0) Y0.out).trans rfl
 have q3:w2.cell? ⟨w.heap.size+1,3,none⟩=some (.int .u64 x.key.2.1):=(cell_of_row _ _ 3 _ 62 (0,0) Y1.out).trans rfl
 have p4:w2.cell? ⟨w.heap.size,4,none⟩=some (.int .i64 x.key.2.2):=(cell_of_row _ _ 4 _ 62 (0,0) Y0.out).trans rfl
 have q4:w2.cell? ⟨w.heap.size+1,4,none⟩=some (.int .i64 x.key.2.2):=(cell_of_row _ _ 4 _ 62 (0,0) Y1.out).trans rfl
 go_wp2_with fail
 refine (eqPub_one x.key.1 x.key.2.1 x.key.2.2 _).mono ?_
 rintro e w3 ⟨rfl,hb3⟩
 replace Y0:Hid (w3.heap[w.heap.size]? = some (.cells #[.slice a1 m1 c1,.slice a2 m2 c2,.int .i64 x.key.1,.int .u64 x.key.2.1,.int .i64 x.key.2.2,.slice a3 m3 c3] 62)):=(hb3.block _ (by omega)).trans Y0.out
 replace Y1:Hid (w3.heap[w.heap.size+1]? = some (.cells #[.slice b1 m1 d1,.slice b2 m2 d2,.int .i64 x.key.1,.int .u64 x.key.2.1,.int .i64 x.key.2.2,.slice b3 m3 d3] 62)):=(hb3.block _ l2).trans Y1.out
 have HB3:Hid (Below w.heap.size w w3):=HB2.out.trans (hb3.mono HB2.out.size)
 have l3:w.heap.size+1<w3.heap.size:=(Array.getElem?_eq_some_iff.1 Y1.out).1
 clear p2 q2 p3 q3 p4 q4 hb3 HB2 l2
 have p5:w3.cell? ⟨w.heap.size,5,none⟩=some (.slice a3 m3 c3):=(cell_of_row _ _ 5 _ 62 (0,0) Y0.out).trans rfl
 have q5:w3.cell? ⟨w.heap.size+1,5,none⟩=some (.slice b3 m3 d3):=(cell_of_row _ _ 5 _ 62 (0,0) Y1.out).trans rfl
 go_wp2_with fail
 refine (eqByteS_one a3 b3 m3 c3 d3 x.sig _ ((H1.out.kept HB3.out).r3) ((H2.out.kept HB3.out).r3) HZ.out.2.2).mono ?_
 rintro e w4 ⟨rfl,hb4⟩
 replace Y0:Hid (w4.heap[w.heap.size]? = some (.cells #[.slice a1 m1 c1,.slice a2 m2 c2,.int .i64 x.key.1,.int .u64 x.key.2.1,.int .i64 x.key.2.2,.slice a3 m3 c3] 62)):=(hb4.block _ (by omega)).trans Y0.out
 replace Y1:Hid (w4.heap[w.heap.size+1]? = some (.cells #[.slice b1 m1 d1,.slice b2 m2 d2,.int .i64 x.key.1,.int .u64 x.key.2.1,.int .i64 x.key.2.2,.slice b3 m3 d3] 62)):=(hb4.block _ l3).trans Y1.out
 have HB4:Hid (Below w.heap.size w w4):=HB3.out.trans (hb4.mono HB3.out.size)
 have l4:w.heap.size+1<w4.heap.size:=(Array.getElem?_eq_some_iff.1 Y1.out).1
 clear p5 q5 hb4 HB3 l3
 go_wp2
 go_ret
 exact ⟨rfl,HB4.out⟩
end Go.Proofs.YtmdfbnlgfhjnoaaGreatDoor
