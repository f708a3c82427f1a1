import Derived.Test.YtmdfbnlgfhjnoaaGreatDoorFD27
set_option maxRecDepth 10000
set_option maxHeartbeats 8000000
set_option linter.unusedVariables false
namespace Go.Proofs.YtmdfbnlgfhjnoaaGreatDoor
open Go.RowKit
structure CEQ (w W:World)(ls:Array Value)(R:World→Prop)(vs:Array Value):Prop where
 b0:W.heap[w.heap.size]? = some (.cells ls 34 (0,0))
 b1:W.heap[w.heap.size+1]? = some (.cells #[.int .i64 0,.slice none 0 0,.slice none 0 0,.int .i64 0,.int .i64 0,.int .i64 0,.int .u64 0,.int .i64 0,.bool false,.int .i64 0,.int .i64 0,.slice none 0 0,.slice none 0 0,.slice none 0 0,.slice none 0 0,.slice none 0 0,.int .i64 0,.int .i64 0,.int .i64 0,.slice none 0 0,.slice none 0 0] 46 (0,0))
 b2:W.heap[w.heap.size+1+1]? = some (.cells vs 46 (0,0))
 st:Stab (w.heap.size+3) R
 r:R W
 below:Below w.heap.size w W
 lt:w.heap.size+3≤W.heap.size
theorem CEQ.set {w W:World}{ls vs:Array Value}{R:World→Prop}(h:CEQ w W ls R vs){us:Array Value}(j:Nat)(u:Value)(e:vs.setIfInBounds j u=us):CEQ w (W.setCell ⟨w.heap.size+1+1,j,none⟩ u) ls R us:=by
 have f:∀ l,l≠w.heap.size+2→(W.setCell ⟨w.heap.size+1+1,j,none⟩ u).heap[l]? = W.heap[l]?:=fun l hl=>Below.heap_setCell _ _ _ _ (by show l≠w.heap.size+1+1; omega)
 refine ⟨(f _ (by omega)).trans h.b0,(f _ (by omega)).trans h.b1,?_,h.st,h.st W _ (fun l hl _=>f l (by omega)) (by simp) h.r,⟨h.below.os,h.below.tape,h.below.output,by simpa [World.setCell] using h.below.size,fun l hl=>(f l (by omega)).trans (h.below.block l hl)⟩,by simpa [World.setCell] using h.lt⟩
 rw [← e]
 exact heap_setCell_same W (w.heap.size+1+1) j _ 46 u h.b2
theorem CEQ.on {w W:World}{ls vs:Array Value}{R:World→Prop}{W':World}(h:CEQ w W ls R vs)(hb:Below W.heap.size W W'):CEQ w W' ls R vs:=by
 have hl:=h.lt
 have hs:=hb.size
 exact ⟨(hb.block _ (by omega)).trans h.b0,(hb.block _ (by omega)).trans h.b1,(hb.block _ (by omega)).trans h.b2,h.st,h.st W W' (fun l _ hl=>hb.block l hl) hs h.r,h.below.trans (hb.mono h.below.size),by omega⟩
theorem CEQ.more {w W:World}{ls vs:Array Value}{R Q:World→Prop}(h:CEQ w W ls R vs)(s:Stab (w.heap.size+3) Q)(q:Q W):CEQ w W ls Q vs:=⟨h.b0,h.b1,h.b2,s,q,h.below,h.lt⟩
theorem CEQ.out {w W:World}{ls vs:Array Value}{R:World→Prop}(h:CEQ w W ls R vs)(j:Nat):W.cell? ⟨w.heap.size+1+1,j,none⟩=vs[j]?∧W.frozen? ⟨w.heap.size+1+1,j,none⟩=false∧W.cell? ⟨w.heap.size,j,none⟩=ls[j]? :=
 ⟨cell_of_row _ _ j _ 46 (0,0) h.b2,frozen_of_row W _ j _ 46 h.b2,cell_of_row _ _ j _ 34 (0,0) h.b0⟩
theorem infoSizeCE:(Tryz.prog.info? 46).map (·.size)=some 21:=by kernel_rfl
theorem toCert_k (s:CES)(x:CE)(w:World)(h:CER w s x)(hz:CEZ x) :
  Calls Tryz.prog 10 #[CEv s x] w fun e w'=>∃ t:CES,e=.returned (CEv t x)∧CET t∧Keeps w.heap.size w' (fun W=>CER W t x)∧Below w.heap.size w w':=by
 have hzn:=h.zn.1 hz
 obtain ⟨a1,n1,c1,a2,n2,c2,a3,n3,c3,a4,n4,c4,a5,n5,c5,a6,n6,c6,a7,n7,c7,a8,n8,c8,a9,n9,c9⟩:=s
 have HK:Hid (CER w ⟨a1,n1,c1,a2,n2,c2,a3,n3,c3,a4,n4,c4,a5,n5,c5,a6,n6,c6,a7,n7,c7,a8,n8,c8,a9,n9,c9⟩ x):=h
 have HZ:Hid ((n1≤1048576∧(∀ k,k<n1→(x.iss.getD k default).val.size≤1048576))∧(n2≤1048576∧(∀ k,k<n2→(x.sub.getD k default).val.size≤1048576))∧(n3≤1048576∧(∀ k,k<n3→GeOk (x.nms.getD k default)))∧(n4≤1048576∧(∀ k,k<n4→GeOk (x.per.getD k default)))∧(n5≤1048576∧(∀ k,k<n5→GeOk (x.den.getD k default)))∧(n6≤1048576)∧(n7≤1048576)∧(n8≤1048576∧(∀ k,k<n8→XPZ (x.ext.getD k default)))∧(n9≤1048576)):=hzn
 clear h hz hzn
 show Calls Tryz.prog 10 #[.agg #[.int .i64 x.ser,.slice a1 n1 c1,.slice a2 n2 c2,.int .i64 x.frm,.int .i64 x.til,.int .i64 x.key.1,.int .u64 x.key.2.1,.int .i64 x.key.2.2,.bool x.ca,.int .i64 x.room,.int .i64 x.uses,.slice a3 n3 c3,.slice a4 n4 c4,.slice a5 n5 c5,.slice a6 n6 c6,.slice a7 n7 c7,.int .i64 x.need,.int .i64 x.nomap,.int .i64 x.noany,.slice a8 n8 c8,.slice a9 n9 c9]] w _
 obtain ⟨w1,hW0⟩:∃ W0,W0=(((w.alloc (.cells #[.int .i64 x.ser,.slice a1 n1 c1,.slice a2 n2 c2,.int .i64 x.frm,.int .i64 x.til,.int .i64 x.key.1,.int .u64 x.key.2.1,.int .i64 x.key.2.2,.bool x.ca,.int .i64 x.room,.int .i64 x.uses,.slice a3 n3 c3,.slice a4 n4 c4,.slice a5 n5 c5,.slice a6 n6 c6,.slice a7 n7 c7,.int .i64 x.need,.int .i64 x.nomap,.int .i64 x.noany,.slice a8 n8 c8,.slice a9 n9 c9] 34)).alloc (.cells #[.int .i64 0,.slice none 0 0,.slice none 0 0,.int .i64 0,.int .i64 0,.int .i64 0,.int .u64 0,.int .i64 0,.bool false,.int .i64 0,.int .i64 0,.slice none 0 0,.slice none 0 0,.slice none 0 0,.slice none 0 0,.slice none 0 0,.int .i64 0,.int .i64 0,.int .i64 0,.slice none 0 0,.slice none 0 0] 46)).alloc (.cells #[.int .i64 0,.slice none 0 0,.slice none 0 0,.int .i64 0,.int .i64 0,.int .i64 0,.int .u64 0,.int .i64 0,.bool false,.int .i64 0,.int .i64 0,.slice none 0 0,.slice none 0 0,.slice none 0 0,.slice none 0 0,.slice none 0 0,.int .i64 0,.int .i64 0,.int .i64 0,.slice none 0 0,.slice none 0 0] 46)):=⟨_,rfl⟩
 have hB0:Below w.heap.size w w1:=by rw [hW0]; exact three_below _ _ _ _
 have hS0:w1.heap.size=w.heap.size+3:=by rw [hW0]; simp
 obtain ⟨b0,b1,b2⟩:=three_blocks' w (.cells #[.int .i64 x.ser,.slice a1 n1 c1,.slice a2 n2 c2,.int .i64 x.frm,.int .i64 x.til,.int .i64 x.key.1,.int .u64 x.key.2.1,.int .i64 x.key.2.2,.bool x.ca,.int .i64 x.room,.int .i64 x.uses,.slice a3 n3 c3,.slice a4 n4 c4,.slice a5 n5 c5,.slice a6 n6 c6,.slice a7 n7 c7,.int .i64 x.need,.int .i64 x.nomap,.int .i64 x.noany,.slice a8 n8 c8,.slice a9 n9 c9] 34) (.cells #[.int .i64 0,.slice none 0 0,.slice none 0 0,.int .i64 0,.int .i64 0,.int .i64 0,.int .u64 0,.int .i64 0,.bool false,.int .i64 0,.int .i64 0,.slice none 0 0,.slice none 0 0,.slice none 0 0,.slice none 0 0,.slice none 0 0,.int .i64 0,.int .i64 0,.int .i64 0,.slice none 0 0,.slice none 0 0] 46) (.cells #[.int .i64 0,.slice none 0 0,.slice none 0 0,.int .i64 0,.int .i64 0,.int .i64 0,.int .u64 0,.int .i64 0,.bool false,.int .i64 0,.int .i64 0,.slice none 0 0,.slice none 0 0,.slice none 0 0,.slice none 0 0,.slice none 0 0,.int .i64 0,.int .i64 0,.int .i64 0,.slice none 0 0,.slice none 0 0] 46)
 rw [← hW0] at b0 b1 b2
 have T1:Hid (CEQ w w1 #[.int .i64 x.ser,.slice a1 n1 c1,.slice a2 n2 c2,.int .i64 x.frm,.int .i64 x.til,.int .i64 x.key.1,.int .u64 x.key.2.1,.int .i64 x.key.2.2,.bool x.ca,.int .i64 x.room,.int .i64 x.uses,.slice a3 n3 c3,.slice a4 n4 c4,.slice a5 n5 c5,.slice a6 n6 c6,.slice a7 n7 c7,.int .i64 x.need,.int .i64 x.nomap,.int .i64 x.noany,.slice a8 n8 c8,.slice a9 n9 c9] (fun _=>True) #[.int .i64 0,.slice none 0 0,.slice none 0 0,.int .i64 0,.int .i64 0,.int .i64 0,.int .u64 0,.int .i64 0,.bool false,.int .i64 0,.int .i64 0,.slice none 0 0,.slice none 0 0,.slice none 0 0,.slice none 0 0,.slice none 0 0,.int .i64 0,.int .i64 0,.int .i64 0,.slice none 0 0,.slice none 0 0]):=⟨b0,b1,b2,fun _ _ _ _ _=>trivial,trivial,hB0,by omega⟩
 clear b0 b1 b2 hB0 hS0
 go_enter Tryz.func10,Tryz.ntmps10
 go_upto_region 2 with fail
 rw [← hW0]
 clear hW0
 obtain ⟨o0,f0,l0⟩:=T1.out.out 0
 have o0:w1.cell? ⟨w.heap.size+1+1,0,none⟩=some (.int .i64 0):=o0
 have l0:w1.cell? ⟨w.heap.size,0,none⟩=some (.int .i64 x.ser):=l0
 have m1:=T1.out.lt
 obtain ⟨w2,hw2⟩:∃ W,W=(w1.setCell ⟨w.heap.size+1+1,0,none⟩ (.int .i64 x.ser)):=⟨_,rfl⟩
 have T2:Hid (CEQ w w2 #[.int .i64 x.ser,.slice a1 n1 c1,.slice a2 n2 c2,.int .i64 x.frm,.int .i64 x.til,.int .i64 x.key.1,.int .u64 x.key.2.1,.int .i64 x.key.2.2,.bool x.ca,.int .i64 x.room,.int .i64 x.uses,.slice a3 n3 c3,.slice a4 n4 c4,.slice a5 n5 c5,.slice a6 n6 c6,.slice a7 n7 c7,.int .i64 x.need,.int .i64 x.nomap,.int .i64 x.noany,.slice a8 n8 c8,.slice a9 n9 c9] (fun _=>True) #[.int .i64 x.ser,.slice none 0 0,.slice none 0 0,.int .i64 0,.int .i64 0,.int .i64 0,.int .u64 0,.int .i64 0,.bool false,.int .i64 0,.int .i64 0,.slice none 0 0,.slice none 0 0,.slice none 0 0,.slice none 0 0,.slice none 0 0,.int .i64 0,.int .i64 0,.int .i64 0,.slice none 0 0,.slice none 0 0]):=by rw [hw2]; exact (T1.out.set 0 _ rfl)
 have HW2:Hid (_=_):=hw2
 clear hw2
 go_upto_region 3 with fail
 rw [← HW2.out]
 clear HW2 o0 f0 l0 m1 T1
 obtain ⟨_,_,l1⟩:=T2.out.out 1
 have l1:w2.cell? ⟨w.heap.size,1,none⟩=some (.slice a1 n1 c1):=l1
 have m2:=T2.out.lt
 go_wp2_with fail
 refine (toName_k a1 n1 c1 x.iss _ ((HK.out.kept T2.out.below).r1) HZ.out.1.1).mono ?_
 rintro e w3 ⟨p1,rfl,hp,hb⟩
 have T3:Hid (CEQ w w3 #[.int .i64 x.ser,.slice a1 n1 c1,.slice a2 n2 c2,.int .i64 x.frm,.int .i64 x.til,.int .i64 x.key.1,.int .u64 x.key.2.1,.int .i64 x.key.2.2,.bool x.ca,.int .i64 x.room,.int .i64 x.uses,.slice a3 n3 c3,.slice a4 n4 c4,.slice a5 n5 c5,.slice a6 n6 c6,.slice a7 n7 c7,.int .i64 x.need,.int .i64 x.nomap,.int .i64 x.noany,.slice a8 n8 c8,.slice a9 n9 c9] (fun W=>Keeps (w.heap.size+3) W (fun W=>Pts W p1 n1 x.iss)) #[.int .i64 x.ser,.slice none 0 0,.slice none 0 0,.int .i64 0,.int .i64 0,.int .i64 0,.int .u64 0,.int .i64 0,.bool false,.int .i64 0,.int .i64 0,.slice none 0 0,.slice none 0 0,.slice none 0 0,.slice none 0 0,.slice none 0 0,.int .i64 0,.int .i64 0,.int .i64 0,.slice none 0 0,.slice none 0 0]):=(T2.out.on hb).more (stab_keeps _ _) (hp.mono (by omega))
 clear hb hp T2 l1 m2
 obtain ⟨o1,f1,l1⟩:=T3.out.out 1
 have o1:w3.cell? ⟨w.heap.size+1+1,1,none⟩=some (.slice none 0 0):=o1
 have l1:w3.cell? ⟨w.heap.size,1,none⟩=some (.slice a1 n1 c1):=l1
 have m3:=T3.out.lt
 obtain ⟨w4,hw4⟩:∃ W,W=(w3.setCell ⟨w.heap.size+1+1,1,none⟩ (.slice p1 n1 n1)):=⟨_,rfl⟩
 have T4:Hid (CEQ w w4 #[.int .i64 x.ser,.slice a1 n1 c1,.slice a2 n2 c2,.int .i64 x.frm,.int .i64 x.til,.int .i64 x.key.1,.int .u64 x.key.2.1,.int .i64 x.key.2.2,.bool x.ca,.int .i64 x.room,.int .i64 x.uses,.slice a3 n3 c3,.slice a4 n4 c4,.slice a5 n5 c5,.slice a6 n6 c6,.slice a7 n7 c7,.int .i64 x.need,.int .i64 x.nomap,.int .i64 x.noany,.slice a8 n8 c8,.slice a9 n9 c9] (fun W=>Keeps (w.heap.size+3) W (fun W=>Pts W p1 n1 x.iss)) #[.int .i64 x.ser,.slice p1 n1 n1,.slice none 0 0,.int .i64 0,.int .i64 0,.int .i64 0,.int .u64 0,.int .i64 0,.bool false,.int .i64 0,.int .i64 0,.slice none 0 0,.slice none 0 0,.slice none 0 0,.slice none 0 0,.slice none 0 0,.int .i64 0,.int .i64 0,.int .i64 0,.slice none 0 0,.slice none 0 0]):=by rw [hw4]; exact (T3.out.set 1 _ rfl)
 have HW4:Hid (_=_):=hw4
 clear hw4
 go_upto_region 4 with fail
 rw [← HW4.out]
 clear HW4 o1 f1 l1 m3 T3
 obtain ⟨_,_,l2⟩:=T4.out.out 2
 have l2:w4.cell? ⟨w.heap.size,2,none⟩=some (.slice a2 n2 c2):=l2
 have m4:=T4.out.lt
 go_wp2_with fail
 refine (toName_k a2 n2 c2 x.sub _ ((HK.out.kept T4.out.below).r2) HZ.out.2.1.1).mono ?_
 rintro e w5 ⟨p2,rfl,hp,hb⟩
 have T5:Hid (CEQ w w5 #[.int .i64 x.ser,.slice a1 n1 c1,.slice a2 n2 c2,.int .i64 x.frm,.int .i64 x.til,.int .i64 x.key.1,.int .u64 x.key.2.1,.int .i64 x.key.2.2,.bool x.ca,.int .i64 x.room,.int .i64 x.uses,.slice a3 n3 c3,.slice a4 n4 c4,.slice a5 n5 c5,.slice a6 n6 c6,.slice a7 n7 c7,.int .i64 x.need,.int .i64 x.nomap,.int .i64 x.noany,.slice a8 n8 c8,.slice a9 n9 c9] (fun W=>(Keeps (w.heap.size+3) W (fun W=>Pts W p1 n1 x.iss))∧Keeps (w.heap.size+3) W (fun W=>Pts W p2 n2 x.sub)) #[.int .i64 x.ser,.slice p1 n1 n1,.slice none 0 0,.int .i64 0,.int .i64 0,.int .i64 0,.int .u64 0,.int .i64 0,.bool false,.int .i64 0,.int .i64 0,.slice none 0 0,.slice none 0 0,.slice none 0 0,.slice none 0 0,.slice none 0 0,.int .i64 0,.int .i64 0,.int .i64 0,.slice none 0 0,.slice none 0 0]):=(T4.out.on hb).more (stab_and T4.out.st (stab_keeps _ _)) ⟨(T4.out.on hb).r,hp.mono (by omega)⟩
 clear hb hp T4 l2 m4
 obtain ⟨o2,f2,l2⟩:=T5.out.out 2
 have o2:w5.cell? ⟨w.heap.size+1+1,2,none⟩=some (.slice none 0 0):=o2
 have l2:w5.cell? ⟨w.heap.size,2,none⟩=some (.slice a2 n2 c2):=l2
 have m5:=T5.out.lt
 obtain ⟨w6,hw6⟩:∃ W,W=(w5.setCell ⟨w.heap.size+1+1,2,none⟩ (.slice p2 n2 n2)):=⟨_,rfl⟩
 have T6:Hid (CEQ w w6 #[.int .i64 x.ser,.slice a1 n1 c1,.slice a2 n2 c2,.int .i64 x.frm,.int .i64 x.til,.int .i64 x.key.1,.int .u64 x.key.2.1,.int .i64 x.key.2.2,.bool x.ca,.int .i64 x.room,.int .i64 x.uses,.slice a3 n3 c3,.slice a4 n4 c4,.slice a5 n5 c5,.slice a6 n6 c6,.slice a7 n7 c7,.int .i64 x.need,.int .i64 x.nomap,.int .i64 x.noany,.slice a8 n8 c8,.slice a9 n9 c9] (fun W=>(Keeps (w.heap.size+3) W (fun W=>Pts W p1 n1 x.iss))∧Keeps (w.heap.size+3) W (fun W=>Pts W p2 n2 x.sub)) #[.int .i64 x.ser,.slice p1 n1 n1,.slice p2 n2 n2,.int .i64 0,.int .i64 0,.int .i64 0,.int .u64 0,.int .i64 0,.bool false,.int .i64 0,.int .i64 0,.slice none 0 0,.slice none 0 0,.slice none 0 0,.slice none 0 0,.slice none 0 0,.int .i64 0,.int .i64 0,.int .i64 0,.slice none 0 0,.slice none 0 0]):=by rw [hw6]; exact (T5.out.set 2 _ rfl)
 have HW6:Hid (_=_):=hw6
 clear hw6
 go_upto_region 5 with fail
 rw [← HW6.out]
 clear HW6 o2 f2 l2 m5 T5
 obtain ⟨o3,f3,l3⟩:=T6.out.out 3
 have o3:w6.cell? ⟨w.heap.size+1+1,3,none⟩=some (.int .i64 0):=o3
 have l3:w6.cell? ⟨w.heap.size,3,none⟩=some (.int .i64 x.frm):=l3
 have m6:=T6.out.lt
 obtain ⟨w7,hw7⟩:∃ W,W=(w6.setCell ⟨w.heap.size+1+1,3,none⟩ (.int .i64 x.frm)):=⟨_,rfl⟩
 have T7:Hid (CEQ w w7 #[.int .i64 x.ser,.slice a1 n1 c1,.slice a2 n2 c2,.int .i64 x.frm,.int .i64 x.til,.int .i64 x.key.1,.int .u64 x.key.2.1,.int .i64 x.key.2.2,.bool x.ca,.int .i64 x.room,.int .i64 x.uses,.slice a3 n3 c3,.slice a4 n4 c4,.slice a5 n5 c5,.slice a6 n6 c6,.slice a7 n7 c7,.int .i64 x.need,.int .i64 x.nomap,.int .i64 x.noany,.slice a8 n8 c8,.slice a9 n9 c9] (fun W=>(Keeps (w.heap.size+3) W (fun W=>Pts W p1 n1 x.iss))∧Keeps (w.heap.size+3) W (fun W=>Pts W p2 n2 x.sub)) #[.int .i64 x.ser,.slice p1 n1 n1,.slice p2 n2 n2,.int .i64 x.frm,.int .i64 0,.int .i64 0,.int .u64 0,.int .i64 0,.bool false,.int .i64 0,.int .i64 0,.slice none 0 0,.slice none 0 0,.slice none 0 0,.slice none 0 0,.slice none 0 0,.int .i64 0,.int .i64 0,.int .i64 0,.slice none 0 0,.slice none 0 0]):=by rw [hw7]; exact (T6.out.set 3 _ rfl)
 have HW7:Hid (_=_):=hw7
 clear hw7
 go_upto_region 6 with fail
 rw [← HW7.out]
 clear HW7 o3 f3 l3 m6 T6
 obtain ⟨o4,f4,l4⟩:=T7.out.out 4
 have o4:w7.cell? ⟨w.heap.size+1+1,4,none⟩=some (.int .i64 0):=o4
 have l4:w7.cell? ⟨w.heap.size,4,none⟩=some (.int .i64 x.til):=l4
 have m7:=T7.out.lt
 obtain ⟨w8,hw8⟩:∃ W,W=(w7.setCell ⟨w.heap.size+1+1,4,none⟩ (.int .i64 x.til)):=⟨_,rfl⟩
 have T8:Hid (CEQ w w8 #[.int .i64 x.ser,.slice a1 n1 c1,.slice a2 n2 c2,.int .i64 x.frm,.int .i64 x.til,.int .i64 x.key.1,.int .u64 x.key.2.1,.int .i64 x.key.2.2,.bool x.ca,.int .i64 x.room,.int .i64 x.uses,.slice a3 n3 c3,.slice a4 n4 c4,.slice a5 n5 c5,.slice a6 n6 c6,.slice a7 n7 c7,.int .i64 x.need,.int .i64 x.nomap,.int .i64 x.noany,.slice a8 n8 c8,.slice a9 n9 c9] (fun W=>(Keeps (w.heap.size+3) W (fun W=>Pts W p1 n1 x.iss))∧Keeps (w.heap.size+3) W (fun W=>Pts W p2 n2 x.sub)) #[.int .i64 x.ser,.slice p1 n1 n1,.slice p2 n2 n2,.int .i64 x.frm,.int .i64 x.til,.int .i64 0,.int .u64 0,.int .i64 0,.bool false,.int .i64 0,.int .i64 0,.slice none 0 0,.slice none 0 0,.slice none 0 0,.slice none 0 0,.slice none 0 0,.int .i64 0,.int .i64 0,.int .i64 0,.slice none 0 0,.slice none 0 0]):=by rw [hw8]; exact (T7.out.set 4 _ rfl)
 have HW8:Hid (_=_):=hw8
 clear hw8
 go_upto_region 7 with fail
 rw [← HW8.out]
 clear HW8 o4 f4 l4 m7 T7
 obtain ⟨_,_,l5⟩:=T8.out.out 5
 have l5:w8.cell? ⟨w.heap.size,5,none⟩=some (.int .i64 x.key.1):=l5
 obtain ⟨_,_,l6⟩:=T8.out.out 6
 have l6:w8.cell? ⟨w.heap.size,6,none⟩=some (.int .u64 x.key.2.1):=l6
 obtain ⟨_,_,l7⟩:=T8.out.out 7
 have l7:w8.cell? ⟨w.heap.size,7,none⟩=some (.int .i64 x.key.2.2):=l7
 have m8:=T8.out.lt
 go_wp2_with fail
 refine (toPub_any x.key.1 x.key.2.1 x.key.2.2 _).mono ?_
 rintro e w9 ⟨rfl,hb⟩
 have T9:Hid (CEQ w w9 #[.int .i64 x.ser,.slice a1 n1 c1,.slice a2 n2 c2,.int .i64 x.frm,.int .i64 x.til,.int .i64 x.key.1,.int .u64 x.key.2.1,.int .i64 x.key.2.2,.bool x.ca,.int .i64 x.room,.int .i64 x.uses,.slice a3 n3 c3,.slice a4 n4 c4,.slice a5 n5 c5,.slice a6 n6 c6,.slice a7 n7 c7,.int .i64 x.need,.int .i64 x.nomap,.int .i64 x.noany,.slice a8 n8 c8,.slice a9 n9 c9] (fun W=>(Keeps (w.heap.size+3) W (fun W=>Pts W p1 n1 x.iss))∧Keeps (w.heap.size+3) W (fun W=>Pts W p2 n2 x.sub)) #[.int .i64 x.ser,.slice p1 n1 n1,.slice p2 n2 n2,.int .i64 x.frm,.int .i64 x.til,.int .i64 0,.int .u64 0,.int .i64 0,.bool false,.int .i64 0,.int .i64 0,.slice none 0 0,.slice none 0 0,.slice none 0 0,.slice none 0 0,.slice none 0 0,.int .i64 0,.int .i64 0,.int .i64 0,.slice none 0 0,.slice none 0 0]):=T8.out.on hb
 clear hb T8 l5 l6 l7 m8
 unfold kpv
 obtain ⟨o5,f5,l5⟩:=T9.out.out 5
 have o5:w9.cell? ⟨w.heap.size+1+1,5,none⟩=some (.int .i64 0):=o5
 have l5:w9.cell? ⟨w.heap.size,5,none⟩=some (.int .i64 x.key.1):=l5
 obtain ⟨o6,f6,l6⟩:=T9.out.out 6
 have o6:w9.cell? ⟨w.heap.size+1+1,6,none⟩=some (.int .u64 0):=o6
 have l6:w9.cell? ⟨w.heap.size,6,none⟩=some (.int .u64 x.key.2.1):=l6
 obtain ⟨o7,f7,l7⟩:=T9.out.out 7
 have o7:w9.cell? ⟨w.heap.size+1+1,7,none⟩=some (.int .i64 0):=o7
 have l7:w9.cell? ⟨w.heap.size,7,none⟩=some (.int .i64 x.key.2.2):=l7
 have m9:=T9.out.lt
 obtain ⟨w10,hw10⟩:∃ W,W=(((w9.setCell ⟨w.heap.size+1+1,5,none⟩ (.int .i64 x.key.1)).setCell ⟨w.heap.size+1+1,6,none⟩ (.int .u64 x.key.2.1)).setCell ⟨w.heap.size+1+1,7,none⟩ (.int .i64 x.key.2.2)):=⟨_,rfl⟩
 have T10:Hid (CEQ w w10 #[.int .i64 x.ser,.slice a1 n1 c1,.slice a2 n2 c2,.int .i64 x.frm,.int .i64 x.til,.int .i64 x.key.1,.int .u64 x.key.2.1,.int .i64 x.key.2.2,.bool x.ca,.int .i64 x.room,.int .i64 x.uses,.slice a3 n3 c3,.slice a4 n4 c4,.slice a5 n5 c5,.slice a6 n6 c6,.slice a7 n7 c7,.int .i64 x.need,.int .i64 x.nomap,.int .i64 x.noany,.slice a8 n8 c8,.slice a9 n9 c9] (fun W=>(Keeps (w.heap.size+3) W (fun W=>Pts W p1 n1 x.iss))∧Keeps (w.heap.size+3) W (fun W=>Pts W p2 n2 x.sub)) #[.int .i64 x.ser,.slice p1 n1 n1,.slice p2 n2 n2,.int .i64 x.frm,.int .i64 x.til,.int .i64 x.key.1,.int .u64 x.key.2.1,.int .i64 x.key.2.2,.bool false,.int .i64 0,.int .i64 0,.slice none 0 0,.slice none 0 0,.slice none 0 0,.slice none 0 0,.slice none 0 0,.int .i64 0,.int .i64 0,.int .i64 0,.slice none 0 0,.slice none 0 0]):=by rw [hw10]; exact (((T9.out.set 5 _ rfl).set 6 _ rfl).set 7 _ rfl)
 have HW10:Hid (_=_):=hw10
 clear hw10
 go_upto_region 8 with fail
 rw [← HW10.out]
 clear HW10 o5 f5 l5 o6 f6 l6 o7 f7 l7 m9 T9
 obtain ⟨o8,f8,l8⟩:=T10.out.out 8
 have o8:w10.cell? ⟨w.heap.size+1+1,8,none⟩=some (.bool false):=o8
 have l8:w10.cell? ⟨w.heap.size,8,none⟩=some (.bool x.ca):=l8
 have m10:=T10.out.lt
 obtain ⟨w11,hw11⟩:∃ W,W=(w10.setCell ⟨w.heap.size+1+1,8,none⟩ (.bool x.ca)):=⟨_,rfl⟩
 have T11:Hid (CEQ w w11 #[.int .i64 x.ser,.slice a1 n1 c1,.slice a2 n2 c2,.int .i64 x.frm,.int .i64 x.til,.int .i64 x.key.1,.int .u64 x.key.2.1,.int .i64 x.key.2.2,.bool x.ca,.int .i64 x.room,.int .i64 x.uses,.slice a3 n3 c3,.slice a4 n4 c4,.slice a5 n5 c5,.slice a6 n6 c6,.slice a7 n7 c7,.int .i64 x.need,.int .i64 x.nomap,.int .i64 x.noany,.slice a8 n8 c8,.slice a9 n9 c9] (fun W=>(Keeps (w.heap.size+3) W (fun W=>Pts W p1 n1 x.iss))∧Keeps (w.heap.size+3) W (fun W=>Pts W p2 n2 x.sub)) #[.int .i64 x.ser,.slice p1 n1 n1,.slice p2 n2 n2,.int .i64 x.frm,.int .i64 x.til,.int .i64 x.key.1,.int .u64 x.key.2.1,.int .i64 x.key.2.2,.bool x.ca,.int .i64 0,.int .i64 0,.slice none 0 0,.slice none 0 0,.slice none 0 0,.slice none 0 0,.slice none 0 0,.int .i64 0,.int .i64 0,.int .i64 0,.slice none 0 0,.slice none 0 0]):=by rw [hw11]; exact (T10.out.set 8 _ rfl)
 have HW11:Hid (_=_):=hw11
 clear hw11
 go_upto_region 9 with fail
 rw [← HW11.out]
 clear HW11 o8 f8 l8 m10 T10
 obtain ⟨o9,f9,l9⟩:=T11.out.out 9
 have o9:w11.cell? ⟨w.heap.size+1+1,9,none⟩=some (.int .i64 0):=o9
 have l9:w11.cell? ⟨w.heap.size,9,none⟩=some (.int .i64 x.room):=l9
 have m11:=T11.out.lt
 obtain ⟨w12,hw12⟩:∃ W,W=(w11.setCell ⟨w.heap.size+1+1,9,none⟩ (.int .i64 x.room)):=⟨_,rfl⟩
 have T12:Hid (CEQ w w12 #[.int .i64 x.ser,.slice a1 n1 c1,.slice a2 n2 c2,.int .i64 x.frm,.int .i64 x.til,.int .i64 x.key.1,.int .u64 x.key.2.1,.int .i64 x.key.2.2,.bool x.ca,.int .i64 x.room,.int .i64 x.uses,.slice a3 n3 c3,.slice a4 n4 c4,.slice a5 n5 c5,.slice a6 n6 c6,.slice a7 n7 c7,.int .i64 x.need,.int .i64 x.nomap,.int .i64 x.noany,.slice a8 n8 c8,.slice a9 n9 c9] (fun W=>(Keeps (w.heap.size+3) W (fun W=>Pts W p1 n1 x.iss))∧Keeps (w.heap.size+3) W (fun W=>Pts W p2 n2 x.sub)) #[.int .i64 x.ser,.slice p1 n1 n1,.slice p2 n2 n2,.int .i64 x.frm,.int .i64 x.til,.int .i64 x.key.1,.int .u64 x.key.2.1,.int .i64 x.key.2.2,.bool x.ca,.int .i64 x.room,.int .i64 0,.slice none 0 0,.slice none 0 0,.slice none 0 0,.slice none 0 0,.slice none 0 0,.int .i64 0,.int .i64 0,.int .i64 0,.slice none 0 0,.slice none 0 0]):=by rw [hw12]; exact (T11.out.set 9 _ rfl)
 have HW12:Hid (_=_):=hw12
 clear hw12
 go_upto_region 10 with fail
 rw [← HW12.out]
 clear HW12 o9 f9 l9 m11 T11
 obtain ⟨o10,f10,l10⟩:=T12.out.out 10
 have o10:w12.cell? ⟨w.heap.size+1+1,10,none⟩=some (.int .i64 0):=o10
 have l10:w12.cell? ⟨w.heap.size,10,none⟩=some (.int .i64 x.uses):=l10
 have m12:=T12.out.lt
 obtain ⟨w13,hw13⟩:∃ W,W=(w12.setCell ⟨w.heap.size+1+1,10,none⟩ (.int .i64 x.uses)):=⟨_,rfl⟩
 have T13:Hid (CEQ w w13 #[.int .i64 x.ser,.slice a1 n1 c1,.slice a2 n2 c2,.int .i64 x.frm,.int .i64 x.til,.int .i64 x.key.1,.int .u64 x.key.2.1,.int .i64 x.key.2.2,.bool x.ca,.int .i64 x.room,.int .i64 x.uses,.slice a3 n3 c3,.slice a4 n4 c4,.slice a5 n5 c5,.slice a6 n6 c6,.slice a7 n7 c7,.int .i64 x.need,.int .i64 x.nomap,.int .i64 x.noany,.slice a8 n8 c8,.slice a9 n9 c9] (fun W=>(Keeps (w.heap.size+3) W (fun W=>Pts W p1 n1 x.iss))∧Keeps (w.heap.size+3) W (fun W=>Pts W p2 n2 x.sub)) #[.int .i64 x.ser,.slice p1 n1 n1,.slice p2 n2 n2,.int .i64 x.frm,.int .i64 x.til,.int .i64 x.key.1,.int .u64 x.key.2.1,.int .i64 x.key.2.2,.bool x.ca,.int .i64 x.room,.int .i64 x.uses,.slice none 0 0,.slice none 0 0,.slice none 0 0,.slice none 0 0,.slice none 0 0,.int .i64 0,.int .i64 0,.int .i64 0,.slice none 0 0,.slice none 0 0]):=by rw [hw13]; exact (T12.out.set 10 _ rfl)
 have HW13:Hid (_=_):=hw13
 clear hw13
 go_upto_region 11 with fail
 rw [← HW13.out]
 clear HW13 o10 f10 l10 m12 T12
 obtain ⟨_,_,l11⟩:=T13.out.out 11
 have l11:w13.cell? ⟨w.heap.size,11,none⟩=some (.slice a3 n3 c3):=l11
 have m13:=T13.out.lt
 go_wp2_with fail
 refine (toGenNameS_k a3 n3 c3 x.nms _ ((HK.out.kept T13.out.below).r3) HZ.out.2.2.1.1 HZ.out.2.2.1.2).mono ?_
 rintro e w14 ⟨p3,rfl,hp,hb⟩
 have T14:Hid (CEQ w w14 #[.int .i64 x.ser,.slice a1 n1 c1,.slice a2 n2 c2,.int .i64 x.frm,.int .i64 x.til,.int .i64 x.key.1,.int .u64 x.key.2.1,.int .i64 x.key.2.2,.bool x.ca,.int .i64 x.room,.int .i64 x.uses,.slice a3 n3 c3,.slice a4 n4 c4,.slice a5 n5 c5,.slice a6 n6 c6,.slice a7 n7 c7,.int .i64 x.need,.int .i64 x.nomap,.int .i64 x.noany,.slice a8 n8 c8,.slice a9 n9 c9] (fun W=>((Keeps (w.heap.size+3) W (fun W=>Pts W p1 n1 x.iss))∧Keeps (w.heap.size+3) W (fun W=>Pts W p2 n2 x.sub))∧Keeps (w.heap.size+3) W (fun W=>Ges W p3 n3 x.nms)) #[.int .i64 x.ser,.slice p1 n1 n1,.slice p2 n2 n2,.int .i64 x.frm,.int .i64 x.til,.int .i64 x.key.1,.int .u64 x.key.2.1,.int .i64 x.key.2.2,.bool x.ca,.int .i64 x.room,.int .i64 x.uses,.slice none 0 0,.slice none 0 0,.slice none 0 0,.slice none 0 0,.slice none 0 0,.int .i64 0,.int .i64 0,.int .i64 0,.slice none 0 0,.slice none 0 0]):=(T13.out.on hb).more (stab_and T13.out.st (stab_keeps _ _)) ⟨(T13.out.on hb).r,hp.mono (by omega)⟩
 clear hb hp T13 l11 m13
 obtain ⟨o11,f11,l11⟩:=T14.out.out 11
 have o11:w14.cell? ⟨w.heap.size+1+1,11,none⟩=some (.slice none 0 0):=o11
 have l11:w14.cell? ⟨w.heap.size,11,none⟩=some (.slice a3 n3 c3):=l11
 have m14:=T14.out.lt
 obtain ⟨w15,hw15⟩:∃ W,W=(w14.setCell ⟨w.heap.size+1+1,11,none⟩ (.slice p3 n3 n3)):=⟨_,rfl⟩
 have T15:Hid (CEQ w w15 #[.int .i64 x.ser,.slice a1 n1 c1,.slice a2 n2 c2,.int .i64 x.frm,.int .i64 x.til,.int .i64 x.key.1,.int .u64 x.key.2.1,.int .i64 x.key.2.2,.bool x.ca,.int .i64 x.room,.int .i64 x.uses,.slice a3 n3 c3,.slice a4 n4 c4,.slice a5 n5 c5,.slice a6 n6 c6,.slice a7 n7 c7,.int .i64 x.need,.int .i64 x.nomap,.int .i64 x.noany,.slice a8 n8 c8,.slice a9 n9 c9] (fun W=>((Keeps (w.heap.size+3) W (fun W=>Pts W p1 n1 x.iss))∧Keeps (w.heap.size+3) W (fun W=>Pts W p2 n2 x.sub))∧Keeps (w.heap.size+3) W (fun W=>Ges W p3 n3 x.nms)) #[.int .i64 x.ser,.slice p1 n1 n1,.slice p2 n2 n2,.int .i64 x.frm,.int .i64 x.til,.int .i64 x.key.1,.int .u64 x.key.2.1,.int .i64 x.key.2.2,.bool x.ca,.int .i64 x.room,.int .i64 x.uses,.slice p3 n3 n3,.slice none 0 0,.slice none 0 0,.slice none 0 0,.slice none 0 0,.int .i64 0,.int .i64 0,.int .i64 0,.slice none 0 0,.slice none 0 0]):=by rw [hw15]; exact (T14.out.set 11 _ rfl)
 have HW15:Hid (_=_):=hw15
 clear hw15
 go_upto_region 12 with fail
 rw [← HW15.out]
 clear HW15 o11 f11 l11 m14 T14
 obtain ⟨_,_,l12⟩:=T15.out.out 12
 have l12:w15.cell? ⟨w.heap.size,12,none⟩=some (.slice a4 n4 c4):=l12
 have m15:=T15.out.lt
 go_wp2_with fail
 refine (toGenNameS_k a4 n4 c4 x.per _ ((HK.out.kept T15.out.below).r4) HZ.out.2.2.2.1.1 HZ.out.2.2.2.1.2).mono ?_
 rintro e w16 ⟨p4,rfl,hp,hb⟩
 have T16:Hid (CEQ w w16 #[.int .i64 x.ser,.slice a1 n1 c1,.slice a2 n2 c2,.int .i64 x.frm,.int .i64 x.til,.int .i64 x.key.1,.int .u64 x.key.2.1,.int .i64 x.key.2.2,.bool x.ca,.int .i64 x.room,.int .i64 x.uses,.slice a3 n3 c3,.slice a4 n4 c4,.slice a5 n5 c5,.slice a6 n6 c6,.slice a7 n7 c7,.int .i64 x.need,.int .i64 x.nomap,.int .i64 x.noany,.slice a8 n8 c8,.slice a9 n9 c9] (fun W=>(((Keeps (w.heap.size+3) W (fun W=>Pts W p1 n1 x.iss))∧Keeps (w.heap.size+3) W (fun W=>Pts W p2 n2 x.sub))∧Keeps (w.heap.size+3) W (fun W=>Ges W p3 n3 x.nms))∧Keeps (w.heap.size+3) W (fun W=>Ges W p4 n4 x.per)) #[.int .i64 x.ser,.slice p1 n1 n1,.slice p2 n2 n2,.int .i64 x.frm,.int .i64 x.til,.int .i64 x.key.1,.int .u64 x.key.2.1,.int .i64 x.key.2.2,.bool x.ca,.int .i64 x.room,.int .i64 x.uses,.slice p3 n3 n3,.slice none 0 0,.slice none 0 0,.slice none 0 0,.slice none 0 0,.int .i64 0,.int .i64 0,.int .i64 0,.slice none 0 0,.slice none 0 0]):=(T15.out.on hb).more (stab_and T15.out.st (stab_keeps _ _)) ⟨(T15.out.on hb).r,hp.mono (by omega)⟩
 clear hb hp T15 l12 m15
 obtain ⟨o12,f12,l12⟩:=T16.out.out 12
 have o12:w16.cell? ⟨w.heap.size+1+1,12,none⟩=some (.slice none 0 0):=o12
 have l12:w16.cell? ⟨w.heap.size,12,none⟩=some (.slice a4 n4 c4):=l12
 have m16:=T16.out.lt
 obtain ⟨w17,hw17⟩:∃ W,W=(w16.setCell ⟨w.heap.size+1+1,12,none⟩ (.slice p4 n4 n4)):=⟨_,rfl⟩
 have T17:Hid (CEQ w w17 #[.int .i64 x.ser,.slice a1 n1 c1,.slice a2 n2 c2,.int .i64 x.frm,.int .i64 x.til,.int .i64 x.key.1,.int .u64 x.key.2.1,.int .i64 x.key.2.2,.bool x.ca,.int .i64 x.room,.int .i64 x.uses,.slice a3 n3 c3,.slice a4 n4 c4,.slice a5 n5 c5,.slice a6 n6 c6,.slice a7 n7 c7,.int .i64 x.need,.int .i64 x.nomap,.int .i64 x.noany,.slice a8 n8 c8,.slice a9 n9 c9] (fun W=>(((Keeps (w.heap.size+3) W (fun W=>Pts W p1 n1 x.iss))∧Keeps (w.heap.size+3) W (fun W=>Pts W p2 n2 x.sub))∧Keeps (w.heap.size+3) W (fun W=>Ges W p3 n3 x.nms))∧Keeps (w.heap.size+3) W (fun W=>Ges W p4 n4 x.per)) #[.int .i64 x.ser,.slice p1 n1 n1,.slice p2 n2 n2,.int .i64 x.frm,.int .i64 x.til,.int .i64 x.key.1,.int .u64 x.key.2.1,.int .i64 x.key.2.2,.bool x.ca,.int .i64 x.room,.int .i64 x.uses,.slice p3 n3 n3,.slice p4 n4 n4,.slice none 0 0,.slice none 0 0,.slice none 0 0,.int .i64 0,.int .i64 0,.int .i64 0,.slice none 0 0,.slice none 0 0]):=by rw [hw17]; exact (T16.out.set 12 _ rfl)
 have HW17:Hid (_=_):=hw17
 clear hw17
 go_upto_region 13 with fail
 rw [← HW17.out]
 clear HW17 o12 f12 l12 m16 T16
 obtain ⟨_,_,l13⟩:=T17.out.out 13
 have l13:w17.cell? ⟨w.heap.size,13,none⟩=some (.slice a5 n5 c5):=l13
 have m17:=T17.out.lt
 go_wp2_with fail
 refine (toGenNameS_k a5 n5 c5 x.den _ ((HK.out.kept T17.out.below).r5) HZ.out.2.2.2.2.1.1 HZ.out.2.2.2.2.1.2).mono ?_
 rintro e w18 ⟨p5,rfl,hp,hb⟩
 have T18:Hid (CEQ w w18 #[.int .i64 x.ser,.slice a1 n1 c1,.slice a2 n2 c2,.int .i64 x.frm,.int .i64 x.til,.int .i64 x.key.1,.int .u64 x.key.2.1,.int .i64 x.key.2.2,.bool x.ca,.int .i64 x.room,.int .i64 x.uses,.slice a3 n3 c3,.slice a4 n4 c4,.slice a5 n5 c5,.slice a6 n6 c6,.slice a7 n7 c7,.int .i64 x.need,.int .i64 x.nomap,.int .i64 x.noany,.slice a8 n8 c8,.slice a9 n9 c9] (fun W=>((((Keeps (w.heap.size+3) W (fun W=>Pts W p1 n1 x.iss))∧Keeps (w.heap.size+3) W (fun W=>Pts W p2 n2 x.sub))∧Keeps (w.heap.size+3) W (fun W=>Ges W p3 n3 x.nms))∧Keeps (w.heap.size+3) W (fun W=>Ges W p4 n4 x.per))∧Keeps (w.heap.size+3) W (fun W=>Ges W p5 n5 x.den)) #[.int .i64 x.ser,.slice p1 n1 n1,.slice p2 n2 n2,.int .i64 x.frm,.int .i64 x.til,.int .i64 x.key.1,.int .u64 x.key.2.1,.int .i64 x.key.2.2,.bool x.ca,.int .i64 x.room,.int .i64 x.uses,.slice p3 n3 n3,.slice p4 n4 n4,.slice none 0 0,.slice none 0 0,.slice none 0 0,.int .i64 0,.int .i64 0,.int .i64 0,.slice none 0 0,.slice none 0 0]):=(T17.out.on hb).more (stab_and T17.out.st (stab_keeps _ _)) ⟨(T17.out.on hb).r,hp.mono (by omega)⟩
 clear hb hp T17 l13 m17
 obtain ⟨o13,f13,l13⟩:=T18.out.out 13
 have o13:w18.cell? ⟨w.heap.size+1+1,13,none⟩=some (.slice none 0 0):=o13
 have l13:w18.cell? ⟨w.heap.size,13,none⟩=some (.slice a5 n5 c5):=l13
 have m18:=T18.out.lt
 obtain ⟨w19,hw19⟩:∃ W,W=(w18.setCell ⟨w.heap.size+1+1,13,none⟩ (.slice p5 n5 n5)):=⟨_,rfl⟩
 have T19:Hid (CEQ w w19 #[.int .i64 x.ser,.slice a1 n1 c1,.slice a2 n2 c2,.int .i64 x.frm,.int .i64 x.til,.int .i64 x.key.1,.int .u64 x.key.2.1,.int .i64 x.key.2.2,.bool x.ca,.int .i64 x.room,.int .i64 x.uses,.slice a3 n3 c3,.slice a4 n4 c4,.slice a5 n5 c5,.slice a6 n6 c6,.slice a7 n7 c7,.int .i64 x.need,.int .i64 x.nomap,.int .i64 x.noany,.slice a8 n8 c8,.slice a9 n9 c9] (fun W=>((((Keeps (w.heap.size+3) W (fun W=>Pts W p1 n1 x.iss))∧Keeps (w.heap.size+3) W (fun W=>Pts W p2 n2 x.sub))∧Keeps (w.heap.size+3) W (fun W=>Ges W p3 n3 x.nms))∧Keeps (w.heap.size+3) W (fun W=>Ges W p4 n4 x.per))∧Keeps (w.heap.size+3) W (fun W=>Ges W p5 n5 x.den)) #[.int .i64 x.ser,.slice p1 n1 n1,.slice p2 n2 n2,.int .i64 x.frm,.int .i64 x.til,.int .i64 x.key.1,.int .u64 x.key.2.1,.int .i64 x.key.2.2,.bool x.ca,.int .i64 x.room,.int .i64 x.uses,.slice p3 n3 n3,.slice p4 n4 n4,.slice p5 n5 n5,.slice none 0 0,.slice none 0 0,.int .i64 0,.int .i64 0,.int .i64 0,.slice none 0 0,.slice none 0 0]):=by rw [hw19]; exact (T18.out.set 13 _ rfl)
 have HW19:Hid (_=_):=hw19
 clear hw19
 go_upto_region 14 with fail
 rw [← HW19.out]
 clear HW19 o13 f13 l13 m18 T18
 obtain ⟨_,_,l14⟩:=T19.out.out 14
 have l14:w19.cell? ⟨w.heap.size,14,none⟩=some (.slice a6 n6 c6):=l14
 have m19:=T19.out.lt
 go_wp2_with fail
 refine (toInt64S_k a6 n6 c6 x.pol _ ((HK.out.kept T19.out.below).r6) HZ.out.2.2.2.2.2.1).mono ?_
 rintro e w20 ⟨p6,rfl,hp,hb⟩
 have T20:Hid (CEQ w w20 #[.int .i64 x.ser,.slice a1 n1 c1,.slice a2 n2 c2,.int .i64 x.frm,.int .i64 x.til,.int .i64 x.key.1,.int .u64 x.key.2.1,.int .i64 x.key.2.2,.bool x.ca,.int .i64 x.room,.int .i64 x.uses,.slice a3 n3 c3,.slice a4 n4 c4,.slice a5 n5 c5,.slice a6 n6 c6,.slice a7 n7 c7,.int .i64 x.need,.int .i64 x.nomap,.int .i64 x.noany,.slice a8 n8 c8,.slice a9 n9 c9] (fun W=>(((((Keeps (w.heap.size+3) W (fun W=>Pts W p1 n1 x.iss))∧Keeps (w.heap.size+3) W (fun W=>Pts W p2 n2 x.sub))∧Keeps (w.heap.size+3) W (fun W=>Ges W p3 n3 x.nms))∧Keeps (w.heap.size+3) W (fun W=>Ges W p4 n4 x.per))∧Keeps (w.heap.size+3) W (fun W=>Ges W p5 n5 x.den))∧Keeps (w.heap.size+3) W (fun W=>Row64 W p6 n6 x.pol)) #[.int .i64 x.ser,.slice p1 n1 n1,.slice p2 n2 n2,.int .i64 x.frm,.int .i64 x.til,.int .i64 x.key.1,.int .u64 x.key.2.1,.int .i64 x.key.2.2,.bool x.ca,.int .i64 x.room,.int .i64 x.uses,.slice p3 n3 n3,.slice p4 n4 n4,.slice p5 n5 n5,.slice none 0 0,.slice none 0 0,.int .i64 0,.int .i64 0,.int .i64 0,.slice none 0 0,.slice none 0 0]):=(T19.out.on hb).more (stab_and T19.out.st (stab_keeps _ _)) ⟨(T19.out.on hb).r,hp.mono (by omega)⟩
 clear hb hp T19 l14 m19
 obtain ⟨o14,f14,l14⟩:=T20.out.out 14
 have o14:w20.cell? ⟨w.heap.size+1+1,14,none⟩=some (.slice none 0 0):=o14
 have l14:w20.cell? ⟨w.heap.size,14,none⟩=some (.slice a6 n6 c6):=l14
 have m20:=T20.out.lt
 obtain ⟨w21,hw21⟩:∃ W,W=(w20.setCell ⟨w.heap.size+1+1,14,none⟩ (.slice p6 n6 n6)):=⟨_,rfl⟩
 have T21:Hid (CEQ w w21 #[.int .i64 x.ser,.slice a1 n1 c1,.slice a2 n2 c2,.int .i64 x.frm,.int .i64 x.til,.int .i64 x.key.1,.int .u64 x.key.2.1,.int .i64 x.key.2.2,.bool x.ca,.int .i64 x.room,.int .i64 x.uses,.slice a3 n3 c3,.slice a4 n4 c4,.slice a5 n5 c5,.slice a6 n6 c6,.slice a7 n7 c7,.int .i64 x.need,.int .i64 x.nomap,.int .i64 x.noany,.slice a8 n8 c8,.slice a9 n9 c9] (fun W=>(((((Keeps (w.heap.size+3) W (fun W=>Pts W p1 n1 x.iss))∧Keeps (w.heap.size+3) W (fun W=>Pts W p2 n2 x.sub))∧Keeps (w.heap.size+3) W (fun W=>Ges W p3 n3 x.nms))∧Keeps (w.heap.size+3) W (fun W=>Ges W p4 n4 x.per))∧Keeps (w.heap.size+3) W (fun W=>Ges W p5 n5 x.den))∧Keeps (w.heap.size+3) W (fun W=>Row64 W p6 n6 x.pol)) #[.int .i64 x.ser,.slice p1 n1 n1,.slice p2 n2 n2,.int .i64 x.frm,.int .i64 x.til,.int .i64 x.key.1,.int .u64 x.key.2.1,.int .i64 x.key.2.2,.bool x.ca,.int .i64 x.room,.int .i64 x.uses,.slice p3 n3 n3,.slice p4 n4 n4,.slice p5 n5 n5,.slice p6 n6 n6,.slice none 0 0,.int .i64 0,.int .i64 0,.int .i64 0,.slice none 0 0,.slice none 0 0]):=by rw [hw21]; exact (T20.out.set 14 _ rfl)
 have HW21:Hid (_=_):=hw21
 clear hw21
 go_upto_region 15 with fail
 rw [← HW21.out]
 clear HW21 o14 f14 l14 m20 T20
 obtain ⟨_,_,l15⟩:=T21.out.out 15
 have l15:w21.cell? ⟨w.heap.size,15,none⟩=some (.slice a7 n7 c7):=l15
 have m21:=T21.out.lt
 go_wp2_with fail
 refine (toPolMapS_k a7 n7 c7 x.maps _ ((HK.out.kept T21.out.below).r7) HZ.out.2.2.2.2.2.2.1).mono ?_
 rintro e w22 ⟨p7,rfl,hp,hb⟩
 have T22:Hid (CEQ w w22 #[.int .i64 x.ser,.slice a1 n1 c1,.slice a2 n2 c2,.int .i64 x.frm,.int .i64 x.til,.int .i64 x.key.1,.int .u64 x.key.2.1,.int .i64 x.key.2.2,.bool x.ca,.int .i64 x.room,.int .i64 x.uses,.slice a3 n3 c3,.slice a4 n4 c4,.slice a5 n5 c5,.slice a6 n6 c6,.slice a7 n7 c7,.int .i64 x.need,.int .i64 x.nomap,.int .i64 x.noany,.slice a8 n8 c8,.slice a9 n9 c9] (fun W=>((((((Keeps (w.heap.size+3) W (fun W=>Pts W p1 n1 x.iss))∧Keeps (w.heap.size+3) W (fun W=>Pts W p2 n2 x.sub))∧Keeps (w.heap.size+3) W (fun W=>Ges W p3 n3 x.nms))∧Keeps (w.heap.size+3) W (fun W=>Ges W p4 n4 x.per))∧Keeps (w.heap.size+3) W (fun W=>Ges W p5 n5 x.den))∧Keeps (w.heap.size+3) W (fun W=>Row64 W p6 n6 x.pol))∧Keeps (w.heap.size+3) W (fun W=>Pms W p7 n7 x.maps)) #[.int .i64 x.ser,.slice p1 n1 n1,.slice p2 n2 n2,.int .i64 x.frm,.int .i64 x.til,.int .i64 x.key.1,.int .u64 x.key.2.1,.int .i64 x.key.2.2,.bool x.ca,.int .i64 x.room,.int .i64 x.uses,.slice p3 n3 n3,.slice p4 n4 n4,.slice p5 n5 n5,.slice p6 n6 n6,.slice none 0 0,.int .i64 0,.int .i64 0,.int .i64 0,.slice none 0 0,.slice none 0 0]):=(T21.out.on hb).more (stab_and T21.out.st (stab_keeps _ _)) ⟨(T21.out.on hb).r,hp.mono (by omega)⟩
 clear hb hp T21 l15 m21
 obtain ⟨o15,f15,l15⟩:=T22.out.out 15
 have o15:w22.cell? ⟨w.heap.size+1+1,15,none⟩=some (.slice none 0 0):=o15
 have l15:w22.cell? ⟨w.heap.size,15,none⟩=some (.slice a7 n7 c7):=l15
 have m22:=T22.out.lt
 obtain ⟨w23,hw23⟩:∃ W,W=(w22.setCell ⟨w.heap.size+1+1,15,none⟩ (.slice p7 n7 n7)):=⟨_,rfl⟩
 have T23:Hid (CEQ w w23 #[.int .i64 x.ser,.slice a1 n1 c1,.slice a2 n2 c2,.int .i64 x.frm,.int .i64 x.til,.int .i64 x.key.1,.int .u64 x.key.2.1,.int .i64 x.key.2.2,.bool x.ca,.int .i64 x.room,.int .i64 x.uses,.slice a3 n3 c3,.slice a4 n4 c4,.slice a5 n5 c5,.slice a6 n6 c6,.slice a7 n7 c7,.int .i64 x.need,.int .i64 x.nomap,.int .i64 x.noany,.slice a8 n8 c8,.slice a9 n9 c9] (fun W=>((((((Keeps (w.heap.size+3) W (fun W=>Pts W p1 n1 x.iss))∧Keeps (w.heap.size+3) W (fun W=>Pts W p2 n2 x.sub))∧Keeps (w.heap.size+3) W (fun W=>Ges W p3 n3 x.nms))∧Keeps (w.heap.size+3) W (fun W=>Ges W p4 n4 x.per))∧Keeps (w.heap.size+3) W (fun W=>Ges W p5 n5 x.den))∧Keeps (w.heap.size+3) W (fun W=>Row64 W p6 n6 x.pol))∧Keeps (w.heap.size+3) W (fun W=>Pms W p7 n7 x.maps)) #[.int .i64 x.ser,.slice p1 n1 n1,.slice p2 n2 n2,.int .i64 x.frm,.int .i64 x.til,.int .i64 x.key.1,.int .u64 x.key.2.1,.int .i64 x.key.2.2,.bool x.ca,.int .i64 x.room,.int .i64 x.uses,.slice p3 n3 n3,.slice p4 n4 n4,.slice p5 n5 n5,.slice p6 n6 n6,.slice p7 n7 n7,.int .i64 0,.int .i64 0,.int .i64 0,.slice none 0 0,.slice none 0 0]):=by rw [hw23]; exact (T22.out.set 15 _ rfl)
 have HW23:Hid (_=_):=hw23
 clear hw23
 go_upto_region 16 with fail
 rw [← HW23.out]
 clear HW23 o15 f15 l15 m22 T22
 obtain ⟨o16,f16,l16⟩:=T23.out.out 16
 have o16:w23.cell? ⟨w.heap.size+1+1,16,none⟩=some (.int .i64 0):=o16
 have l16:w23.cell? ⟨w.heap.size,16,none⟩=some (.int .i64 x.need):=l16
 have m23:=T23.out.lt
 obtain ⟨w24,hw24⟩:∃ W,W=(w23.setCell ⟨w.heap.size+1+1,16,none⟩ (.int .i64 x.need)):=⟨_,rfl⟩
 have T24:Hid (CEQ w w24 #[.int .i64 x.ser,.slice a1 n1 c1,.slice a2 n2 c2,.int .i64 x.frm,.int .i64 x.til,.int .i64 x.key.1,.int .u64 x.key.2.1,.int .i64 x.key.2.2,.bool x.ca,.int .i64 x.room,.int .i64 x.uses,.slice a3 n3 c3,.slice a4 n4 c4,.slice a5 n5 c5,.slice a6 n6 c6,.slice a7 n7 c7,.int .i64 x.need,.int .i64 x.nomap,.int .i64 x.noany,.slice a8 n8 c8,.slice a9 n9 c9] (fun W=>((((((Keeps (w.heap.size+3) W (fun W=>Pts W p1 n1 x.iss))∧Keeps (w.heap.size+3) W (fun W=>Pts W p2 n2 x.sub))∧Keeps (w.heap.size+3) W (fun W=>Ges W p3 n3 x.nms))∧Keeps (w.heap.size+3) W (fun W=>Ges W p4 n4 x.per))∧Keeps (w.heap.size+3) W (fun W=>Ges W p5 n5 x.den))∧Keeps (w.heap.size+3) W (fun W=>Row64 W p6 n6 x.pol))∧Keeps (w.heap.size+3) W (fun W=>Pms W p7 n7 x.maps)) #[.int .i64 x.ser,.slice p1 n1 n1,.slice p2 n2 n2,.int .i64 x.frm,.int .i64 x.til,.int .i64 x.key.1,.int .u64 x.key.2.1,.int .i64 x.key.2.2,.bool x.ca,.int .i64 x.room,.int .i64 x.uses,.slice p3 n3 n3,.slice p4 n4 n4,.slice p5 n5 n5,.slice p6 n6 n6,.slice p7 n7 n7,.int .i64 x.need,.int .i64 0,.int .i64 0,.slice none 0 0,.slice none 0 0]):=by rw [hw24]; exact (T23.out.set 16 _ rfl)
 have HW24:Hid (_=_):=hw24
 clear hw24
 go_upto_region 17 with fail
 rw [← HW24.out]
 clear HW24 o16 f16 l16 m23 T23
 obtain ⟨o17,f17,l17⟩:=T24.out.out 17
 have o17:w24.cell? ⟨w.heap.size+1+1,17,none⟩=some (.int .i64 0):=o17
 have l17:w24.cell? ⟨w.heap.size,17,none⟩=some (.int .i64 x.nomap):=l17
 have m24:=T24.out.lt
 obtain ⟨w25,hw25⟩:∃ W,W=(w24.setCell ⟨w.heap.size+1+1,17,none⟩ (.int .i64 x.nomap)):=⟨_,rfl⟩
 have T25:Hid (CEQ w w25 #[.int .i64 x.ser,.slice a1 n1 c1,.slice a2 n2 c2,.int .i64 x.frm,.int .i64 x.til,.int .i64 x.key.1,.int .u64 x.key.2.1,.int .i64 x.key.2.2,.bool x.ca,.int .i64 x.room,.int .i64 x.uses,.slice a3 n3 c3,.slice a4 n4 c4,.slice a5 n5 c5,.slice a6 n6 c6,.slice a7 n7 c7,.int .i64 x.need,.int .i64 x.nomap,.int .i64 x.noany,.slice a8 n8 c8,.slice a9 n9 c9] (fun W=>((((((Keeps (w.heap.size+3) W (fun W=>Pts W p1 n1 x.iss))∧Keeps (w.heap.size+3) W (fun W=>Pts W p2 n2 x.sub))∧Keeps (w.heap.size+3) W (fun W=>Ges W p3 n3 x.nms))∧Keeps (w.heap.size+3) W (fun W=>Ges W p4 n4 x.per))∧Keeps (w.heap.size+3) W (fun W=>Ges W p5 n5 x.den))∧Keeps (w.heap.size+3) W (fun W=>Row64 W p6 n6 x.pol))∧Keeps (w.heap.size+3) W (fun W=>Pms W p7 n7 x.maps)) #[.int .i64 x.ser,.slice p1 n1 n1,.slice p2 n2 n2,.int .i64 x.frm,.int .i64 x.til,.int .i64 x.key.1,.int .u64 x.key.2.1,.int .i64 x.key.2.2,.bool x.ca,.int .i64 x.room,.int .i64 x.uses,.slice p3 n3 n3,.slice p4 n4 n4,.slice p5 n5 n5,.slice p6 n6 n6,.slice p7 n7 n7,.int .i64 x.need,.int .i64 x.nomap,.int .i64 0,.slice none 0 0,.slice none 0 0]):=by rw [hw25]; exact (T24.out.set 17 _ rfl)
 have HW25:Hid (_=_):=hw25
 clear hw25
 go_upto_region 18 with fail
 rw [← HW25.out]
 clear HW25 o17 f17 l17 m24 T24
 obtain ⟨o18,f18,l18⟩:=T25.out.out 18
 have o18:w25.cell? ⟨w.heap.size+1+1,18,none⟩=some (.int .i64 0):=o18
 have l18:w25.cell? ⟨w.heap.size,18,none⟩=some (.int .i64 x.noany):=l18
 have m25:=T25.out.lt
 obtain ⟨w26,hw26⟩:∃ W,W=(w25.setCell ⟨w.heap.size+1+1,18,none⟩ (.int .i64 x.noany)):=⟨_,rfl⟩
 have T26:Hid (CEQ w w26 #[.int .i64 x.ser,.slice a1 n1 c1,.slice a2 n2 c2,.int .i64 x.frm,.int .i64 x.til,.int .i64 x.key.1,.int .u64 x.key.2.1,.int .i64 x.key.2.2,.bool x.ca,.int .i64 x.room,.int .i64 x.uses,.slice a3 n3 c3,.slice a4 n4 c4,.slice a5 n5 c5,.slice a6 n6 c6,.slice a7 n7 c7,.int .i64 x.need,.int .i64 x.nomap,.int .i64 x.noany,.slice a8 n8 c8,.slice a9 n9 c9] (fun W=>((((((Keeps (w.heap.size+3) W (fun W=>Pts W p1 n1 x.iss))∧Keeps (w.heap.size+3) W (fun W=>Pts W p2 n2 x.sub))∧Keeps (w.heap.size+3) W (fun W=>Ges W p3 n3 x.nms))∧Keeps (w.heap.size+3) W (fun W=>Ges W p4 n4 x.per))∧Keeps (w.heap.size+3) W (fun W=>Ges W p5 n5 x.den))∧Keeps (w.heap.size+3) W (fun W=>Row64 W p6 n6 x.pol))∧Keeps (w.heap.size+3) W (fun W=>Pms W p7 n7 x.maps)) #[.int .i64 x.ser,.slice p1 n1 n1,.slice p2 n2 n2,.int .i64 x.frm,.int .i64 x.til,.int .i64 x.key.1,.int .u64 x.key.2.1,.int .i64 x.key.2.2,.bool x.ca,.int .i64 x.room,.int .i64 x.uses,.slice p3 n3 n3,.slice p4 n4 n4,.slice p5 n5 n5,.slice p6 n6 n6,.slice p7 n7 n7,.int .i64 x.need,.int .i64 x.nomap,.int .i64 x.noany,.slice none 0 0,.slice none 0 0]):=by rw [hw26]; exact (T25.out.set 18 _ rfl)
 have HW26:Hid (_=_):=hw26
 clear hw26
 go_upto_region 19 with fail
 rw [← HW26.out]
 clear HW26 o18 f18 l18 m25 T25
 obtain ⟨_,_,l19⟩:=T26.out.out 19
 have l19:w26.cell? ⟨w.heap.size,19,none⟩=some (.slice a8 n8 c8):=l19
 have m26:=T26.out.lt
 go_wp2_with fail
 refine (toExtS_k a8 n8 c8 x.ext _ ((HK.out.kept T26.out.below).r8) HZ.out.2.2.2.2.2.2.2.1.1 HZ.out.2.2.2.2.2.2.2.1.2).mono ?_
 rintro e w27 ⟨p8,rfl,hp,hb⟩
 have T27:Hid (CEQ w w27 #[.int .i64 x.ser,.slice a1 n1 c1,.slice a2 n2 c2,.int .i64 x.frm,.int .i64 x.til,.int .i64 x.key.1,.int .u64 x.key.2.1,.int .i64 x.key.2.2,.bool x.ca,.int .i64 x.room,.int .i64 x.uses,.slice a3 n3 c3,.slice a4 n4 c4,.slice a5 n5 c5,.slice a6 n6 c6,.slice a7 n7 c7,.int .i64 x.need,.int .i64 x.nomap,.int .i64 x.noany,.slice a8 n8 c8,.slice a9 n9 c9] (fun W=>(((((((Keeps (w.heap.size+3) W (fun W=>Pts W p1 n1 x.iss))∧Keeps (w.heap.size+3) W (fun W=>Pts W p2 n2 x.sub))∧Keeps (w.heap.size+3) W (fun W=>Ges W p3 n3 x.nms))∧Keeps (w.heap.size+3) W (fun W=>Ges W p4 n4 x.per))∧Keeps (w.heap.size+3) W (fun W=>Ges W p5 n5 x.den))∧Keeps (w.heap.size+3) W (fun W=>Row64 W p6 n6 x.pol))∧Keeps (w.heap.size+3) W (fun W=>Pms W p7 n7 x.maps))∧Keeps (w.heap.size+3) W (fun W=>XPs W p8 n8 x.ext)) #[.int .i64 x.ser,.slice p1 n1 n1,.slice p2 n2 n2,.int .i64 x.frm,.int .i64 x.til,.int .i64 x.key.1,.int .u64 x.key.2.1,.int .i64 x.key.2.2,.bool x.ca,.int .i64 x.room,.int .i64 x.uses,.slice p3 n3 n3,.slice p4 n4 n4,.slice p5 n5 n5,.slice p6 n6 n6,.slice p7 n7 n7,.int .i64 x.need,.int .i64 x.nomap,.int .i64 x.noany,.slice none 0 0,.slice none 0 0]):=(T26.out.on hb).more (stab_and T26.out.st (stab_keeps _ _)) ⟨(T26.out.on hb).r,hp.mono (by omega)⟩
 clear hb hp T26 l19 m26
 obtain ⟨o19,f19,l19⟩:=T27.out.out 19
 have o19:w27.cell? ⟨w.heap.size+1+1,19,none⟩=some (.slice none 0 0):=o19
 have l19:w27.cell? ⟨w.heap.size,19,none⟩=some (.slice a8 n8 c8):=l19
 have m27:=T27.out.lt
 obtain ⟨w28,hw28⟩:∃ W,W=(w27.setCell ⟨w.heap.size+1+1,19,none⟩ (.slice p8 n8 n8)):=⟨_,rfl⟩
 have T28:Hid (CEQ w w28 #[.int .i64 x.ser,.slice a1 n1 c1,.slice a2 n2 c2,.int .i64 x.frm,.int .i64 x.til,.int .i64 x.key.1,.int .u64 x.key.2.1,.int .i64 x.key.2.2,.bool x.ca,.int .i64 x.room,.int .i64 x.uses,.slice a3 n3 c3,.slice a4 n4 c4,.slice a5 n5 c5,.slice a6 n6 c6,.slice a7 n7 c7,.int .i64 x.need,.int .i64 x.nomap,.int .i64 x.noany,.slice a8 n8 c8,.slice a9 n9 c9] (fun W=>(((((((Keeps (w.heap.size+3) W (fun W=>Pts W p1 n1 x.iss))∧Keeps (w.heap.size+3) W (fun W=>Pts W p2 n2 x.sub))∧Keeps (w.heap.size+3) W (fun W=>Ges W p3 n3 x.nms))∧Keeps (w.heap.size+3) W (fun W=>Ges W p4 n4 x.per))∧Keeps (w.heap.size+3) W (fun W=>Ges W p5 n5 x.den))∧Keeps (w.heap.size+3) W (fun W=>Row64 W p6 n6 x.pol))∧Keeps (w.heap.size+3) W (fun W=>Pms W p7 n7 x.maps))∧Keeps (w.heap.size+3) W (fun W=>XPs W p8 n8 x.ext)) #[.int .i64 x.ser,.slice p1 n1 n1,.slice p2 n2 n2,.int .i64 x.frm,.int .i64 x.til,.int .i64 x.key.1,.int .u64 x.key.2.1,.int .i64 x.key.2.2,.bool x.ca,.int .i64 x.room,.int .i64 x.uses,.slice p3 n3 n3,.slice p4 n4 n4,.slice p5 n5 n5,.slice p6 n6 n6,.slice p7 n7 n7,.int .i64 x.need,.int .i64 x.nomap,.int .i64 x.noany,.slice p8 n8 n8,.slice none 0 0]):=by rw [hw28]; exact (T27.out.set 19 _ rfl)
 have HW28:Hid (_=_):=hw28
 clear hw28
 go_upto_region 20 with fail
 rw [← HW28.out]
 clear HW28 o19 f19 l19 m27 T27
 obtain ⟨_,_,l20⟩:=T28.out.out 20
 have l20:w28.cell? ⟨w.heap.size,20,none⟩=some (.slice a9 n9 c9):=l20
 have m28:=T28.out.lt
 go_wp2_with fail
 refine (toByteS_k a9 n9 c9 x.sig _ ((HK.out.kept T28.out.below).r9) HZ.out.2.2.2.2.2.2.2.2).mono ?_
 rintro e w29 ⟨p9,rfl,hp,hb⟩
 have T29:Hid (CEQ w w29 #[.int .i64 x.ser,.slice a1 n1 c1,.slice a2 n2 c2,.int .i64 x.frm,.int .i64 x.til,.int .i64 x.key.1,.int .u64 x.key.2.1,.int .i64 x.key.2.2,.bool x.ca,.int .i64 x.room,.int .i64 x.uses,.slice a3 n3 c3,.slice a4 n4 c4,.slice a5 n5 c5,.slice a6 n6 c6,.slice a7 n7 c7,.int .i64 x.need,.int .i64 x.nomap,.int .i64 x.noany,.slice a8 n8 c8,.slice a9 n9 c9] (fun W=>((((((((Keeps (w.heap.size+3) W (fun W=>Pts W p1 n1 x.iss))∧Keeps (w.heap.size+3) W (fun W=>Pts W p2 n2 x.sub))∧Keeps (w.heap.size+3) W (fun W=>Ges W p3 n3 x.nms))∧Keeps (w.heap.size+3) W (fun W=>Ges W p4 n4 x.per))∧Keeps (w.heap.size+3) W (fun W=>Ges W p5 n5 x.den))∧Keeps (w.heap.size+3) W (fun W=>Row64 W p6 n6 x.pol))∧Keeps (w.heap.size+3) W (fun W=>Pms W p7 n7 x.maps))∧Keeps (w.heap.size+3) W (fun W=>XPs W p8 n8 x.ext))∧Keeps (w.heap.size+3) W (fun W=>Row W p9 n9 x.sig)) #[.int .i64 x.ser,.slice p1 n1 n1,.slice p2 n2 n2,.int .i64 x.frm,.int .i64 x.til,.int .i64 x.key.1,.int .u64 x.key.2.1,.int .i64 x.key.2.2,.bool x.ca,.int .i64 x.room,.int .i64 x.uses,.slice p3 n3 n3,.slice p4 n4 n4,.slice p5 n5 n5,.slice p6 n6 n6,.slice p7 n7 n7,.int .i64 x.need,.int .i64 x.nomap,.int .i64 x.noany,.slice p8 n8 n8,.slice none 0 0]):=(T28.out.on hb).more (stab_and T28.out.st (stab_keeps _ _)) ⟨(T28.out.on hb).r,hp.mono (by omega)⟩
 clear hb hp T28 l20 m28
 obtain ⟨o20,f20,l20⟩:=T29.out.out 20
 have o20:w29.cell? ⟨w.heap.size+1+1,20,none⟩=some (.slice none 0 0):=o20
 have l20:w29.cell? ⟨w.heap.size,20,none⟩=some (.slice a9 n9 c9):=l20
 have m29:=T29.out.lt
 obtain ⟨w30,hw30⟩:∃ W,W=(w29.setCell ⟨w.heap.size+1+1,20,none⟩ (.slice p9 n9 n9)):=⟨_,rfl⟩
 have T30:Hid (CEQ w w30 #[.int .i64 x.ser,.slice a1 n1 c1,.slice a2 n2 c2,.int .i64 x.frm,.int .i64 x.til,.int .i64 x.key.1,.int .u64 x.key.2.1,.int .i64 x.key.2.2,.bool x.ca,.int .i64 x.room,.int .i64 x.uses,.slice a3 n3 c3,.slice a4 n4 c4,.slice a5 n5 c5,.slice a6 n6 c6,.slice a7 n7 c7,.int .i64 x.need,.int .i64 x.nomap,.int .i64 x.noany,.slice a8 n8 c8,.slice a9 n9 c9] (fun W=>((((((((Keeps (w.heap.size+3) W (fun W=>Pts W p1 n1 x.iss))∧Keeps (w.heap.size+3) W (fun W=>Pts W p2 n2 x.sub))∧Keeps (w.heap.size+3) W (fun W=>Ges W p3 n3 x.nms))∧Keeps (w.heap.size+3) W (fun W=>Ges W p4 n4 x.per))∧Keeps (w.heap.size+3) W (fun W=>Ges W p5 n5 x.den))∧Keeps (w.heap.size+3) W (fun W=>Row64 W p6 n6 x.pol))∧Keeps (w.heap.size+3) W (fun W=>Pms W p7 n7 x.maps))∧Keeps (w.heap.size+3) W (fun W=>XPs W p8 n8 x.ext))∧Keeps (w.heap.size+3) W (fun W=>Row W p9 n9 x.sig)) #[.int .i64 x.ser,.slice p1 n1 n1,.slice p2 n2 n2,.int .i64 x.frm,.int .i64 x.til,.int .i64 x.key.1,.int .u64 x.key.2.1,.int .i64 x.key.2.2,.bool x.ca,.int .i64 x.room,.int .i64 x.uses,.slice p3 n3 n3,.slice p4 n4 n4,.slice p5 n5 n5,.slice p6 n6 n6,.slice p7 n7 n7,.int .i64 x.need,.int .i64 x.nomap,.int .i64 x.noany,.slice p8 n8 n8,.slice p9 n9 n9]):=by rw [hw30]; exact (T29.out.set 20 _ rfl)
 have HW30:Hid (_=_):=hw30
 clear hw30
 go_upto_region 21 with fail
 rw [← HW30.out]
 clear HW30 o20 f20 l20 m29 T29
 have HMX:Hid (CER w ⟨a1,n1,c1,a2,n2,c2,a3,n3,c3,a4,n4,c4,a5,n5,c5,a6,n6,c6,a7,n7,c7,a8,n8,c8,a9,n9,c9⟩ x):=HK.out
 clear HK
 have hlF:=T30.out.lt
 rename_i K0 hK0
 apply wp_region_lit
 refine wpList_load_row rfl 46 _ rfl (w.heap.size+1+1) rfl 46 #[.int .i64 x.ser,.slice p1 n1 n1,.slice p2 n2 n2,.int .i64 x.frm,.int .i64 x.til,.int .i64 x.key.1,.int .u64 x.key.2.1,.int .i64 x.key.2.2,.bool x.ca,.int .i64 x.room,.int .i64 x.uses,.slice p3 n3 n3,.slice p4 n4 n4,.slice p5 n5 n5,.slice p6 n6 n6,.slice p7 n7 n7,.int .i64 x.need,.int .i64 x.nomap,.int .i64 x.noany,.slice p8 n8 n8,.slice p9 n9 n9] (0,0) _ T30.out.b2 Tryz.underlying46 rfl infoSizeCE ?_
 refine wpList_store_rowTo rfl 46 _ _ rfl rfl (w.heap.size+1) #[.int .i64 x.ser,.slice p1 n1 n1,.slice p2 n2 n2,.int .i64 x.frm,.int .i64 x.til,.int .i64 x.key.1,.int .u64 x.key.2.1,.int .i64 x.key.2.2,.bool x.ca,.int .i64 x.room,.int .i64 x.uses,.slice p3 n3 n3,.slice p4 n4 n4,.slice p5 n5 n5,.slice p6 n6 n6,.slice p7 n7 n7,.int .i64 x.need,.int .i64 x.nomap,.int .i64 x.noany,.slice p8 n8 n8,.slice p9 n9 n9] rfl rfl 46 #[.int .i64 0,.slice none 0 0,.slice none 0 0,.int .i64 0,.int .i64 0,.int .i64 0,.int .u64 0,.int .i64 0,.bool false,.int .i64 0,.int .i64 0,.slice none 0 0,.slice none 0 0,.slice none 0 0,.slice none 0 0,.slice none 0 0,.int .i64 0,.int .i64 0,.int .i64 0,.slice none 0 0,.slice none 0 0] T30.out.b1 infoSizeCE rfl (by simp [Value.oneCell']) ?_
 apply wpList_nil
 refine hK0 _ _ ?_
 clear hK0 K0
 have hrow:(w30.setRow (w.heap.size+1) #[.int .i64 x.ser,.slice p1 n1 n1,.slice p2 n2 n2,.int .i64 x.frm,.int .i64 x.til,.int .i64 x.key.1,.int .u64 x.key.2.1,.int .i64 x.key.2.2,.bool x.ca,.int .i64 x.room,.int .i64 x.uses,.slice p3 n3 n3,.slice p4 n4 n4,.slice p5 n5 n5,.slice p6 n6 n6,.slice p7 n7 n7,.int .i64 x.need,.int .i64 x.nomap,.int .i64 x.noany,.slice p8 n8 n8,.slice p9 n9 n9]).heap[w.heap.size+1]? = some (.cells #[.int .i64 x.ser,.slice p1 n1 n1,.slice p2 n2 n2,.int .i64 x.frm,.int .i64 x.til,.int .i64 x.key.1,.int .u64 x.key.2.1,.int .i64 x.key.2.2,.bool x.ca,.int .i64 x.room,.int .i64 x.uses,.slice p3 n3 n3,.slice p4 n4 n4,.slice p5 n5 n5,.slice p6 n6 n6,.slice p7 n7 n7,.int .i64 x.need,.int .i64 x.nomap,.int .i64 x.noany,.slice p8 n8 n8,.slice p9 n9 n9] 46 (0,0)):=setRow_heap _ _ _ _ _ _ T30.out.b1
 have hoth:∀ l,l≠w.heap.size+1→(w30.setRow (w.heap.size+1) #[.int .i64 x.ser,.slice p1 n1 n1,.slice p2 n2 n2,.int .i64 x.frm,.int .i64 x.til,.int .i64 x.key.1,.int .u64 x.key.2.1,.int .i64 x.key.2.2,.bool x.ca,.int .i64 x.room,.int .i64 x.uses,.slice p3 n3 n3,.slice p4 n4 n4,.slice p5 n5 n5,.slice p6 n6 n6,.slice p7 n7 n7,.int .i64 x.need,.int .i64 x.nomap,.int .i64 x.noany,.slice p8 n8 n8,.slice p9 n9 n9]).heap[l]? = w30.heap[l]?:=fun l hl=>setRow_other _ _ _ _ hl
 have hsz:(w30.setRow (w.heap.size+1) #[.int .i64 x.ser,.slice p1 n1 n1,.slice p2 n2 n2,.int .i64 x.frm,.int .i64 x.til,.int .i64 x.key.1,.int .u64 x.key.2.1,.int .i64 x.key.2.2,.bool x.ca,.int .i64 x.room,.int .i64 x.uses,.slice p3 n3 n3,.slice p4 n4 n4,.slice p5 n5 n5,.slice p6 n6 n6,.slice p7 n7 n7,.int .i64 x.need,.int .i64 x.nomap,.int .i64 x.noany,.slice p8 n8 n8,.slice p9 n9 n9]).heap.size=w30.heap.size:=by simp
 have hbF:Below w.heap.size w (w30.setRow (w.heap.size+1) #[.int .i64 x.ser,.slice p1 n1 n1,.slice p2 n2 n2,.int .i64 x.frm,.int .i64 x.til,.int .i64 x.key.1,.int .u64 x.key.2.1,.int .i64 x.key.2.2,.bool x.ca,.int .i64 x.room,.int .i64 x.uses,.slice p3 n3 n3,.slice p4 n4 n4,.slice p5 n5 n5,.slice p6 n6 n6,.slice p7 n7 n7,.int .i64 x.need,.int .i64 x.nomap,.int .i64 x.noany,.slice p8 n8 n8,.slice p9 n9 n9]):=⟨T30.out.below.os,T30.out.below.tape,T30.out.below.output,by rw [hsz]; exact T30.out.below.size,fun l hl=>(hoth l (by omega)).trans (T30.out.below.block l hl)⟩
 have hr:=T30.out.st w30 (w30.setRow (w.heap.size+1) #[.int .i64 x.ser,.slice p1 n1 n1,.slice p2 n2 n2,.int .i64 x.frm,.int .i64 x.til,.int .i64 x.key.1,.int .u64 x.key.2.1,.int .i64 x.key.2.2,.bool x.ca,.int .i64 x.room,.int .i64 x.uses,.slice p3 n3 n3,.slice p4 n4 n4,.slice p5 n5 n5,.slice p6 n6 n6,.slice p7 n7 n7,.int .i64 x.need,.int .i64 x.nomap,.int .i64 x.noany,.slice p8 n8 n8,.slice p9 n9 n9]) (fun l hl hl2=>hoth l (by omega)) (Nat.le_of_eq hsz.symm) T30.out.r
 go_wp2
 try simp only [Exit.inBlock,Exit.then]
 obtain ⟨⟨⟨⟨⟨⟨⟨⟨k1,k2⟩,k3⟩,k4⟩,k5⟩,k6⟩,k7⟩,k8⟩,k9⟩:=hr
 refine bodyPost_ret (results_cell_row rfl _ _ (w.heap.size+1) 46 _ (0,0) _ rfl hrow Tryz.underlying46 rfl infoSizeCE) rfl ⟨⟨p1,n1,n1,p2,n2,n2,p3,n3,n3,p4,n4,n4,p5,n5,n5,p6,n6,n6,p7,n7,n7,p8,n8,n8,p9,n9,n9⟩,rfl,⟨rfl,rfl,rfl,rfl,rfl,rfl,rfl,rfl,rfl⟩,Keeps.mono ((keeps_and (keeps_and (keeps_and (keeps_and (keeps_and (keeps_and (keeps_and (keeps_and k1 k2) k3) k4) k5) k6) k7) k8) k9).map fun W q=>?_) (by omega),hbF⟩
 obtain ⟨⟨⟨⟨⟨⟨⟨⟨h1,h2⟩,h3⟩,h4⟩,h5⟩,h6⟩,h7⟩,h8⟩,h9⟩:=q
 exact ⟨h1,h2,h3,h4,h5,h6,HMX.out.m6,h7,h8,h9,HMX.out.m9,nil_row h9⟩
end Go.Proofs.YtmdfbnlgfhjnoaaGreatDoor
